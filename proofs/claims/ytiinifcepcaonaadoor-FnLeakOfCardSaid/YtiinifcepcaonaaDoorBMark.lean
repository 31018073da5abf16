/- ExactList, Help, Mark, Stat, in one text. -/
import Derived.Test.YtiinifcepcaonaaDoorBWalk
import Derived.Test.YtiinifcepcaonaaDoorBRd
import Derived.Test.YtiinifcepcaonaaDoorBCl
/- markIntS, heldIntS, and the exact law of ElementsOf, walked. -/
namespace Go.Proofs.YtiinifcepcaonaaDoor
open Go.RowKit

theorem grown_trans' {w w1 w2 : World} {g : Nat} (h : w.grownBy w1 (some g)) (k : w1.grownBy w2 (some g)) : w.grownBy w2 (some g) :=
  ⟨k.os.trans h.os, k.tape.trans h.tape, k.output.trans h.output, Nat.le_trans h.size k.size, fun i hi hr => (k.block i (Nat.lt_of_lt_of_le hi h.size) hr).trans (h.block i hi hr)⟩

def markTo (xs : List Int) (m : Int) : Nat → List Int
  | 0 => xs
  | k + 1 => (markTo xs m k).set k (m + k)
theorem markTo_len (xs : List Int) (m : Int) : ∀ k, (markTo xs m k).length = xs.length
  | 0 => rfl
  | k + 1 => by unfold markTo; rw [List.length_set]; exact markTo_len xs m k
theorem markTo_nth (xs : List Int) (m : Int) : ∀ k, k ≤ xs.length → ∀ j, j < k → nth (markTo xs m k) j = m + j
  | 0, _, j, hj => by omega
  | k + 1, hk, j, hj => by
    have hl : k < (markTo xs m k).length := by rw [markTo_len]; omega
    unfold markTo nth
    rw [List.getD_eq_getElem?_getD]
    by_cases e : k = j
    · subst e; rw [List.getElem?_set_self hl]; rfl
    · rw [List.getElem?_set_ne e, ← List.getD_eq_getElem?_getD]
      exact markTo_nth xs m k (by omega) j (by omega)

theorem mark_any (v : Value) (xs : List Int) (m : Int) (B : Nat) (w : World) (h : Own w B v xs) (hl : xs.length ≤ 1000) (m0 : 0 ≤ m) (m1 : m ≤ 100000) :
    Calls Tryd.prog 19 #[v, .int .i64 m] w fun e w' => e = .returned (.int .i64 (m + xs.length)) ∧ Own w' B v (markTo xs m xs.length) ∧ w.grownBy w' v.ownBlock := by
  have hh := h
  rcases h.2 with ⟨rfl, hn⟩ | ⟨g, cap, cur, rfl, hB, hg, hnc, hcm, hcs, htake⟩
  · obtain rfl : xs = [] := List.length_eq_zero_iff.1 hn
    clear hn h
    have HH := Lib.hid hh; clear hh
    go_enter Tryd.func19, Tryd.ntmps19
    go_wp2
    go_loop [1, 5] (fun n i => n = .int .i64 m ∧ i = .int .i64 0) (fun _ _ => 0)
    case atStart => exact ⟨rfl, rfl⟩
    case round =>
      obtain ⟨rfl, rfl⟩ := hrel
      go_wp2
      go_ret
      exact ⟨by simp, HH.out, rfl, rfl, rfl, Nat.le_refl _, fun _ _ _ => rfl⟩
  · have HH := Lib.hid hh
    clear h hh hg hcs htake
    go_enter Tryd.func19, Tryd.ntmps19
    go_wp2
    go_loopw [1, 5] (fun n i wr => ∃ k : Nat, k ≤ xs.length ∧ i = .int .i64 k ∧ n = .int .i64 (m + k) ∧ Hid (Own wr B (.slice (some ⟨g, 0, none⟩) xs.length cap) (markTo xs m k)) ∧ Hid (w.grownBy wr (some g))) (fun _ i _ => xs.length - (intOf i).toNat)
    case atStart => exact ⟨0, by omega, rfl, by simp, Lib.hid HH.out, Lib.hid ⟨rfl, rfl, rfl, Nat.le_refl _, fun _ _ _ => rfl⟩⟩
    case round =>
      obtain ⟨k, hk, rfl, rfl, ho, hgr⟩ := hrel
      by_cases hlt : k < xs.length
      · have ho' : wr.ownsRow B 3 1 (.slice (some ⟨g, 0, none⟩) xs.length cap) xs.length ((markTo xs m k).map (Value.int .i64)) := by have := ho.out; unfold Own at this; rwa [markTo_len] at this
        have hf := ho'.frozenAt k
        have hc : wr.cell? ⟨g, k, none⟩ = some (.int .i64 (nth (markTo xs m k) k)) := by
          have hc := @World.ownsRow.cells _ _ _ _ _ _ _ ho' g rfl k (.int .i64 (nth (markTo xs m k) k)) (by
            have hl : k < (markTo xs m k).length := by rw [markTo_len]; omega
            rw [List.getElem?_map, List.getElem?_eq_getElem hl, nth_get hl]; rfl)
          have hadd : (⟨g, 0, none⟩ : Addr).add k = ⟨g, k, none⟩ := by unfold Addr.add; split <;> simp_all
          rw [← hadd]; exact hc
        have hst := ho'.stored k (.int .i64 (m + (k : Int)))
        have H1 : Hid (Own (wr.setCell ⟨g, k, none⟩ (.int .i64 (m + (k : Int)))) B (.slice (some ⟨g, 0, none⟩) xs.length cap) (markTo xs m (k + 1))) := Lib.hid (by
          unfold Own; rw [markTo_len]
          have := hst.1
          rwa [← List.map_set] at this)
        have H2 : Hid (w.grownBy (wr.setCell ⟨g, k, none⟩ (.int .i64 (m + (k : Int)))) (some g)) := Lib.hid (grown_trans' hgr.out hst.2)
        clear hst ho' ho hgr
        go_wp2
        go_roundw
        case rel => exact ⟨k + 1, by omega, by go_num, by go_num, H1, H2⟩
        case measure => simp [intOf]; omega
      · obtain rfl : k = xs.length := by omega
        go_wp2
        go_ret
        exact ⟨rfl, ho.out, hgr.out⟩

theorem held_any (v : Value) (ys : List Int) (m : Int) (w : World) (h : Ints w v ys) (hl : ys.length ≤ 1000) (m0 : 0 ≤ m) (m1 : m ≤ 100000) (hm : ∀ j, j < ys.length → nth ys j = m + j) :
    Calls Tryd.prog 20 #[v, .int .i64 m] w fun e w' => e = .returned (.int .i64 (m + ys.length)) ∧ w = w' := by
  rcases h with ⟨rfl, rfl⟩ | ⟨g, cap, rfl, hl', hg, hc⟩
  · clear hm
    go_enter Tryd.func20, Tryd.ntmps20
    go_wp2
    go_loop [1, 5] (fun n i => n = .int .i64 m ∧ i = .int .i64 0) (fun _ _ => 0)
    case atStart => exact ⟨rfl, rfl⟩
    case round =>
      obtain ⟨rfl, rfl⟩ := hrel
      go_wp2
      go_ret
      exact ⟨by simp, rfl⟩
  · have HC := Lib.hid hc; clear hc
    have HM := Lib.hid hm; clear hm hl'
    go_enter Tryd.func20, Tryd.ntmps20
    go_wp2
    go_loop [1, 5] (fun n i => ∃ k : Nat, k ≤ ys.length ∧ i = .int .i64 k ∧ n = .int .i64 (m + k)) (fun _ i => ys.length - (intOf i).toNat)
    case atStart => exact ⟨0, by omega, rfl, by simp⟩
    case round =>
      obtain ⟨k, hk, rfl, rfl⟩ := hrel
      by_cases hlt : k < ys.length
      · have hc := HC.out k hlt
        rw [HM.out k hlt] at hc
        go_wp2
        go_round
        case rel => exact ⟨k + 1, by omega, by go_num, by go_num⟩
        case measure => simp [intOf]; omega
      · obtain rfl : k = ys.length := by omega
        go_wp2
        go_ret
        exact ⟨rfl, rfl⟩

theorem els_max (g : Int) : (els g).length ≤ maxLen := by have := @els_len g; unfold maxLen; omega
theorem mark_max (g m : Int) (k : Nat) : (markTo (els g) m k).length ≤ maxLen := by rw [markTo_len]; exact els_max g
theorem Own.drew {w : World} {B : Nat} {v : Value} {xs : List Int} (h : Own w B v xs) (n : Nat) : Own (w.drewN n) B v xs := h
theorem own_apart {w w' : World} {B B' : Nat} {v u : Value} {xs : List Int} (h : Own w B v xs) (hlt : ∀ k, v.ownBlock = some k → k < B') (hu : ∀ k, u.ownBlock = some k → B' ≤ k) (hg : w.grownBy w' u.ownBlock) : Own w' B v xs :=
  h.kept hg (by
    cases hv : v.ownBlock with
    | none => exact .inl rfl
    | some k => exact .inr (fun e => by have := hlt k hv; have := hu k e.symm; omega))

end Go.Proofs.YtiinifcepcaonaaDoor

/- laws.szIntS, szIntSS, szClaim, szWords; eqIntSS, eqClaim, eqWords at equal ones. -/
namespace Go.Proofs.YtiinifcepcaonaaDoor
open Go.RowKit

/-- How many numbers the first k lists have. -/
def cnt (xss : List (List Int)) : Nat → Nat
  | 0 => 0
  | k + 1 => cnt xss k + (row xss k).length
theorem cnt_succ (xss : List (List Int)) (k : Nat) : cnt xss (k + 1) = cnt xss k + (row xss k).length := rfl
theorem cnt_mono (xss : List (List Int)) : ∀ {k n : Nat}, k ≤ n → cnt xss k ≤ cnt xss n
  | k, 0, h => by obtain rfl : k = 0 := by omega
                  exact Nat.le_refl _
  | k, n + 1, h => by
    by_cases e : k = n + 1
    · rw [e]; exact Nat.le_refl _
    · have := cnt_mono xss (show k ≤ n by omega)
      rw [cnt_succ]; omega
def szI (n : Nat) (left : Int) : Int := if left - n < 0 then -1 else left - n
theorem szI_cases (n : Nat) (left : Int) : (szI n left = -1 ∧ left < n) ∨ (szI n left = left - n ∧ (n : Int) ≤ left) := by
  unfold szI
  by_cases h : left - n < 0
  · rw [if_pos h]; exact .inl ⟨rfl, by omega⟩
  · rw [if_neg h]; exact .inr ⟨rfl, by omega⟩

theorem IntSSA.drewN {w : World} {a : Option Addr} {xss : List (List Int)} (h : IntSSA w a xss) (m : Nat) : IntSSA (w.drewN m) a xss := ⟨h.max, h.get⟩
theorem Ints.drewN {w : World} {v : Value} {xs : List Int} (h : Ints w v xs) (m : Nat) : Ints (w.drewN m) v xs := h
theorem eqs_same (v u : Value) (xs : List Int) (w : World) (h : Ints w v xs) (h' : Ints w u xs) : Calls Tryd.prog 17 #[v, u] w fun e w' => e = .returned (.bool true) ∧ ∃ m, w' = w.drewN m := by
  have c := eqs_any v u xs xs w h h'
  rwa [sameB_refl] at c
end Go.Proofs.YtiinifcepcaonaaDoor

/- laws.markIntS, markIntSS, markClaim, markWords, heldIntS, heldIntSS, heldWords. -/
namespace Go.Proofs.YtiinifcepcaonaaDoor
open Go.RowKit

theorem markI_any (v : Value) (xs : List Int) (m : Int) (B : Nat) (w : World) (h : Own w B v xs) (hl : xs.length ≤ 4000000) (m0 : 0 ≤ m) (m1 : m ≤ 1000000000) :
    Calls Tryd.prog 19 #[v, .int .i64 m] w fun e w' => e = .returned (.int .i64 (m + xs.length)) ∧ Own w' B v (markTo xs m xs.length) ∧ w.grownBy w' v.ownBlock := by
  have hh := h
  rcases h.2 with ⟨rfl, hn⟩ | ⟨g, cap, cur, rfl, hB, hg, hnc, hcm, hcs, htake⟩
  · obtain rfl : xs = [] := List.length_eq_zero_iff.1 hn
    clear hn h
    have HH := Lib.hid hh; clear hh
    go_enter Tryd.func19, Tryd.ntmps19
    go_wp2
    go_loop [1, 5] (fun n i => n = .int .i64 m ∧ i = .int .i64 0) (fun _ _ => 0)
    case atStart => exact ⟨rfl, rfl⟩
    case round =>
      obtain ⟨rfl, rfl⟩ := hrel
      go_wp2
      go_ret
      exact ⟨by simp, HH.out, rfl, rfl, rfl, Nat.le_refl _, fun _ _ _ => rfl⟩
  · have HH := Lib.hid hh
    clear h hh hg hcs htake
    go_enter Tryd.func19, Tryd.ntmps19
    go_wp2
    go_loopw [1, 5] (fun n i wr => ∃ k : Nat, k ≤ xs.length ∧ i = .int .i64 k ∧ n = .int .i64 (m + k) ∧ Hid (Own wr B (.slice (some ⟨g, 0, none⟩) xs.length cap) (markTo xs m k)) ∧ Hid (w.grownBy wr (some g))) (fun _ i _ => xs.length - (intOf i).toNat)
    case atStart => exact ⟨0, by omega, rfl, by simp, Lib.hid HH.out, Lib.hid ⟨rfl, rfl, rfl, Nat.le_refl _, fun _ _ _ => rfl⟩⟩
    case round =>
      obtain ⟨k, hk, rfl, rfl, ho, hgr⟩ := hrel
      by_cases hlt : k < xs.length
      · obtain ⟨⟨f0, c0⟩, o1, g1⟩ := ho.out.set (markTo_len xs m k) hlt (m + (k : Int))
        have H1 : Hid (Own (wr.setCell ⟨g, k, none⟩ (.int .i64 (m + (k : Int)))) B (.slice (some ⟨g, 0, none⟩) xs.length cap) (markTo xs m (k + 1))) := Lib.hid o1
        have H2 : Hid (w.grownBy (wr.setCell ⟨g, k, none⟩ (.int .i64 (m + (k : Int)))) (some g)) := Lib.hid (grown_trans' hgr.out g1)
        clear o1 g1 ho hgr
        go_wp2
        go_roundw
        case rel => exact ⟨k + 1, by omega, by go_num, by go_num, H1, H2⟩
        case measure => simp [intOf]; omega
      · obtain rfl : k = xs.length := by omega
        go_wp2
        go_ret
        exact ⟨rfl, ho.out, hgr.out⟩

theorem heldI_any (v : Value) (ys : List Int) (m : Int) (w : World) (h : Ints w v ys) (hl : ys.length ≤ 4000000) (m0 : 0 ≤ m) (m1 : m ≤ 1000000000) (hm : ∀ j, j < ys.length → nth ys j = m + j) :
    Calls Tryd.prog 20 #[v, .int .i64 m] w fun e w' => e = .returned (.int .i64 (m + ys.length)) ∧ w = w' := by
  obtain ⟨a, c, rfl, k1⟩ := h.opened
  have HC := Lib.hid k1.get
  have HM := Lib.hid hm; clear hm h k1
  go_enter Tryd.func20, Tryd.ntmps20
  go_wp2
  go_loop [1, 5] (fun n i => ∃ k : Nat, k ≤ ys.length ∧ i = .int .i64 k ∧ n = .int .i64 (m + k)) (fun _ i => ys.length - (intOf i).toNat)
  case atStart => exact ⟨0, by omega, rfl, by simp⟩
  case round =>
    obtain ⟨k, hk, rfl, rfl⟩ := hrel
    by_cases hlt : k < ys.length
    · obtain ⟨g, rfl, _, hc⟩ := HC.out k hlt
      rw [HM.out k hlt] at hc
      go_wp2
      go_round
      case rel => exact ⟨k + 1, by omega, by go_num, by go_num⟩
      case measure => simp [intOf]; omega
    · obtain rfl : k = ys.length := by omega
      go_wp2
      go_ret
      exact ⟨rfl, rfl⟩

/-- The first k lists marked. -/
def markS (xss : List (List Int)) (m : Int) : Nat → List (List Int)
  | 0 => xss
  | k + 1 => (markS xss m k).set k (markTo (row xss k) (m + cnt xss k) (row xss k).length)
theorem markS_len (xss : List (List Int)) (m : Int) : ∀ k, (markS xss m k).length = xss.length
  | 0 => rfl
  | k + 1 => by unfold markS; rw [List.length_set]; exact markS_len xss m k
theorem markS_rest (xss : List (List Int)) (m : Int) : ∀ k j, k ≤ j → row (markS xss m k) j = row xss j
  | 0, j, _ => rfl
  | k + 1, j, h => by unfold markS; rw [row_set_ne (by omega)]; exact markS_rest xss m k j (by omega)
theorem markS_row (xss : List (List Int)) (m : Int) : ∀ k, k ≤ xss.length → ∀ j, j < k → row (markS xss m k) j = markTo (row xss j) (m + cnt xss j) (row xss j).length
  | 0, _, j, hj => by omega
  | k + 1, hk, j, hj => by
    unfold markS
    by_cases e : k = j
    · subst e; rw [row_set (by rw [markS_len]; omega)]
    · rw [row_set_ne e]; exact markS_row xss m k (by omega) j (by omega)
theorem OwnSS.grown_out {w w' : World} {lo hi j : Nat} {v : Value} {us : List Value} {xss : List (List Int)} (h : OwnSS w lo hi v us xss) (hj : j < us.length) (hg : w.grownBy w' (val us j).ownBlock) : Outside lo hi w w' :=
  Outside.of_grown hg fun k hk => ⟨((h.rows j hj).lt k hk).1, h.his j hj k hk⟩

theorem Outside.alloc {lo hi : Nat} {w w' : World} (o : Obj) (h : Outside lo hi (w.alloc o) w') : Outside lo hi w w' :=
  ⟨h.os, h.tape, h.output, Nat.le_trans (by simp) h.size, fun k hk hr => (h.block k (by simp; omega) hr).trans (Below.heap_alloc w o k hk)⟩
theorem Outside.wider {lo lo' hi hi' : Nat} {w w' : World} (h : Outside lo hi w w') (h1 : lo' ≤ lo) (h2 : hi ≤ hi') : Outside lo' hi' w w' :=
  ⟨h.os, h.tape, h.output, h.size, fun k hk hr => h.block k hk (by omega)⟩
theorem Outside.box {lo hi N : Nat} {w w' : World} {cs : List Value} (h : Outside lo hi w w') (hb : Box w N cs) (hN : hi ≤ N) : Box w' N cs := by
  have hl := hb.lt
  obtain ⟨T, hb⟩ := hb
  exact ⟨T, by rw [h.block N hl (.inr hN)]; exact hb⟩

theorem small {n : Nat} (h : n ≤ 1048576) : n ≤ maxLen := by unfold maxLen; omega
theorem small3 {n : Nat} (h : n ≤ 1000) : n ≤ maxLen := by unfold maxLen; omega
theorem OwnW.lower {w : World} {lo lo' hi : Nat} {sv tv : Value} {ss ts : List Int} (h : OwnW w lo hi sv tv ss ts) (hl : lo' ≤ lo) : OwnW w lo' hi sv tv ss ts := ⟨own_mono h.s hl, own_mono h.t hl, h.apart, h.his, h.hit⟩
theorem OwnW.far {w w' : World} {lo hi lo' hi' : Nat} {sv tv : Value} {ss ts : List Int} (h : Outside lo hi w w') (ho : OwnW w lo' hi' sv tv ss ts) (hB : hi ≤ lo') : OwnW w' lo' hi' sv tv ss ts := ⟨h.own ho.s hB, h.own ho.t hB, ho.apart, ho.his, ho.hit⟩
theorem OwnCl.cw {w : World} {lo hi : Nat} {rv mv : Value} {us : List Value} {xss : List (List Int)} {ms : List Int} (h : OwnCl w lo hi rv mv us xss ms) (s1 : xss.length ≤ 1048576) (s2 : ∀ j, j < xss.length → (row xss j).length ≤ 1048576) (s3 : ms.length ≤ 1048576) : Cw w rv mv xss ms := by
  obtain ⟨mid, _, _, c, d⟩ := h.parts
  exact ⟨c.ints (small s1) fun j hj => small (s2 j hj), Ints.of_own d (small s3)⟩
theorem OwnCl.form {w : World} {lo hi : Nat} {rv mv : Value} {us : List Value} {xss : List (List Int)} {ms : List Int} (h : OwnCl w lo hi rv mv us xss ms) : (∃ a c, rv = .slice a xss.length c) ∧ ∃ a c, mv = .slice a ms.length c := by
  obtain ⟨mid, _, _, c, d⟩ := h.parts
  exact ⟨c.form, Own.form d⟩
theorem bne_self (b : Bool) : (b != b) = false := by cases b <;> rfl
end Go.Proofs.YtiinifcepcaonaaDoor

/- What an exact law's walk knows: boxes, and lists of the call's own in intervals of blocks. -/
namespace Go.Proofs.YtiinifcepcaonaaDoor
open Go.RowKit

/-- Memory made by a call, in the blocks from lo to hi: a list, two lists apart, a list of lists. -/
inductive Cp where
  | l (lo hi : Nat) (v : Value) (xs : List Int)
  | p (lo hi : Nat) (v u : Value) (xs ys : List Int)
  | s (lo hi : Nat) (v : Value) (us : List Value) (xss : List (List Int))
  | o (lo hi : Nat) (K : World → Prop) (st : ∀ w w' : World, K w → (∀ k, lo ≤ k → k < hi → w'.heap[k]? = w.heap[k]?) → K w')
def Cp.lo : Cp → Nat
  | .l lo _ _ _ => lo
  | .p lo _ _ _ _ _ => lo
  | .s lo _ _ _ _ => lo
  | .o lo _ _ _ => lo
def Cp.hi : Cp → Nat
  | .l _ hi _ _ => hi
  | .p _ hi _ _ _ _ => hi
  | .s _ hi _ _ _ => hi
  | .o _ hi _ _ => hi
def Hl (w : World) : Cp → Prop
  | .l lo hi v xs => Own w lo v xs ∧ (∀ k, v.ownBlock = some k → k < hi) ∧ hi ≤ w.heap.size
  | .p lo hi v u xs ys => Own w lo v xs ∧ Own w lo u ys ∧ (∀ k, v.ownBlock = some k → u.ownBlock = some k → False) ∧ (∀ k, v.ownBlock = some k → k < hi) ∧ (∀ k, u.ownBlock = some k → k < hi) ∧ hi ≤ w.heap.size
  | .s lo hi v us xss => OwnSS w lo hi v us xss ∧ hi ≤ w.heap.size
  | .o _ hi K _ => K w ∧ hi ≤ w.heap.size
theorem Hl.size {w : World} {c : Cp} (h : Hl w c) : c.hi ≤ w.heap.size := by
  cases c with
  | l => exact h.2.2
  | p => exact h.2.2.2.2.2
  | s => exact h.2
  | o => exact h.2
theorem Hl.out {w w' : World} {c : Cp} {lo hi : Nat} (h : Hl w c) (ho : Outside lo hi w w') (hd : c.hi ≤ lo ∨ hi ≤ c.lo) : Hl w' c := by
  have hs := ho.size
  have key : ∀ (B H : Nat) (v : Value) (xs : List Int), Own w B v xs → (∀ k, v.ownBlock = some k → k < H) → (H ≤ lo ∨ hi ≤ B) → Own w' B v xs := fun B H v xs h1 h2 h3 =>
    own_heap h1 fun k hk => ho.block k (h1.lt k hk).2 (by have := (h1.lt k hk).1; have := h2 k hk; omega)
  cases c with
  | l a b v xs => exact ⟨key a b v xs h.1 h.2.1 hd, h.2.1, Nat.le_trans h.2.2 hs⟩
  | p a b v u xs ys => exact ⟨key a b v xs h.1 h.2.2.2.1 hd, key a b u ys h.2.1 h.2.2.2.2.1 hd, h.2.2.1, h.2.2.2.1, h.2.2.2.2.1, Nat.le_trans h.2.2.2.2.2 hs⟩
  | s a b v us xss => exact ⟨h.1.heap fun k h1 h2 => ho.block k (Nat.lt_of_lt_of_le h2 h.2) (by have : b ≤ lo ∨ hi ≤ a := hd; omega), Nat.le_trans h.2 hs⟩
  | o a b K st => exact ⟨st _ _ h.1 fun k h1 h2 => ho.block k (Nat.lt_of_lt_of_le h2 h.2) (by have : b ≤ lo ∨ hi ≤ a := hd; omega), Nat.le_trans h.2 hs⟩
theorem Hl.on {w w' : World} {c : Cp} (h : Hl w c) (hb : Below w.heap.size w w') : Hl w' c := by
  cases c with
  | l a b v xs => exact ⟨own_below h.1 hb, h.2.1, Nat.le_trans h.2.2 hb.size⟩
  | p a b v u xs ys => exact ⟨own_below h.1 hb, own_below h.2.1 hb, h.2.2.1, h.2.2.2.1, h.2.2.2.2.1, Nat.le_trans h.2.2.2.2.2 hb.size⟩
  | s a b v us xss => exact ⟨h.1.on hb, Nat.le_trans h.2 hb.size⟩
  | o a b K st => exact ⟨st _ _ h.1 fun k _ h2 => hb.block k (Nat.lt_of_lt_of_le h2 h.2), Nat.le_trans h.2 hb.size⟩
theorem Hl.mk1 {w : World} {B : Nat} {v : Value} {xs : List Int} (h : Own w B v xs) : Hl w (.l B w.heap.size v xs) := ⟨h, fun k hk => (h.lt k hk).2, Nat.le_refl _⟩
theorem Hl.mk2 {w : World} {B : Nat} {v u : Value} {xs ys : List Int} (h : Own w B v xs) (h' : Own w B u ys) (ha : ∀ k, v.ownBlock = some k → u.ownBlock = some k → False) : Hl w (.p B w.heap.size v u xs ys) := ⟨h, h', ha, fun k hk => (h.lt k hk).2, fun k hk => (h'.lt k hk).2, Nat.le_refl _⟩
theorem Hl.mk3 {w : World} {lo hi : Nat} {v : Value} {us : List Value} {xss : List (List Int)} (h : OwnSS w lo hi v us xss) (hh : hi ≤ w.heap.size) : Hl w (.s lo hi v us xss) := ⟨h, hh⟩
theorem Box.out {lo hi N : Nat} {w w' : World} {cs : List Value} (h : Box w N cs) (ho : Outside lo hi w w') (hN : N < lo ∨ hi ≤ N) : Box w' N cs := by
  have hl := h.lt
  obtain ⟨T, h⟩ := h
  exact ⟨T, by rw [ho.block N hl hN]; exact h⟩

/-- The world w', behind w0: its boxes, and memory of the call's own. -/
structure Sx (w0 : World) (Bs : List (Nat × List Value)) (L : List Cp) (w' : World) : Prop where
  be : Below w0.heap.size w0 w'
  bx : ∀ b, b ∈ Bs → Box w' b.1 b.2
  ls : ∀ c, c ∈ L → Hl w' c
section
variable {w0 w' w'' : World} {Bs Bs' : List (Nat × List Value)} {L L' : List Cp}
theorem Sx.on (h : Sx w0 Bs L w') (hb : Below w'.heap.size w' w'') : Sx w0 Bs L w'' := ⟨Below.on h.be hb, fun b m => (h.bx b m).on hb, fun c m => (h.ls c m).on hb⟩
theorem Sx.add {c : Cp} (h : Sx w0 Bs L w') (hc : Hl w' c) : Sx w0 Bs (c :: L) w' := by
  refine ⟨h.be, h.bx, fun x m => ?_⟩
  rcases List.mem_cons.1 m with rfl | m
  · exact hc
  · exact h.ls x m
theorem Sx.box {N : Nat} {cs : List Value} (h : Sx w0 Bs L w') (hc : Box w' N cs) : Sx w0 ((N, cs) :: Bs) L w' := by
  refine ⟨h.be, fun x m => ?_, h.ls⟩
  rcases List.mem_cons.1 m with rfl | m
  · exact hc
  · exact h.bx x m
/-- A box more. -/
theorem Sx.made (h : Sx w0 Bs L w') (cs : List Value) (T : TypeId) : Sx w0 ((w'.heap.size, cs) :: Bs) L (w'.alloc (.cells cs.toArray T)) := (h.on (below_grow w' _)).box (Box.made w' cs T)
theorem Sx.sub (h : Sx w0 Bs L w') (hb : ∀ b, b ∈ Bs' → b ∈ Bs) (hl : ∀ c, c ∈ L' → c ∈ L) : Sx w0 Bs' L' w' := ⟨h.be, fun b m => h.bx b (hb b m), fun c m => h.ls c (hl c m)⟩
/-- Some memory written to. -/
theorem Sx.mark {lo hi : Nat} (h : Sx w0 Bs L w') (ho : Outside lo hi w' w'') (h0 : w0.heap.size ≤ lo) (h1 : lo ≤ w'.heap.size) (hb : ∀ b, b ∈ Bs → b.1 < lo ∨ hi ≤ b.1) (hl : ∀ c, c ∈ L → c.hi ≤ lo ∨ hi ≤ c.lo) : Sx w0 Bs L w'' :=
  ⟨h.be.trans ((ho.below h1).mono h0), fun b m => (h.bx b m).out ho (hb b m), fun c m => (h.ls c m).out ho (hl c m)⟩
end
theorem Sx.markAt {w0 w' w'' : World} {Bs : List (Nat × List Value)} {L1 L2 : List Cp} {c c' : Cp} {lo hi : Nat} (h : Sx w0 Bs (L1 ++ c :: L2) w') (ho : Outside lo hi w' w'') (hc : Hl w'' c') (h0 : w0.heap.size ≤ lo) (h1 : lo ≤ w'.heap.size)
    (hb : ∀ b, b ∈ Bs → b.1 < lo ∨ hi ≤ b.1) (hl : ∀ x, x ∈ L1 ++ L2 → x.hi ≤ lo ∨ hi ≤ x.lo) : Sx w0 Bs (L1 ++ c' :: L2) w'' := by
  refine ⟨h.be.trans ((ho.below h1).mono h0), fun b m => (h.bx b m).out ho (hb b m), fun x m => ?_⟩
  have hin : ∀ x, x ∈ L1 ∨ x ∈ L2 → Hl w'' x := fun x m => (h.ls x (by
    rcases m with m | m
    · exact List.mem_append_left _ m
    · exact List.mem_append_right _ (List.mem_cons_of_mem _ m))).out ho (hl x (by
    rcases m with m | m
    · exact List.mem_append_left _ m
    · exact List.mem_append_right _ m))
  rcases List.mem_append.1 m with m | m
  · exact hin x (.inl m)
  · rcases List.mem_cons.1 m with rfl | m
    · exact hc
    · exact hin x (.inr m)
theorem all_nil {α : Type} {p : α → Prop} : ∀ x, x ∈ ([] : List α) → p x := fun x m => (by cases m)
theorem all_cons {α : Type} {p : α → Prop} {a : α} {l : List α} (h : p a) (t : ∀ x, x ∈ l → p x) : ∀ x, x ∈ a :: l → p x := fun x m => by
  rcases List.mem_cons.1 m with rfl | m
  · exact h
  · exact t x m
theorem Sx.start (w : World) : Sx w [] [] w := ⟨Below.refl _ _, fun b m => (by cases m), fun c m => (by cases m)⟩
theorem bx3 {w : World} (P R O : List Value) (T1 T2 T3 : TypeId) : Hid (∃ W : World, W = ((w.alloc (.cells P.toArray T1)).alloc (.cells R.toArray T2)).alloc (.cells O.toArray T3) ∧ W.heap.size = w.heap.size + 1 + 1 + 1 ∧
    Below w.heap.size w W ∧ Box W w.heap.size P ∧ Box W (w.heap.size + 1) R ∧ Box W (w.heap.size + 1 + 1) O) := by
  obtain ⟨h1, h2, h3, h4⟩ := boxes3 (w := w) (P := P) (R := R) (O := O) (T1 := T1) (T2 := T2) (T3 := T3) (Below.refl _ _)
  exact Lib.hid ⟨_, rfl, by simp, h4, h1, h2, h3⟩
theorem small20 {n : Nat} (h : n ≤ 1048576) : n ≤ maxLen := by unfold maxLen; omega

/-- In a region that draws its order: what was copied so far, beside the base. -/
structure Zx (W : World) (L : List Cp) (b : Option (Nat × List Value)) (w' : World) : Prop where
  be : Below W.heap.size W w'
  ls : ∀ c, c ∈ L → Hl w' c
  bx : ∀ N cs, b = some (N, cs) → W.heap.size ≤ N ∧ Box w' N cs ∧ ∀ c, c ∈ L → N < c.lo ∨ c.hi ≤ N
section
variable {W w' w'' : World} {L L' : List Cp} {b : Option (Nat × List Value)}
theorem Zx.start (h : Below W.heap.size W w') : Zx W [] none w' := ⟨h, fun c m => (by cases m), fun N cs e => (by cases e)⟩
theorem Zx.on (h : Zx W L b w') (hb : Below w'.heap.size w' w'') : Zx W L b w'' := ⟨Below.on h.be hb, fun c m => (h.ls c m).on hb, fun N cs e => ⟨(h.bx N cs e).1, (h.bx N cs e).2.1.on hb, (h.bx N cs e).2.2⟩⟩
theorem Zx.add {c : Cp} (h : Zx W L b w') (hb : Below w'.heap.size w' w'') (hc : Hl w'' c) (h1 : w'.heap.size ≤ c.lo) : Zx W (c :: L) b w'' := by
  refine ⟨Below.on h.be hb, fun x m => ?_, fun N cs e => ?_⟩
  · rcases List.mem_cons.1 m with rfl | m
    · exact hc
    · exact (h.ls x m).on hb
  · obtain ⟨a1, a2, a3⟩ := h.bx N cs e
    refine ⟨a1, a2.on hb, fun x m => ?_⟩
    rcases List.mem_cons.1 m with rfl | m
    · have := a2.lt; omega
    · exact a3 x m
theorem Zx.sub (h : Zx W L b w') (hl : ∀ c, c ∈ L' → c ∈ L) : Zx W L' b w' := ⟨h.be, fun c m => h.ls c (hl c m), fun N cs e => ⟨(h.bx N cs e).1, (h.bx N cs e).2.1, fun c m => (h.bx N cs e).2.2 c (hl c m)⟩⟩
theorem Zx.made (h : Zx W L none w') (cs : List Value) (T : TypeId) : Zx W L (some (w'.heap.size, cs)) (w'.alloc (.cells cs.toArray T)) := by
  have hb := below_grow w' (.cells cs.toArray T)
  refine ⟨Below.on h.be hb, fun c m => (h.ls c m).on hb, fun N cs' e => ?_⟩
  cases e
  exact ⟨h.be.size, Box.made w' cs T, fun c m => .inr (h.ls c m).size⟩
/-- One cell of the box written to. -/
theorem Zx.put {N : Nat} {cs : List Value} (h : Zx W L (some (N, cs)) w') (j : Nat) (v : Value) : Zx W L (some (N, cs.set j v)) (w'.setCell ⟨N, j, none⟩ v) := by
  obtain ⟨a1, a2, a3⟩ := h.bx N cs rfl
  have ho : Outside N (N + 1) w' (w'.setCell ⟨N, j, none⟩ v) := ⟨rfl, rfl, rfl, by simp [World.setCell], fun k hk hr => Below.heap_setCell _ _ _ _ (by show k ≠ N; omega)⟩
  refine ⟨h.be.setCell a1 _, fun c m => (h.ls c m).out ho (by have := a3 c m; omega), fun N' cs' e => ?_⟩
  cases e
  exact ⟨a1, a2.set j v, a3⟩
theorem Zx.fin {w0 : World} {Bs : List (Nat × List Value)} {L0 : List Cp} {N : Nat} {cs : List Value} (h : Zx W L (some (N, cs)) w') (h0 : Sx w0 Bs L0 W) : Sx w0 ((N, cs) :: Bs) (L ++ L0) w' := by
  have k := h0.on h.be
  refine ⟨k.be, fun x m => ?_, fun x m => ?_⟩
  · rcases List.mem_cons.1 m with rfl | m
    · exact (h.bx N cs rfl).2.1
    · exact k.bx x m
  · rcases List.mem_append.1 m with m | m
    · exact h.ls x m
    · exact k.ls x m
theorem Zx.fin0 {w0 : World} {Bs : List (Nat × List Value)} {L0 : List Cp} {b : Option (Nat × List Value)} (h : Zx W L b w') (h0 : Sx w0 Bs L0 W) : Sx w0 Bs (L ++ L0) w' := by
  have k := h0.on h.be
  refine ⟨k.be, k.bx, fun x m => ?_⟩
  rcases List.mem_append.1 m with m | m
  · exact h.ls x m
  · exact k.ls x m
end

theorem eqI_any (v u : Value) (xs : List Int) (w : World) (h : Ints w v xs) (h' : Ints w u xs) : Calls Tryd.prog 17 #[v, u] w fun e w' => e = .returned (.bool true) ∧ Below w.heap.size w w' :=
  (eqs_same v u xs w h h').mono fun _ _ ⟨a, _, b⟩ => ⟨a, below_of_drew b⟩
theorem mkI_any (lo hi : Nat) (v : Value) (xs : List Int) (m : Int) (w : World) (h : Hl w (.l lo hi v xs)) (hl : xs.length ≤ 4000000) (m0 : 0 ≤ m) (m1 : m ≤ 1000000000) :
    Calls Tryd.prog 19 #[v, .int .i64 m] w fun e w' => e = .returned (.int .i64 (m + xs.length)) ∧ Hl w' (.l lo hi v (markTo xs m xs.length)) ∧ Outside lo hi w w' :=
  (markI_any v xs m lo w h.1 hl m0 m1).mono fun _ _ ⟨a, b, g⟩ => ⟨a, ⟨b, h.2.1, Nat.le_trans h.2.2 g.size⟩, Outside.of_grown g fun k hk => ⟨(h.1.lt k hk).1, h.2.1 k hk⟩⟩
theorem hdI_any (v : Value) (ys : List Int) (m : Int) (w : World) (h : Ints w v (markTo ys m ys.length)) (hl : ys.length ≤ 4000000) (m0 : 0 ≤ m) (m1 : m ≤ 1000000000) :
    Calls Tryd.prog 20 #[v, .int .i64 m] w fun e w' => e = .returned (.int .i64 (m + ys.length)) ∧ Below w.heap.size w w' := by
  have h1 := heldI_any v (markTo ys m ys.length) m w h (by rw [markTo_len]; exact hl) m0 m1 (fun j hj => markTo_nth _ _ _ (Nat.le_refl _) j (by rwa [markTo_len] at hj))
  rw [markTo_len] at h1
  exact h1.mono fun _ _ ⟨a, b⟩ => ⟨a, by subst b; exact Below.refl _ _⟩
end Go.Proofs.YtiinifcepcaonaaDoor
