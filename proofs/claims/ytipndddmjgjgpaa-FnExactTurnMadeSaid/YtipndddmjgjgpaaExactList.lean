/- markIntS, heldIntS, and the exact law of ElementsOf, walked. -/
import Derived.Test.YtipndddmjgjgpaaBWalk
namespace Go.Proofs.Ytipndddmjgjgpaa
open Go.RowKit

theorem grown_trans' {w w1 w2 : World} {g : Nat} (h : w.grownBy w1 (some g)) (k : w1.grownBy w2 (some g)) : w.grownBy w2 (some g) :=
  ⟨k.os.trans h.os, k.tape.trans h.tape, k.output.trans h.output, Nat.le_trans h.size k.size, fun i hi hr => (k.block i (Nat.lt_of_lt_of_le hi h.size) hr).trans (h.block i hi hr)⟩

def markTo (xs : List Int) (m : Int) : Nat → List Int
  | 0 => xs
  | k + 1 => (markTo xs m k).set k (m + k)
theorem markTo_len (xs : List Int) (m : Int) : ∀ k, (markTo xs m k).length = xs.length
  | 0 => rfl
  | k + 1 => by unfold markTo; rw [List.length_set]; exact markTo_len xs m k
theorem markTo_nth (xs : List Int) (m : Int) : ∀ k, k ≤ xs.length → ∀ j, j < k → nth (markTo xs m k) j = m + j
  | 0, _, j, hj => by omega
  | k + 1, hk, j, hj => by
    have hl : k < (markTo xs m k).length := by rw [markTo_len]; omega
    unfold markTo nth
    rw [List.getD_eq_getElem?_getD]
    by_cases e : k = j
    · subst e; rw [List.getElem?_set_self hl]; rfl
    · rw [List.getElem?_set_ne e, ← List.getD_eq_getElem?_getD]
      exact markTo_nth xs m k (by omega) j (by omega)

theorem mark_any (v : Value) (xs : List Int) (m : Int) (B : Nat) (w : World) (h : Own w B v xs) (hl : xs.length ≤ 1000) (m0 : 0 ≤ m) (m1 : m ≤ 100000) :
    Calls Try.prog 26 #[v, .int .i64 m] w fun e w' => e = .returned (.int .i64 (m + xs.length)) ∧ Own w' B v (markTo xs m xs.length) ∧ w.grownBy w' v.ownBlock := by
  have hh := h
  rcases h.2 with ⟨rfl, hn⟩ | ⟨g, cap, cur, rfl, hB, hg, hnc, hcm, hcs, htake⟩
  · obtain rfl : xs = [] := List.length_eq_zero_iff.1 hn
    clear hn h
    have HH := Lib.hid hh; clear hh
    go_enter Try.func26, Try.ntmps26
    go_wp2
    go_loop [1, 5] (fun n i => n = .int .i64 m ∧ i = .int .i64 0) (fun _ _ => 0)
    case atStart => exact ⟨rfl, rfl⟩
    case round =>
      obtain ⟨rfl, rfl⟩ := hrel
      go_wp2
      go_ret
      exact ⟨by simp, HH.out, rfl, rfl, rfl, Nat.le_refl _, fun _ _ _ => rfl⟩
  · have HH := Lib.hid hh
    clear h hh hg hcs htake
    go_enter Try.func26, Try.ntmps26
    go_wp2
    go_loopw [1, 5] (fun n i wr => ∃ k : Nat, k ≤ xs.length ∧ i = .int .i64 k ∧ n = .int .i64 (m + k) ∧ Hid (Own wr B (.slice (some ⟨g, 0, none⟩) xs.length cap) (markTo xs m k)) ∧ Hid (w.grownBy wr (some g))) (fun _ i _ => xs.length - (intOf i).toNat)
    case atStart => exact ⟨0, by omega, rfl, by simp, Lib.hid HH.out, Lib.hid ⟨rfl, rfl, rfl, Nat.le_refl _, fun _ _ _ => rfl⟩⟩
    case round =>
      obtain ⟨k, hk, rfl, rfl, ho, hgr⟩ := hrel
      by_cases hlt : k < xs.length
      · have ho' : wr.ownsRow B 3 1 (.slice (some ⟨g, 0, none⟩) xs.length cap) xs.length ((markTo xs m k).map (Value.int .i64)) := by have := ho.out; unfold Own at this; rwa [markTo_len] at this
        have hf := ho'.frozenAt k
        have hc : wr.cell? ⟨g, k, none⟩ = some (.int .i64 (nth (markTo xs m k) k)) := by
          have hc := @World.ownsRow.cells _ _ _ _ _ _ _ ho' g rfl k (.int .i64 (nth (markTo xs m k) k)) (by
            have hl : k < (markTo xs m k).length := by rw [markTo_len]; omega
            rw [List.getElem?_map, List.getElem?_eq_getElem hl, nth_get hl]; rfl)
          have hadd : (⟨g, 0, none⟩ : Addr).add k = ⟨g, k, none⟩ := by unfold Addr.add; split <;> simp_all
          rw [← hadd]; exact hc
        have hst := ho'.stored k (.int .i64 (m + (k : Int)))
        have H1 : Hid (Own (wr.setCell ⟨g, k, none⟩ (.int .i64 (m + (k : Int)))) B (.slice (some ⟨g, 0, none⟩) xs.length cap) (markTo xs m (k + 1))) := Lib.hid (by
          unfold Own; rw [markTo_len]
          have := hst.1
          rwa [← List.map_set] at this)
        have H2 : Hid (w.grownBy (wr.setCell ⟨g, k, none⟩ (.int .i64 (m + (k : Int)))) (some g)) := Lib.hid (grown_trans' hgr.out hst.2)
        clear hst ho' ho hgr
        go_wp2
        go_roundw
        case rel => exact ⟨k + 1, by omega, by go_num, by go_num, H1, H2⟩
        case measure => simp [intOf]; omega
      · obtain rfl : k = xs.length := by omega
        go_wp2
        go_ret
        exact ⟨rfl, ho.out, hgr.out⟩

theorem held_any (v : Value) (ys : List Int) (m : Int) (w : World) (h : Ints w v ys) (hl : ys.length ≤ 1000) (m0 : 0 ≤ m) (m1 : m ≤ 100000) (hm : ∀ j, j < ys.length → nth ys j = m + j) :
    Calls Try.prog 30 #[v, .int .i64 m] w fun e w' => e = .returned (.int .i64 (m + ys.length)) ∧ w = w' := by
  rcases h with ⟨rfl, rfl⟩ | ⟨g, cap, rfl, hl', hg, hc⟩
  · clear hm
    go_enter Try.func30, Try.ntmps30
    go_wp2
    go_loop [1, 5] (fun n i => n = .int .i64 m ∧ i = .int .i64 0) (fun _ _ => 0)
    case atStart => exact ⟨rfl, rfl⟩
    case round =>
      obtain ⟨rfl, rfl⟩ := hrel
      go_wp2
      go_ret
      exact ⟨by simp, rfl⟩
  · have HC := Lib.hid hc; clear hc
    have HM := Lib.hid hm; clear hm hl'
    go_enter Try.func30, Try.ntmps30
    go_wp2
    go_loop [1, 5] (fun n i => ∃ k : Nat, k ≤ ys.length ∧ i = .int .i64 k ∧ n = .int .i64 (m + k)) (fun _ i => ys.length - (intOf i).toNat)
    case atStart => exact ⟨0, by omega, rfl, by simp⟩
    case round =>
      obtain ⟨k, hk, rfl, rfl⟩ := hrel
      by_cases hlt : k < ys.length
      · have hc := HC.out k hlt
        rw [HM.out k hlt] at hc
        go_wp2
        go_round
        case rel => exact ⟨k + 1, by omega, by go_num, by go_num⟩
        case measure => simp [intOf]; omega
      · obtain rfl : k = ys.length := by omega
        go_wp2
        go_ret
        exact ⟨rfl, rfl⟩

theorem els_max (g : Int) : (els g).length ≤ maxLen := by have := @els_len g; unfold maxLen; omega
theorem mark_max (g m : Int) (k : Nat) : (markTo (els g) m k).length ≤ maxLen := by rw [markTo_len]; exact els_max g
theorem Own.drew {w : World} {B : Nat} {v : Value} {xs : List Int} (h : Own w B v xs) (n : Nat) : Own (w.drewN n) B v xs := h
theorem own_apart {w w' : World} {B B' : Nat} {v u : Value} {xs : List Int} (h : Own w B v xs) (hlt : ∀ k, v.ownBlock = some k → k < B') (hu : ∀ k, u.ownBlock = some k → B' ≤ k) (hg : w.grownBy w' u.ownBlock) : Own w' B v xs :=
  h.kept hg (by
    cases hv : v.ownBlock with
    | none => exact .inl rfl
    | some k => exact .inr (fun e => by have := hlt k hv; have := hu k e.symm; omega))

end Go.Proofs.Ytipndddmjgjgpaa
