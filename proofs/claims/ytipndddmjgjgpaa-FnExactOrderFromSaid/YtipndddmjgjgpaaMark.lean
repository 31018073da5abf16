/- laws.markIntS, markIntSS, markClaim, markWords, heldIntS, heldIntSS, heldWords. -/
import Derived.Test.YtipndddmjgjgpaaHelp
import Derived.Test.YtipndddmjgjgpaaExactList
import Derived.Test.YtipndddmjgjgpaaBCl
namespace Go.Proofs.Ytipndddmjgjgpaa
open Go.RowKit

theorem markI_any (v : Value) (xs : List Int) (m : Int) (B : Nat) (w : World) (h : Own w B v xs) (hl : xs.length ≤ 4000000) (m0 : 0 ≤ m) (m1 : m ≤ 1000000000) :
    Calls Try.prog 26 #[v, .int .i64 m] w fun e w' => e = .returned (.int .i64 (m + xs.length)) ∧ Own w' B v (markTo xs m xs.length) ∧ w.grownBy w' v.ownBlock := by
  have hh := h
  rcases h.2 with ⟨rfl, hn⟩ | ⟨g, cap, cur, rfl, hB, hg, hnc, hcm, hcs, htake⟩
  · obtain rfl : xs = [] := List.length_eq_zero_iff.1 hn
    clear hn h
    have HH := Lib.hid hh; clear hh
    go_enter Try.func26, Try.ntmps26
    go_wp2
    go_loop [1, 5] (fun n i => n = .int .i64 m ∧ i = .int .i64 0) (fun _ _ => 0)
    case atStart => exact ⟨rfl, rfl⟩
    case round =>
      obtain ⟨rfl, rfl⟩ := hrel
      go_wp2
      go_ret
      exact ⟨by simp, HH.out, rfl, rfl, rfl, Nat.le_refl _, fun _ _ _ => rfl⟩
  · have HH := Lib.hid hh
    clear h hh hg hcs htake
    go_enter Try.func26, Try.ntmps26
    go_wp2
    go_loopw [1, 5] (fun n i wr => ∃ k : Nat, k ≤ xs.length ∧ i = .int .i64 k ∧ n = .int .i64 (m + k) ∧ Hid (Own wr B (.slice (some ⟨g, 0, none⟩) xs.length cap) (markTo xs m k)) ∧ Hid (w.grownBy wr (some g))) (fun _ i _ => xs.length - (intOf i).toNat)
    case atStart => exact ⟨0, by omega, rfl, by simp, Lib.hid HH.out, Lib.hid ⟨rfl, rfl, rfl, Nat.le_refl _, fun _ _ _ => rfl⟩⟩
    case round =>
      obtain ⟨k, hk, rfl, rfl, ho, hgr⟩ := hrel
      by_cases hlt : k < xs.length
      · obtain ⟨⟨f0, c0⟩, o1, g1⟩ := ho.out.set (markTo_len xs m k) hlt (m + (k : Int))
        have H1 : Hid (Own (wr.setCell ⟨g, k, none⟩ (.int .i64 (m + (k : Int)))) B (.slice (some ⟨g, 0, none⟩) xs.length cap) (markTo xs m (k + 1))) := Lib.hid o1
        have H2 : Hid (w.grownBy (wr.setCell ⟨g, k, none⟩ (.int .i64 (m + (k : Int)))) (some g)) := Lib.hid (grown_trans' hgr.out g1)
        clear o1 g1 ho hgr
        go_wp2
        go_roundw
        case rel => exact ⟨k + 1, by omega, by go_num, by go_num, H1, H2⟩
        case measure => simp [intOf]; omega
      · obtain rfl : k = xs.length := by omega
        go_wp2
        go_ret
        exact ⟨rfl, ho.out, hgr.out⟩

theorem heldI_any (v : Value) (ys : List Int) (m : Int) (w : World) (h : Ints w v ys) (hl : ys.length ≤ 4000000) (m0 : 0 ≤ m) (m1 : m ≤ 1000000000) (hm : ∀ j, j < ys.length → nth ys j = m + j) :
    Calls Try.prog 30 #[v, .int .i64 m] w fun e w' => e = .returned (.int .i64 (m + ys.length)) ∧ w = w' := by
  obtain ⟨a, c, rfl, k1⟩ := h.opened
  have HC := Lib.hid k1.get
  have HM := Lib.hid hm; clear hm h k1
  go_enter Try.func30, Try.ntmps30
  go_wp2
  go_loop [1, 5] (fun n i => ∃ k : Nat, k ≤ ys.length ∧ i = .int .i64 k ∧ n = .int .i64 (m + k)) (fun _ i => ys.length - (intOf i).toNat)
  case atStart => exact ⟨0, by omega, rfl, by simp⟩
  case round =>
    obtain ⟨k, hk, rfl, rfl⟩ := hrel
    by_cases hlt : k < ys.length
    · obtain ⟨g, rfl, _, hc⟩ := HC.out k hlt
      rw [HM.out k hlt] at hc
      go_wp2
      go_round
      case rel => exact ⟨k + 1, by omega, by go_num, by go_num⟩
      case measure => simp [intOf]; omega
    · obtain rfl : k = ys.length := by omega
      go_wp2
      go_ret
      exact ⟨rfl, rfl⟩

/-- The first k lists marked. -/
def markS (xss : List (List Int)) (m : Int) : Nat → List (List Int)
  | 0 => xss
  | k + 1 => (markS xss m k).set k (markTo (row xss k) (m + cnt xss k) (row xss k).length)
theorem markS_len (xss : List (List Int)) (m : Int) : ∀ k, (markS xss m k).length = xss.length
  | 0 => rfl
  | k + 1 => by unfold markS; rw [List.length_set]; exact markS_len xss m k
theorem markS_rest (xss : List (List Int)) (m : Int) : ∀ k j, k ≤ j → row (markS xss m k) j = row xss j
  | 0, j, _ => rfl
  | k + 1, j, h => by unfold markS; rw [row_set_ne (by omega)]; exact markS_rest xss m k j (by omega)
theorem markS_row (xss : List (List Int)) (m : Int) : ∀ k, k ≤ xss.length → ∀ j, j < k → row (markS xss m k) j = markTo (row xss j) (m + cnt xss j) (row xss j).length
  | 0, _, j, hj => by omega
  | k + 1, hk, j, hj => by
    unfold markS
    by_cases e : k = j
    · subst e; rw [row_set (by rw [markS_len]; omega)]
    · rw [row_set_ne e]; exact markS_row xss m k (by omega) j (by omega)
theorem OwnSS.grown_out {w w' : World} {lo hi j : Nat} {v : Value} {us : List Value} {xss : List (List Int)} (h : OwnSS w lo hi v us xss) (hj : j < us.length) (hg : w.grownBy w' (val us j).ownBlock) : Outside lo hi w w' :=
  Outside.of_grown hg fun k hk => ⟨((h.rows j hj).lt k hk).1, h.his j hj k hk⟩

set_option maxHeartbeats 1600000 in
theorem markSS_any (v : Value) (us : List Value) (xss : List (List Int)) (m : Int) (lo hi : Nat) (w : World) (h : OwnSS w lo hi v us xss) (hl : xss.length ≤ 4000000) (hr : ∀ j, j < xss.length → (row xss j).length ≤ 4000000) (hc : m + cnt xss xss.length ≤ 1000000000) (m0 : 0 ≤ m) :
    Calls Try.prog 36 #[v, .int .i64 m] w fun e w' => e = .returned (.int .i64 (m + cnt xss xss.length)) ∧ OwnSS w' lo hi v us (markS xss m xss.length) ∧ Outside lo hi w w' := by
  obtain ⟨a, c, hv, hcell⟩ := outer_cell h.outer
  obtain ⟨n, hn⟩ : ∃ n, xss.length = n := ⟨_, rfl⟩
  have hlen := h.len
  rw [hn] at hlen
  have HN := Lib.hid hn
  have HUL := Lib.hid hlen
  have HC := Lib.hid (show ∀ k, k < n → (m + cnt xss k ≤ 1000000000) ∧ (row xss k).length ≤ 4000000 from fun k hk => ⟨by have := cnt_mono xss (show k ≤ xss.length by omega); omega, hr k (by omega)⟩)
  have HO := Lib.hid h
  rw [hn] at hl ⊢
  rw [hlen] at hv
  subst hv
  clear h hcell hn hr hc hlen
  go_enter Try.func36, Try.ntmps36
  go_wp2
  go_loopw [1, 5] (fun q i wr => ∃ k : Nat, k ≤ n ∧ i = .int .i64 k ∧ q = .int .i64 (m + cnt xss k) ∧ Hid (OwnSS wr lo hi (.slice a n c) us (markS xss m k)) ∧ Hid (Outside lo hi w wr)) (fun _ i _ => n - (intOf i).toNat)
  case atStart => exact ⟨0, by omega, rfl, by simp [cnt], HO, Lib.hid (Outside.refl _ _ _)⟩
  case round =>
    obtain ⟨k, hk, rfl, rfl, ho, hg⟩ := hrel
    obtain ⟨wo, rfl⟩ : ∃ wo : World, wo = wr := ⟨_, rfl⟩
    by_cases hlt : k < n
    · have hku : k < us.length := by rw [HUL.out]; exact hlt
      obtain ⟨a', c', e', hcell⟩ := outer_cell ho.out.outer
      obtain ⟨G, e1, _, hc0⟩ := hcell k hku
      have hrow := ho.out.rows k hku
      rw [markS_rest xss m k k (Nat.le_refl _)] at hrow
      have ha : a = some ⟨G, 0, none⟩ := by rw [← e1]; cases e'; rfl
      obtain ⟨cn, hcn⟩ : ∃ cn : Int, m + cnt xss k = cn := ⟨_, rfl⟩
      have hcc := HC.out k hlt
      have HR := Lib.hid hrow
      have HCN := Lib.hid hcn
      rw [hcn] at hcc ⊢
      have hcn0 : 0 ≤ cn := by omega
      have HK := Lib.hid hku
      subst ha
      clear e' hcell e1 hrow hcn hku
      generalize hval : val us k = u at *
      have HV := Lib.hid hval
      clear hval
      go_wp2_with fail
      refine (markI_any u (row xss k) cn lo _ HR.out hcc.2 hcn0 hcc.1).mono ?_
      rintro e w2 ⟨rfl, o2, g2⟩
      have O2 : Hid (OwnSS w2 lo hi (.slice (some ⟨G, 0, none⟩) n c) us (markS xss m (k + 1))) := Lib.hid (by
        have := ho.out.set (j := k) (ys := markTo (row xss k) (m + cnt xss k) (row xss k).length) HK.out (w' := w2) (by rw [HV.out, HCN.out]; exact o2) (by rw [HV.out]; exact g2)
        exact this)
      have G2 : Hid (Outside lo hi w w2) := Lib.hid (hg.out.trans (ho.out.grown_out HK.out (by rw [HV.out]; exact g2)))
      have HS : Hid (cn + (row xss k).length = m + cnt xss (k + 1)) := Lib.hid (by rw [cnt_succ, ← HCN.out]; omega)
      clear o2 g2 ho hg
      go_wp2
      go_roundw
      case rel => exact ⟨k + 1, by omega, by go_num, by rw [HS.out], O2, G2⟩
      case measure => simp [intOf]; omega
    · obtain rfl : k = n := by omega
      go_wp2
      go_ret
      exact ⟨rfl, ho.out, hg.out⟩

set_option maxHeartbeats 1600000 in
theorem heldSS_any (v : Value) (yss : List (List Int)) (m : Int) (w : World) (h : IntSS w v yss) (hl : yss.length ≤ 4000000) (hr : ∀ j, j < yss.length → (row yss j).length ≤ 4000000) (hc : m + cnt yss yss.length ≤ 1000000000) (m0 : 0 ≤ m)
    (hm : ∀ j, j < yss.length → ∀ i, i < (row yss j).length → nth (row yss j) i = m + cnt yss j + i) :
    Calls Try.prog 37 #[v, .int .i64 m] w fun e w' => e = .returned (.int .i64 (m + cnt yss yss.length)) ∧ w = w' := by
  obtain ⟨a, c, rfl, k1⟩ := h.opened
  obtain ⟨n, hn⟩ : ∃ n, yss.length = n := ⟨_, rfl⟩
  have HG := Lib.hid (show ∀ k, k < n → _ from fun k hk => k1.get k (by rw [hn]; exact hk))
  have HC := Lib.hid (show ∀ k, k < n → (m + cnt yss k ≤ 1000000000) ∧ (row yss k).length ≤ 4000000 ∧ ∀ i, i < (row yss k).length → nth (row yss k) i = m + cnt yss k + i from fun k hk => ⟨by have := cnt_mono yss (show k ≤ yss.length by omega); omega, hr k (by omega), hm k (by omega)⟩)
  rw [hn] at hl ⊢
  clear h k1 hn hr hc hm
  go_enter Try.func37, Try.ntmps37
  go_wp2
  go_loop [1, 5] (fun q i => ∃ k : Nat, k ≤ n ∧ i = .int .i64 k ∧ q = .int .i64 (m + cnt yss k)) (fun _ i => n - (intOf i).toNat)
  case atStart => exact ⟨0, by omega, rfl, by simp [cnt]⟩
  case round =>
    obtain ⟨k, hk, rfl, rfl⟩ := hrel
    by_cases hlt : k < n
    · obtain ⟨G, u, rfl, _, hc0, hi⟩ := HG.out k hlt
      obtain ⟨c1, c2, c3⟩ := HC.out k hlt
      have HI := Lib.hid hi
      have C3 := Lib.hid c3
      obtain ⟨cn, hcn⟩ : ∃ cn : Int, m + cnt yss k = cn := ⟨_, rfl⟩
      have HCN := Lib.hid hcn
      have C3' : Hid (∀ i, i < (row yss k).length → nth (row yss k) i = cn + i) := Lib.hid (by rw [← hcn]; exact C3.out)
      rw [hcn] at c1 ⊢
      have hcn0 : 0 ≤ cn := by omega
      have HS : Hid (cn + (row yss k).length = m + cnt yss (k + 1)) := Lib.hid (by rw [cnt_succ, ← hcn]; omega)
      clear hi c3 hcn
      go_wp2_with fail
      refine (heldI_any u (row yss k) cn _ HI.out c2 hcn0 c1 C3'.out).mono ?_
      rintro e w2 ⟨rfl, rfl⟩
      go_wp2
      go_round
      case rel => exact ⟨k + 1, by omega, by go_num, by rw [HS.out]⟩
      case measure => simp [intOf]; omega
    · obtain rfl : k = n := by omega
      go_wp2
      go_ret
      exact ⟨rfl, rfl⟩

theorem Outside.alloc {lo hi : Nat} {w w' : World} (o : Obj) (h : Outside lo hi (w.alloc o) w') : Outside lo hi w w' :=
  ⟨h.os, h.tape, h.output, Nat.le_trans (by simp) h.size, fun k hk hr => (h.block k (by simp; omega) hr).trans (Below.heap_alloc w o k hk)⟩
theorem Outside.wider {lo lo' hi hi' : Nat} {w w' : World} (h : Outside lo hi w w') (h1 : lo' ≤ lo) (h2 : hi ≤ hi') : Outside lo' hi' w w' :=
  ⟨h.os, h.tape, h.output, h.size, fun k hk hr => h.block k hk (by omega)⟩
theorem Outside.box {lo hi N : Nat} {w w' : World} {cs : List Value} (h : Outside lo hi w w') (hb : Box w N cs) (hN : hi ≤ N) : Box w' N cs := by
  have hl := hb.lt
  obtain ⟨T, hb⟩ := hb
  exact ⟨T, by rw [h.block N hl (.inr hN)]; exact hb⟩

theorem small {n : Nat} (h : n ≤ 1048576) : n ≤ maxLen := by unfold maxLen; omega
theorem small3 {n : Nat} (h : n ≤ 1000) : n ≤ maxLen := by unfold maxLen; omega
theorem OwnW.lower {w : World} {lo lo' hi : Nat} {sv tv : Value} {ss ts : List Int} (h : OwnW w lo hi sv tv ss ts) (hl : lo' ≤ lo) : OwnW w lo' hi sv tv ss ts := ⟨own_mono h.s hl, own_mono h.t hl, h.apart, h.his, h.hit⟩
theorem OwnW.far {w w' : World} {lo hi lo' hi' : Nat} {sv tv : Value} {ss ts : List Int} (h : Outside lo hi w w') (ho : OwnW w lo' hi' sv tv ss ts) (hB : hi ≤ lo') : OwnW w' lo' hi' sv tv ss ts := ⟨h.own ho.s hB, h.own ho.t hB, ho.apart, ho.his, ho.hit⟩
theorem OwnCl.cw {w : World} {lo hi : Nat} {rv mv : Value} {us : List Value} {xss : List (List Int)} {ms : List Int} (h : OwnCl w lo hi rv mv us xss ms) (s1 : xss.length ≤ 1048576) (s2 : ∀ j, j < xss.length → (row xss j).length ≤ 1048576) (s3 : ms.length ≤ 1048576) : Cw w rv mv xss ms := by
  obtain ⟨mid, _, _, c, d⟩ := h.parts
  exact ⟨c.ints (small s1) fun j hj => small (s2 j hj), Ints.of_own d (small s3)⟩
theorem OwnCl.form {w : World} {lo hi : Nat} {rv mv : Value} {us : List Value} {xss : List (List Int)} {ms : List Int} (h : OwnCl w lo hi rv mv us xss ms) : (∃ a c, rv = .slice a xss.length c) ∧ ∃ a c, mv = .slice a ms.length c := by
  obtain ⟨mid, _, _, c, d⟩ := h.parts
  exact ⟨c.form, Own.form d⟩
theorem bne_self (b : Bool) : (b != b) = false := by cases b <;> rfl
end Go.Proofs.Ytipndddmjgjgpaa
