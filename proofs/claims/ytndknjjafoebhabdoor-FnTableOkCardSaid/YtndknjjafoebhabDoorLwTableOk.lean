/- The law FnTableOk, walked. -/
import Derived.Test.YtndknjjafoebhabDoorDrawTb
import Derived.Test.YtndknjjafoebhabDoorTabS
import Derived.Test.YtndknjjafoebhabDoorLawsA
namespace Go.Proofs.YtndknjjafoebhabDoor
open Go.RowKit

theorem IntSS.take {w : World} {a : Option Addr} {n c : Nat} {t : List (List Int)} (h : IntSS w (.slice a n c) t) (m : Nat) (hm : m ≤ t.length) : IntSS w (.slice a m c) (t.take m) := by
  obtain ⟨a', c', e, h1, h2⟩ := h
  cases e
  have hl : (t.take m).length = m := by rw [List.length_take]; omega
  refine ⟨a, c, by rw [hl], by rw [hl]; omega, fun j hj => ?_⟩
  rw [hl] at hj
  obtain ⟨g, u, e1, e2, e3, e4⟩ := h2 j (by omega)
  refine ⟨g, u, e1, e2, e3, ?_⟩
  rw [row_get (by rw [hl]; exact hj), List.getElem_take, ← row_get (by omega)]; exact e4
theorem IntSS.none (w : World) : IntSS w (.slice none 0 0) [] := ⟨_, _, rfl, by simp, fun j hj => by simp at hj⟩
/-- Tables can lose rows. -/
theorem tab_take {t : List (List Int)} (h : Tab t) (h2 : 2 ≤ t.length) : Tab (t.take (t.length - 1)) := by
  have hl : (t.take (t.length - 1)).length = t.length - 1 := by rw [List.length_take]; omega
  have hr : ∀ j, j < t.length - 1 → row (t.take (t.length - 1)) j = row t j := fun j hj => by
    rw [row_get (by rw [hl]; exact hj), List.getElem_take, ← row_get (by omega)]
  have := h.r2
  refine ⟨by rw [hl]; omega, by rw [hl]; omega, by rw [hr 0 (by omega)]; exact h.a1, by rw [hr 0 (by omega)]; exact h.a2, fun k hk => ?_, fun k j hk hj => ?_⟩
  · rw [hl] at hk; rw [hr k hk, hr 0 (by omega)]; exact h.len k (by omega)
  · rw [hl] at hk; rw [hr k hk] at hj ⊢; exact h.bit k j (by omega) hj
theorem itab_eq {v : Value} {t : List (List Int)} {w : World} {r : Bool} (h : tabB t = r) (hi : IntSS w v t) : Calls Tryd.prog 5 #[v] w fun e w' => e = .returned (.bool r) ∧ Below w.heap.size w w' := by rw [← h]; exact itab_any v t w hi
theorem stab_eq {v : Value} {t : List (List Int)} {w : World} {r : Bool} (h : tabB t = r) (hi : IntSS w v t) : Calls Tryd.prog 6 #[v] w fun e w' => e = .returned (.bool r) ∧ Below w.heap.size w w' := by rw [← h]; exact stab_any v t w hi
theorem tab_nil : tabB [] = false := by decide

set_option maxHeartbeats 1600000 in
theorem lTableOk_walk (s : Value) (w : World) (h : CodeIn w s) (G : Gr w) : Calls Tryd.prog 3 #[s] w fun e w' => e = .returned (.bool true) ∧ Below w.heap.size w w' := by
  obtain ⟨a0, len0, cap0, rfl⟩ := h.slice
  have H := Lib.hid h; clear h
  have G0 := Lib.hid G; clear G
  by_cases hl : 1048576 < len0
  · go_enter Tryd.func3, Tryd.ntmps3
    go_wp2
    go_ret
    exact ⟨rfl, Below.refl _ _⟩
  go_enter Tryd.func3, Tryd.ntmps3
  go_wp2_with fail
  refine (drawTableOk_any _ _ H.out).mono ?_
  rintro e w1 ⟨v, t, rfl, hi, hc, hl14, hb⟩
  obtain ⟨a, c, hv, _⟩ := id hi.opened
  obtain ⟨_, _, _, hce, hcap⟩ := hc
  subst hv
  obtain ⟨n, hn⟩ : ∃ n, t.length = n := ⟨_, rfl⟩
  rw [hn] at hl14
  have HN := Lib.hid hn
  rw [hn] at hce hi ⊢
  injection hce with e1 e2 e3
  rw [← e2, ← e3] at hcap
  clear e1 e2 e3
  have HI := Lib.hid (show ∀ w', Below w1.heap.size w1 w' → IntSS w' (.slice a n c) t from fun w' hb => hi.on hb)
  have B1 := Lib.hid hb
  have G1 := Lib.hid (show ∀ w', Below w.heap.size w w' → Gr w' from fun w' hb => G0.out.on hb)
  have HQ := Lib.hid (fun (h : tabB t = true) => (tabB_true.1 h).r1)
  clear hi hb hn
  cases hk : tabB t
  · go_wp2_with fail
    refine (itab_eq hk (HI.out _ (Below.refl _ _))).mono ?_
    rintro e w2 ⟨rfl, hb⟩
    have B2 := Lib.hid hb
    clear hb
    go_wp2_with fail
    refine (stab_eq hk (HI.out _ B2.out)).mono ?_
    rintro e w3 ⟨rfl, hb⟩
    have B3 := Lib.hid (Below.on B2.out hb)
    clear hb hk
    go_wp2_with fail
    refine (itab_eq tab_nil (IntSS.none w3)).mono ?_
    rintro e w4 ⟨rfl, hb⟩
    have B4 := Lib.hid (Below.on B1.out (Below.on B3.out hb))
    clear hb
    go_wp2_with fail
    refine (alive_any _ (G1.out _ B4.out)).mono ?_
    rintro e w5 ⟨rfl, rfl⟩
    go_wp2
    go_ret
    exact ⟨rfl, B4.out⟩
  · have hn1 := HQ.out hk
    rw [HN.out] at hn1
    by_cases h2 : n < 2
    · go_wp2_with fail
      refine (itab_eq hk (HI.out _ (Below.refl _ _))).mono ?_
      rintro e w2 ⟨rfl, hb⟩
      have B2 := Lib.hid hb
      clear hb
      go_wp2_with fail
      refine (stab_eq hk (HI.out _ B2.out)).mono ?_
      rintro e w3 ⟨rfl, hb⟩
      have B3 := Lib.hid (Below.on B2.out hb)
      clear hb hk
      go_wp2_with fail
      refine (itab_eq tab_nil (IntSS.none w3)).mono ?_
      rintro e w4 ⟨rfl, hb⟩
      have B4 := Lib.hid (Below.on B1.out (Below.on B3.out hb))
      clear hb
      go_wp2_with fail
      refine (alive_any _ (G1.out _ B4.out)).mono ?_
      rintro e w5 ⟨rfl, rfl⟩
      go_wp2
      go_ret
      exact ⟨rfl, B4.out⟩
    · have HT := Lib.hid (show tabB (t.take (n - 1)) = true from by have := tab_take (tabB_true.1 hk) (by rw [HN.out]; omega); rw [HN.out] at this; exact tabB_true.2 this)
      obtain ⟨q, rfl⟩ : ∃ q, n = q + 1 := ⟨n - 1, by omega⟩
      rw [show q + 1 - 1 = q by omega] at HT
      have HU := Lib.hid (show ∀ w', Below w1.heap.size w1 w' → IntSS w' (.slice a q c) (t.take q) from fun w' hb => (HI.out w' hb).take q (by rw [HN.out]; omega))
      have hqi : ((q + 1 : Nat) : Int) - 1 = (q : Int) := by omega
      go_wp2_with fail
      refine (itab_eq hk (HI.out _ (Below.refl _ _))).mono ?_
      rintro e w2 ⟨rfl, hb⟩
      have B2 := Lib.hid hb
      clear hb
      go_wp2_with fail
      refine (stab_eq hk (HI.out _ B2.out)).mono ?_
      rintro e w3 ⟨rfl, hb⟩
      have B3 := Lib.hid (Below.on B2.out hb)
      clear hb hk
      go_wp2_with fail
      refine (itab_eq HT.out (HU.out _ B3.out)).mono ?_
      rintro e w4 ⟨rfl, hb⟩
      have B4 := Lib.hid (Below.on B3.out hb)
      clear hb
      go_wp2_with fail
      refine (itab_eq tab_nil (IntSS.none w4)).mono ?_
      rintro e w5 ⟨rfl, hb⟩
      have B5 := Lib.hid (Below.on B1.out (Below.on B4.out hb))
      clear hb
      go_wp2_with fail
      refine (alive_any _ (G1.out _ B5.out)).mono ?_
      rintro e w6 ⟨rfl, rfl⟩
      go_wp2
      go_ret
      exact ⟨rfl, B5.out⟩
end Go.Proofs.YtndknjjafoebhabDoor
