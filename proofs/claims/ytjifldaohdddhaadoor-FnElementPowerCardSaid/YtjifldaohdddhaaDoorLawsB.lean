/- The laws of chapter 1 that go through a list of elements, or compare powers, walked. -/
import Derived.Test.YtjifldaohdddhaaDoorLawsA
namespace Go.Proofs.YtjifldaohdddhaaDoor
open Go.RowKit

theorem lElementTimes_walk (s s2 : Value) (w : World) (h : CodeIn w s) (h2 : CodeIn w s2) (G : Gr w) : Calls Tryd.prog 8 #[s, s2] w fun e w' => e = .returned (.bool true) ∧ Below w.heap.size w w' := by
  obtain ⟨a0, len0, cap0, rfl⟩ := h.slice
  obtain ⟨a1, len1, cap1, rfl⟩ := h2.slice
  have H := Lib.hid h; clear h
  have G0 := Lib.hid G; clear G
  have B0 := Lib.hid (Below.refl w.heap.size w)
  clear h2
  by_cases hl : 1048576 < len0
  · go_enter Tryd.func8, Tryd.ntmps8
    go_wp2
    go_ret
    exact ⟨rfl, Below.refl _ _⟩
  by_cases hl1 : 1048576 < len1
  · go_enter Tryd.func8, Tryd.ntmps8
    go_wp2
    go_ret
    exact ⟨rfl, Below.refl _ _⟩
  go_enter Tryd.func8, Tryd.ntmps8
  go_wp2_with fail
  refine (drawElementTimes_any _ _ H.out).mono ?_
  rintro e w1 ⟨g, a, b, rfl, lg, la, lb, hb⟩
  have B1 := Lib.hid hb
  have G1 := Lib.hid (G0.out.on hb)
  clear hb
  go_wp2_with fail
  refine (itim_any _ _ _ _ G1.out).mono ?_
  rintro e w2 ⟨rfl, m2, hw2⟩
  have hb : Below w1.heap.size w1 w2 := by rw [hw2]; exact below_drewN (Below.refl _ _) m2
  clear hw2
  have B2 := Lib.hid (B1.out.trans (hb.mono B1.out.size))
  have G2 := Lib.hid (G1.out.on hb)
  clear hb
  go_wp2_with fail
  refine (stim_any _ _ _ _).mono ?_
  rintro e w3 ⟨rfl, hb⟩
  have B3 := Lib.hid (B2.out.trans (hb.mono B2.out.size))
  have G3 := Lib.hid (G2.out.on hb)
  clear hb
  by_cases hx : tim g a b < 0
  · have he : (tim g a b == -1) = true := by rw [tim_neg hx]; rfl
    go_wp2_with fail
    refine (alive_any _ G3.out).mono ?_
    rintro e wz_ ⟨rfl, rfl⟩
    go_wp2
    go_ret
    exact ⟨rfl, B3.out⟩
  · obtain ⟨ea, eb⟩ := tim_pos (show 0 ≤ tim g a b by omega)
    have hx' : ¬ tim g a b < 0 := hx
    have HE := Lib.hid (tim_el ea eb)
    have HC := Lib.hid (tim_comm g b a)
    have HA := Lib.hid (fun (c : Int) (hc : elB g c = true) => tim_assoc ea eb hc)
    obtain ⟨h0, h4⟩ := elB_group ea
    have HL := Lib.hid (els_ord h0 h4)
    obtain ⟨o1, o2⟩ := ord_bd h0 h4
    clear hx
    go_wp2_with fail
    refine (sels_any _ _).mono ?_
    rintro e w4 ⟨v, rfl, O4, hb⟩
    have B4 := Lib.hid (B3.out.trans (hb.mono B3.out.size))
    have G4 := Lib.hid (G3.out.on hb)
    have I4 := Lib.hid (Ints.of_own O4 (els_fit g))
    clear hb O4
    have hlen : 0 < (els g).length := by have := HL.out; omega
    have hlen2 := @els_len g
    obtain ⟨i, hi⟩ : ∃ i : Nat, i = len1 % (els g).length := ⟨_, rfl⟩
    have hi2 : i < (els g).length := by rw [hi]; exact Nat.mod_lt _ hlen
    have HI := Lib.hid (show ((len1 : Int)) % ((els g).length : Int) = (i : Int) by rw [hi]; rfl)
    clear hi
    obtain ⟨blk, cp, rfl, cell⟩ := I4.out.at' hi2
    have HNC := Lib.hid (show elB g (nth (els g) i) = true from elB_mem.2 (nth_mem hi2))
    have hz : (((els g).length : Int) == 0) = false := by rw [beq_eq_false_iff_ne]; omega
    have hi3 : (i : Int) < ((els g).length : Int) := by omega
    have e1 := HI.out
    go_wp2_with fail
    clear e1 cell
    refine (iel_any _ _ _ G4.out).mono ?_
    rintro e w5 ⟨rfl, m5, hw⟩
    have hb : Below w4.heap.size w4 w5 := by rw [hw]; exact below_drewN (Below.refl _ _) _
    clear hw
    have B5 := Lib.hid (B4.out.trans (hb.mono B4.out.size))
    have G5 := Lib.hid (G4.out.on hb)
    clear hb
    rw [HE.out]
    go_wp2_with fail
    refine (itim_any _ _ _ _ G5.out).mono ?_
    rintro e w6 ⟨rfl, m6, hw6⟩
    have hb : Below w5.heap.size w5 w6 := by rw [hw6]; exact below_drewN (Below.refl _ _) m6
    clear hw6
    have B6 := Lib.hid (B5.out.trans (hb.mono B5.out.size))
    have G6 := Lib.hid (G5.out.on hb)
    clear hb
    rw [HC.out]
    go_wp2_with fail
    refine (itim_any _ _ _ _ G6.out).mono ?_
    rintro e w7 ⟨rfl, m7, hw7⟩
    have hb : Below w6.heap.size w6 w7 := by rw [hw7]; exact below_drewN (Below.refl _ _) m7
    clear hw7
    have B7 := Lib.hid (B6.out.trans (hb.mono B6.out.size))
    have G7 := Lib.hid (G6.out.on hb)
    clear hb
    rw [HA.out _ HNC.out]
    go_wp2_with fail
    refine (itim_any _ _ _ _ G7.out).mono ?_
    rintro e w8 ⟨rfl, m8, hw8⟩
    have hb : Below w7.heap.size w7 w8 := by rw [hw8]; exact below_drewN (Below.refl _ _) m8
    clear hw8
    have B8 := Lib.hid (B7.out.trans (hb.mono B7.out.size))
    have G8 := Lib.hid (G7.out.on hb)
    clear hb
    go_wp2_with fail
    refine (itim_any _ _ _ _ G8.out).mono ?_
    rintro e w9 ⟨rfl, m9, hw9⟩
    have hb : Below w8.heap.size w8 w9 := by rw [hw9]; exact below_drewN (Below.refl _ _) m9
    clear hw9
    have B9 := Lib.hid (B8.out.trans (hb.mono B8.out.size))
    have G9 := Lib.hid (G8.out.on hb)
    clear hb
    go_wp2
    go_ret
    exact ⟨rfl, B9.out⟩

theorem lElementPower_walk (s s2 : Value) (w : World) (h : CodeIn w s) (h2 : CodeIn w s2) (G : Gr w) : Calls Tryd.prog 9 #[s, s2] w fun e w' => e = .returned (.bool true) ∧ Below w.heap.size w w' := by
  obtain ⟨a0, len0, cap0, rfl⟩ := h.slice
  obtain ⟨a1, len1, cap1, rfl⟩ := h2.slice
  have H := Lib.hid h; clear h
  have G0 := Lib.hid G; clear G
  have B0 := Lib.hid (Below.refl w.heap.size w)
  clear h2
  by_cases hl : 1048576 < len0
  · go_enter Tryd.func9, Tryd.ntmps9
    go_wp2
    go_ret
    exact ⟨rfl, Below.refl _ _⟩
  by_cases hl1 : 1048576 < len1
  · go_enter Tryd.func9, Tryd.ntmps9
    go_wp2
    go_ret
    exact ⟨rfl, Below.refl _ _⟩
  go_enter Tryd.func9, Tryd.ntmps9
  go_wp2_with fail
  refine (drawElementPower_any _ _ H.out).mono ?_
  rintro e w1 ⟨g, a, n, rfl, lg, la, lb, hb⟩
  have B1 := Lib.hid hb
  have G1 := Lib.hid (G0.out.on hb)
  clear hb
  go_wp2_with fail
  refine (ipow_any _ _ _ _ G1.out).mono ?_
  rintro e w2 ⟨rfl, m2, hw2⟩
  have hb : Below w1.heap.size w1 w2 := by rw [hw2]; exact below_drewN (Below.refl _ _) m2
  clear hw2
  have B2 := Lib.hid (B1.out.trans (hb.mono B1.out.size))
  have G2 := Lib.hid (G1.out.on hb)
  clear hb
  go_wp2_with fail
  refine (spower_any _ _ _ _).mono ?_
  rintro e w3 ⟨rfl, hb⟩
  have B3 := Lib.hid (B2.out.trans (hb.mono B2.out.size))
  have G3 := Lib.hid (G2.out.on hb)
  clear hb
  by_cases hx : gpow g a n < 0
  · have he : (gpow g a n == -1) = true := by rw [gpow_neg hx]; rfl
    go_wp2_with fail
    refine (alive_any _ G3.out).mono ?_
    rintro e wz_ ⟨rfl, rfl⟩
    go_wp2
    go_ret
    exact ⟨rfl, B3.out⟩
  · obtain ⟨ea, n1, n2⟩ := gpow_pos (show 0 ≤ gpow g a n by omega)
    have HE := Lib.hid (gpow_el (show 0 ≤ gpow g a n by omega))
    obtain ⟨r1, r2⟩ := tmod_bd n 100 (by omega)
    obtain ⟨r, hr⟩ : ∃ r : Int, n.tmod 100 = r := ⟨_, rfl⟩
    rw [hr] at r1 r2
    obtain ⟨m, hm⟩ : ∃ m : Int, (len1 : Int) % 60 - 30 = m := ⟨_, rfl⟩
    have m1 : -30 ≤ m := by omega
    have m2 : m ≤ 29 := by omega
    have HS := Lib.hid (gpow_sum ea (m := r) (n := m) (by omega) (by omega) (by omega) (by omega))
    have HMU := Lib.hid (gpow_mul ea (m := r) (n := m) (by omega) (by omega) (by omega) (by omega))
    have HO := Lib.hid (gpow_more ea (n := r) (by omega) (by omega))
    have hx' : ¬ gpow g a n < 0 := hx
    obtain ⟨h0, h4⟩ := elB_group ea
    obtain ⟨o1, o2⟩ := ord_bd h0 h4
    obtain ⟨k1, k2⟩ := mul_bd (m := r) (n := m) (by omega) (by omega) (by omega) (by omega)
    clear hx
    go_wp2_with fail
    refine (iel_any _ _ _ G3.out).mono ?_
    rintro e w4 ⟨rfl, m4, hw4⟩
    have hb : Below w3.heap.size w3 w4 := by rw [hw4]; exact below_drewN (Below.refl _ _) m4
    clear hw4
    have B4 := Lib.hid (B3.out.trans (hb.mono B3.out.size))
    have G4 := Lib.hid (G3.out.on hb)
    clear hb
    rw [HE.out]
    go_wp2_with fail
    refine (ipow_any _ _ _ _ G4.out).mono ?_
    rintro e w5 ⟨rfl, m5, hw5⟩
    have hb : Below w4.heap.size w4 w5 := by rw [hw5]; exact below_drewN (Below.refl _ _) m5
    clear hw5
    have B5 := Lib.hid (B4.out.trans (hb.mono B4.out.size))
    have G5 := Lib.hid (G4.out.on hb)
    clear hb
    rw [HS.out]
    go_wp2_with fail
    refine (ipow_any _ _ _ _ G5.out).mono ?_
    rintro e w6 ⟨rfl, m6, hw6⟩
    have hb : Below w5.heap.size w5 w6 := by rw [hw6]; exact below_drewN (Below.refl _ _) m6
    clear hw6
    have B6 := Lib.hid (B5.out.trans (hb.mono B5.out.size))
    have G6 := Lib.hid (G5.out.on hb)
    clear hb
    go_wp2_with fail
    refine (ipow_any _ _ _ _ G6.out).mono ?_
    rintro e w7 ⟨rfl, m7, hw7⟩
    have hb : Below w6.heap.size w6 w7 := by rw [hw7]; exact below_drewN (Below.refl _ _) m7
    clear hw7
    have B7 := Lib.hid (B6.out.trans (hb.mono B6.out.size))
    have G7 := Lib.hid (G6.out.on hb)
    clear hb
    go_wp2_with fail
    refine (itim_any _ _ _ _ G7.out).mono ?_
    rintro e w8 ⟨rfl, m8, hw8⟩
    have hb : Below w7.heap.size w7 w8 := by rw [hw8]; exact below_drewN (Below.refl _ _) m8
    clear hw8
    have B8 := Lib.hid (B7.out.trans (hb.mono B7.out.size))
    have G8 := Lib.hid (G7.out.on hb)
    clear hb
    go_wp2_with fail
    refine (ipow_any _ _ _ _ G8.out).mono ?_
    rintro e w9 ⟨rfl, m9, hw9⟩
    have hb : Below w8.heap.size w8 w9 := by rw [hw9]; exact below_drewN (Below.refl _ _) m9
    clear hw9
    have B9 := Lib.hid (B8.out.trans (hb.mono B8.out.size))
    have G9 := Lib.hid (G8.out.on hb)
    clear hb
    go_wp2_with fail
    refine (ipow_any _ _ _ _ G9.out).mono ?_
    rintro e w10 ⟨rfl, m10, hw10⟩
    have hb : Below w9.heap.size w9 w10 := by rw [hw10]; exact below_drewN (Below.refl _ _) m10
    clear hw10
    have B10 := Lib.hid (B9.out.trans (hb.mono B9.out.size))
    have G10 := Lib.hid (G9.out.on hb)
    clear hb
    rw [HMU.out]
    go_wp2_with fail
    refine (ipow_any _ _ _ _ G10.out).mono ?_
    rintro e w11 ⟨rfl, m11, hw11⟩
    have hb : Below w10.heap.size w10 w11 := by rw [hw11]; exact below_drewN (Below.refl _ _) m11
    clear hw11
    have B11 := Lib.hid (B10.out.trans (hb.mono B10.out.size))
    have G11 := Lib.hid (G10.out.on hb)
    clear hb
    go_wp2_with fail
    refine (sord_any _ _).mono ?_
    rintro e w12 ⟨rfl, hb⟩
    have B12 := Lib.hid (B11.out.trans (hb.mono B11.out.size))
    have G12 := Lib.hid (G11.out.on hb)
    clear hb
    go_wp2_with fail
    refine (ipow_any _ _ _ _ G12.out).mono ?_
    rintro e w13 ⟨rfl, m13, hw13⟩
    have hb : Below w12.heap.size w12 w13 := by rw [hw13]; exact below_drewN (Below.refl _ _) m13
    clear hw13
    have B13 := Lib.hid (B12.out.trans (hb.mono B12.out.size))
    have G13 := Lib.hid (G12.out.on hb)
    clear hb
    rw [HO.out]
    go_wp2_with fail
    refine (ipow_any _ _ _ _ G13.out).mono ?_
    rintro e w14 ⟨rfl, m14, hw14⟩
    have hb : Below w13.heap.size w13 w14 := by rw [hw14]; exact below_drewN (Below.refl _ _) m14
    clear hw14
    have B14 := Lib.hid (B13.out.trans (hb.mono B13.out.size))
    have G14 := Lib.hid (G13.out.on hb)
    clear hb
    go_wp2
    go_ret
    exact ⟨rfl, B14.out⟩

end Go.Proofs.YtjifldaohdddhaaDoor
