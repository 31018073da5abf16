/- The laws of chapter 1 that hold no list, walked: each answers true, and writes nothing that was there. -/
import Derived.Test.YtjifldaohdddhaaDoorPureB
import Derived.Test.YtjifldaohdddhaaDoorWalkFa
import Derived.Test.YtjifldaohdddhaaDoorWalkH
import Derived.Test.YtjifldaohdddhaaDoorDrawC
namespace Go.Proofs.YtjifldaohdddhaaDoor
open Go.RowKit

theorem CodeIn.slice {w : World} {s : Value} (h : CodeIn w s) : ∃ a len cap, s = .slice a len cap := by
  rcases h with ⟨a, cap, rfl⟩ | ⟨b, off, len, cap, z, rfl, _⟩
  · exact ⟨_, _, _, rfl⟩
  · exact ⟨_, _, _, rfl⟩

theorem Ints.slice {w : World} {v : Value} {xs : List Int} (h : Ints w v xs) : ∃ a c, v = .slice a xs.length c := by
  rcases h with ⟨rfl, rfl⟩ | ⟨g, cap, rfl, _⟩
  · exact ⟨_, _, rfl⟩
  · exact ⟨_, _, rfl⟩
theorem Ints.at' {w : World} {v : Value} {xs : List Int} (h : Ints w v xs) {i : Nat} (hi : i < xs.length) : ∃ b c, v = .slice (some ⟨b, 0, none⟩) xs.length c ∧ w.cell? ⟨b, i, none⟩ = some (.int .i64 (nth xs i)) := by
  rcases h with ⟨rfl, rfl⟩ | ⟨g, cap, rfl, _, _, hc⟩
  · simp at hi
  · exact ⟨_, _, rfl, hc i hi⟩
theorem els_fit (g : Int) : (els g).length ≤ maxLen := by have := @els_len g; unfold maxLen; omega

theorem alive_any (w : World) (G : Gr w) : Calls Tryd.prog 16 #[] w fun e w' => e = .returned (.bool true) ∧ w = w' := by
  have p := Lib.hid (show prm 0 = 7 from rfl)
  have q := Lib.hid (show ord 0 = 3 from rfl)
  have G0 := Lib.hid G; clear G
  go_enter Tryd.func16, Tryd.ntmps16
  go_wp2_with fail
  refine (iprm_any _ _ G0.out).mono ?_
  rintro e w1_ ⟨rfl, rfl⟩
  rw [p.out]
  go_wp2_with fail
  refine (iord_any _ _ G0.out).mono ?_
  rintro e w1_ ⟨rfl, rfl⟩
  rw [q.out]
  go_wp2
  go_ret
  exact ⟨rfl, rfl⟩

theorem lGroupPrime_walk (s : Value) (w : World) (h : CodeIn w s) (G : Gr w) : Calls Tryd.prog 3 #[s] w fun e w' => e = .returned (.bool true) ∧ Below w.heap.size w w' := by
  obtain ⟨a0, len0, cap0, rfl⟩ := h.slice
  have H := Lib.hid h; clear h
  have G0 := Lib.hid G; clear G
  have B0 := Lib.hid (Below.refl w.heap.size w)
  by_cases hl : 1048576 < len0
  · go_enter Tryd.func3, Tryd.ntmps3
    go_wp2
    go_ret
    exact ⟨rfl, Below.refl _ _⟩
  go_enter Tryd.func3, Tryd.ntmps3
  go_wp2_with fail
  refine (drawGroupPrime_any _ _ H.out).mono ?_
  rintro e w1 ⟨g, rfl, l1, u1, hb⟩
  have B1 := Lib.hid hb
  have G1 := Lib.hid (G0.out.on hb)
  clear hb
  by_cases hg : 0 ≤ g ∧ g < 4
  · obtain ⟨h0, h4⟩ := hg
    obtain ⟨p1, p2⟩ := prm_bd h0 h4
    obtain ⟨q1, q2⟩ := ord_bd h0 h4
    have HP := Lib.hid (fun (k : Nat) (a : 2 ≤ k) (b : (k : Int) < prm g) => prm_prime h0 h4 a b)
    have HO := Lib.hid (prm_ord h0 h4)
    go_wp2_with fail
    refine (iprm_any _ _ G1.out).mono ?_
    rintro e w2_ ⟨rfl, rfl⟩
    go_wp2_with fail
    refine (sprm_any _ _).mono ?_
    rintro e w2 ⟨rfl, hb⟩
    have B2 := Lib.hid (B1.out.trans (hb.mono B1.out.size))
    have G2 := Lib.hid (G1.out.on hb)
    clear hb
    obtain ⟨p, hp⟩ : ∃ p : Nat, prm g = p := ⟨(prm g).toNat, by omega⟩
    have HN := Lib.hid hp
    have p3 : 2 ≤ p := by omega
    have p4 : p ≤ 47 := by omega
    clear hp
    go_wp2_with fail
    rw [HN.out]
    go_wp2_with fail
    go_loop [5] (fun d => ∃ k : Nat, 2 ≤ k ∧ k ≤ p ∧ d = .int .i64 k) (fun d => p - (intOf d).toNat)
    case atStart => exact ⟨2, by omega, by omega, rfl⟩
    case round =>
      obtain ⟨k, hk2, hk, rfl⟩ := hrel
      by_cases hlt : k < p
      · have hm : ((p : Int) % (k : Int) == 0) = false := by have := HP.out k hk2 (by rw [HN.out]; omega); rw [HN.out] at this; simpa using this
        have hk0 : ((k : Int) == 0) = false := by simp; omega
        go_wp2
        go_round
        case rel => exact ⟨k + 1, by omega, by omega, by go_num⟩
        case measure => simp [intOf]; omega
      · obtain rfl : k = p := by omega
        have hq : (ord g == 0) = false := by simp; omega
        have hr : (((k : Int) - 1) % ord g == 0) = true := by have := HO.out; rw [HN.out] at this; simpa using this
        go_wp2_with fail
        refine (sord_any _ _).mono ?_
        rintro e w3 ⟨rfl, hb⟩
        have B3 := Lib.hid (B2.out.trans (hb.mono B2.out.size))
        have G3 := Lib.hid (G2.out.on hb)
        clear hb
        go_wp2
        go_ret
        exact ⟨rfl, B3.out⟩
  · have hn := prm_none hg
    have hneg : prm g < 0 := by omega
    have heq : (prm g == -1) = true := by rw [hn]; rfl
    clear hn
    go_wp2_with fail
    refine (iprm_any _ _ G1.out).mono ?_
    rintro e w2_ ⟨rfl, rfl⟩
    go_wp2_with fail
    refine (sprm_any _ _).mono ?_
    rintro e w2 ⟨rfl, hb⟩
    have B2 := Lib.hid (B1.out.trans (hb.mono B1.out.size))
    have G2 := Lib.hid (G1.out.on hb)
    clear hb
    go_wp2_with fail
    refine (alive_any _ G2.out).mono ?_
    rintro e w3_ ⟨rfl, rfl⟩
    go_wp2
    go_ret
    exact ⟨rfl, B2.out⟩

theorem lGroupOrder_walk (s : Value) (w : World) (h : CodeIn w s) (G : Gr w) : Calls Tryd.prog 4 #[s] w fun e w' => e = .returned (.bool true) ∧ Below w.heap.size w w' := by
  obtain ⟨a0, len0, cap0, rfl⟩ := h.slice
  have H := Lib.hid h; clear h
  have G0 := Lib.hid G; clear G
  have B0 := Lib.hid (Below.refl w.heap.size w)
  by_cases hl : 1048576 < len0
  · go_enter Tryd.func4, Tryd.ntmps4
    go_wp2
    go_ret
    exact ⟨rfl, Below.refl _ _⟩
  go_enter Tryd.func4, Tryd.ntmps4
  go_wp2_with fail
  refine (drawGroupOrder_any _ _ H.out).mono ?_
  rintro e w1 ⟨g, rfl, l1, u1, hb⟩
  have B1 := Lib.hid hb
  have G1 := Lib.hid (G0.out.on hb)
  clear hb
  by_cases hg : 0 ≤ g ∧ g < 4
  · obtain ⟨h0, h4⟩ := hg
    obtain ⟨p1, p2⟩ := prm_bd h0 h4
    obtain ⟨q1, q2⟩ := ord_bd h0 h4
    have HP := Lib.hid (fun (k : Nat) (a : 2 ≤ k) (b : (k : Int) < ord g) => ord_prime h0 h4 a b)
    have HO := Lib.hid (els_ord h0 h4)
    go_wp2_with fail
    refine (iord_any _ _ G1.out).mono ?_
    rintro e w2_ ⟨rfl, rfl⟩
    go_wp2_with fail
    refine (sord_any _ _).mono ?_
    rintro e w2 ⟨rfl, hb⟩
    have B2 := Lib.hid (B1.out.trans (hb.mono B1.out.size))
    have G2 := Lib.hid (G1.out.on hb)
    clear hb
    obtain ⟨p, hp⟩ : ∃ p : Nat, ord g = p := ⟨(ord g).toNat, by omega⟩
    have HN := Lib.hid hp
    have p3 : 2 ≤ p := by omega
    have p4 : p ≤ 47 := by omega
    clear hp
    go_wp2_with fail
    rw [HN.out]
    go_wp2_with fail
    go_loop [5] (fun d => ∃ k : Nat, 2 ≤ k ∧ k ≤ p ∧ d = .int .i64 k) (fun d => p - (intOf d).toNat)
    case atStart => exact ⟨2, by omega, by omega, rfl⟩
    case round =>
      obtain ⟨k, hk2, hk, rfl⟩ := hrel
      by_cases hlt : k < p
      · have hm : ((p : Int) % (k : Int) == 0) = false := by have := HP.out k hk2 (by rw [HN.out]; omega); rw [HN.out] at this; simpa using this
        have hk0 : ((k : Int) == 0) = false := by simp; omega
        go_wp2
        go_round
        case rel => exact ⟨k + 1, by omega, by omega, by go_num⟩
        case measure => simp [intOf]; omega
      · obtain rfl : k = p := by omega
        go_wp2_with fail
        refine (iels_any _ _ G2.out).mono ?_
        rintro e w3 ⟨v, rfl, O, hb⟩
        have B3 := Lib.hid (B2.out.trans (hb.mono B2.out.size))
        clear hb
        obtain ⟨a3, c3, rfl⟩ : ∃ a c, v = .slice a (els g).length c := (Ints.of_own O (els_fit g)).slice
        have hr : (((els g).length : Int) == (k : Int)) = true := by have := HO.out; rw [HN.out] at this; simpa using this
        clear O
        go_wp2
        go_ret
        exact ⟨rfl, B3.out⟩
  · have hn := ord_none hg
    have hneg : ord g < 0 := by omega
    have heq : (ord g == -1) = true := by rw [hn]; rfl
    clear hn
    go_wp2_with fail
    refine (iord_any _ _ G1.out).mono ?_
    rintro e w2_ ⟨rfl, rfl⟩
    go_wp2_with fail
    refine (sord_any _ _).mono ?_
    rintro e w2 ⟨rfl, hb⟩
    have B2 := Lib.hid (B1.out.trans (hb.mono B1.out.size))
    have G2 := Lib.hid (G1.out.on hb)
    clear hb
    go_wp2_with fail
    refine (alive_any _ G2.out).mono ?_
    rintro e w3_ ⟨rfl, rfl⟩
    go_wp2
    go_ret
    exact ⟨rfl, B2.out⟩

theorem lGroupBase_walk (s : Value) (w : World) (h : CodeIn w s) (G : Gr w) : Calls Tryd.prog 5 #[s] w fun e w' => e = .returned (.bool true) ∧ Below w.heap.size w w' := by
  obtain ⟨a0, len0, cap0, rfl⟩ := h.slice
  have H := Lib.hid h; clear h
  have G0 := Lib.hid G; clear G
  have B0 := Lib.hid (Below.refl w.heap.size w)
  by_cases hl : 1048576 < len0
  · go_enter Tryd.func5, Tryd.ntmps5
    go_wp2
    go_ret
    exact ⟨rfl, Below.refl _ _⟩
  go_enter Tryd.func5, Tryd.ntmps5
  go_wp2_with fail
  refine (drawGroupBase_any _ _ H.out).mono ?_
  rintro e w1 ⟨g, rfl, l1, u1, hb⟩
  have B1 := Lib.hid hb
  have G1 := Lib.hid (G0.out.on hb)
  clear hb
  by_cases hg : 0 ≤ g ∧ g < 4
  · obtain ⟨h0, h4⟩ := hg
    obtain ⟨q1, q2⟩ := bas_bd h0 h4
    have HE := Lib.hid (bas_el h0 h4)
    have hb1 : (bas g == -1) = false := by simp; omega
    have hb2 : (bas g != 1) = true := by rw [bne_iff_ne]; omega
    go_wp2_with fail
    refine (ibas_any _ _ G1.out).mono ?_
    rintro e w2_ ⟨rfl, rfl⟩
    go_wp2_with fail
    refine (sbas_any _ _).mono ?_
    rintro e w2 ⟨rfl, hb⟩
    have B2 := Lib.hid (B1.out.trans (hb.mono B1.out.size))
    have G2 := Lib.hid (G1.out.on hb)
    clear hb
    go_wp2_with fail
    refine (iel_any _ _ _ G2.out).mono ?_
    rintro e w3 ⟨rfl, m3, hw3⟩
    have hb : Below w2.heap.size w2 w3 := by rw [hw3]; exact below_drewN (Below.refl _ _) m3
    clear hw3
    have B3 := Lib.hid (B2.out.trans (hb.mono B2.out.size))
    have G3 := Lib.hid (G2.out.on hb)
    clear hb
    rw [HE.out]
    go_wp2_with fail
    refine (alive_any _ G3.out).mono ?_
    rintro e w4_ ⟨rfl, rfl⟩
    go_wp2
    go_ret
    exact ⟨rfl, B3.out⟩
  · have HB := Lib.hid (bas_none hg)
    have HP := Lib.hid (prm_none hg)
    go_wp2_with fail
    refine (ibas_any _ _ G1.out).mono ?_
    rintro e w2_ ⟨rfl, rfl⟩
    rw [HB.out]
    go_wp2_with fail
    refine (sbas_any _ _).mono ?_
    rintro e w2 ⟨rfl, hb⟩
    have B2 := Lib.hid (B1.out.trans (hb.mono B1.out.size))
    have G2 := Lib.hid (G1.out.on hb)
    clear hb
    rw [HB.out]
    go_wp2_with fail
    refine (iprm_any _ _ G2.out).mono ?_
    rintro e w3_ ⟨rfl, rfl⟩
    rw [HP.out]
    go_wp2_with fail
    refine (alive_any _ G2.out).mono ?_
    rintro e w4_ ⟨rfl, rfl⟩
    go_wp2
    go_ret
    exact ⟨rfl, B2.out⟩

theorem lElementOk_walk (s : Value) (w : World) (h : CodeIn w s) (G : Gr w) : Calls Tryd.prog 6 #[s] w fun e w' => e = .returned (.bool true) ∧ Below w.heap.size w w' := by
  obtain ⟨a0, len0, cap0, rfl⟩ := h.slice
  have H := Lib.hid h; clear h
  have G0 := Lib.hid G; clear G
  have B0 := Lib.hid (Below.refl w.heap.size w)
  by_cases hl : 1048576 < len0
  · go_enter Tryd.func6, Tryd.ntmps6
    go_wp2
    go_ret
    exact ⟨rfl, Below.refl _ _⟩
  go_enter Tryd.func6, Tryd.ntmps6
  go_wp2_with fail
  refine (drawElementOk_any _ _ H.out).mono ?_
  rintro e w1 ⟨g, a, rfl, lg, la, hb⟩
  have B1 := Lib.hid hb
  have G1 := Lib.hid (G0.out.on hb)
  clear hb
  go_wp2_with fail
  refine (iel_any _ _ _ G1.out).mono ?_
  rintro e w2 ⟨rfl, m2, hw2⟩
  have hb : Below w1.heap.size w1 w2 := by rw [hw2]; exact below_drewN (Below.refl _ _) m2
  clear hw2
  have B2 := Lib.hid (B1.out.trans (hb.mono B1.out.size))
  have G2 := Lib.hid (G1.out.on hb)
  clear hb
  go_wp2_with fail
  refine (sel_any _ _ _).mono ?_
  rintro e w3 ⟨rfl, hb⟩
  have B3 := Lib.hid (B2.out.trans (hb.mono B2.out.size))
  have G3 := Lib.hid (G2.out.on hb)
  clear hb
  go_wp2_with fail
  refine (iels_any _ _ G3.out).mono ?_
  rintro e w4 ⟨v, rfl, O, hb⟩
  have B4 := Lib.hid (B3.out.trans (hb.mono B3.out.size))
  have G4 := Lib.hid (G3.out.on hb)
  have I4 := Lib.hid (Ints.of_own O (els_fit g))
  clear hb O
  go_wp2_with fail
  refine (has_any _ _ _ _ I4.out).mono ?_
  rintro e w5_ ⟨rfl, rfl⟩
  rw [hasB_els]
  go_wp2_with fail
  refine (alive_any _ G4.out).mono ?_
  rintro e w6_ ⟨rfl, rfl⟩
  go_wp2
  go_ret
  exact ⟨rfl, B4.out⟩

theorem lExponentOk_walk (s : Value) (w : World) (h : CodeIn w s) (G : Gr w) : Calls Tryd.prog 7 #[s] w fun e w' => e = .returned (.bool true) ∧ Below w.heap.size w w' := by
  obtain ⟨a0, len0, cap0, rfl⟩ := h.slice
  have H := Lib.hid h; clear h
  have G0 := Lib.hid G; clear G
  have B0 := Lib.hid (Below.refl w.heap.size w)
  by_cases hl : 1048576 < len0
  · go_enter Tryd.func7, Tryd.ntmps7
    go_wp2
    go_ret
    exact ⟨rfl, Below.refl _ _⟩
  go_enter Tryd.func7, Tryd.ntmps7
  go_wp2_with fail
  refine (drawExponentOk_any _ _ H.out).mono ?_
  rintro e w1 ⟨g, n, rfl, lg, la, hb⟩
  have B1 := Lib.hid hb
  have G1 := Lib.hid (G0.out.on hb)
  clear hb
  have HZ := Lib.hid (exB_zero g)
  have HQ := Lib.hid (exB_ord g)
  go_wp2_with fail
  refine (iex_any _ _ _ G1.out).mono ?_
  rintro e w2_ ⟨rfl, rfl⟩
  go_wp2_with fail
  refine (sex_any _ _ _).mono ?_
  rintro e w2 ⟨rfl, hb⟩
  have B2 := Lib.hid (B1.out.trans (hb.mono B1.out.size))
  have G2 := Lib.hid (G1.out.on hb)
  clear hb
  go_wp2_with fail
  refine (iex_any _ _ _ G2.out).mono ?_
  rintro e w3_ ⟨rfl, rfl⟩
  rw [HZ.out]
  go_wp2_with fail
  refine (iord_any _ _ G2.out).mono ?_
  rintro e w3_ ⟨rfl, rfl⟩
  go_wp2_with fail
  refine (iord_any _ _ G2.out).mono ?_
  rintro e w3_ ⟨rfl, rfl⟩
  go_wp2_with fail
  refine (iex_any _ _ _ G2.out).mono ?_
  rintro e w3_ ⟨rfl, rfl⟩
  rw [HQ.out]
  go_wp2_with fail
  refine (alive_any _ G2.out).mono ?_
  rintro e w6_ ⟨rfl, rfl⟩
  go_wp2
  go_ret
  exact ⟨rfl, B2.out⟩

end Go.Proofs.YtjifldaohdddhaaDoor
