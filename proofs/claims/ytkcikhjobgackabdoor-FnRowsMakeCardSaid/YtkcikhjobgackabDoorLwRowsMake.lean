/- The law FnRowsMake, walked. -/
import Derived.Test.YtkcikhjobgackabDoorLawK
import Derived.Test.YtkcikhjobgackabDoorPureW
import Derived.Test.YtkcikhjobgackabDoorMkI
import Derived.Test.YtkcikhjobgackabDoorMkS
namespace Go.Proofs.YtkcikhjobgackabDoor
open Go.RowKit

set_option maxHeartbeats 400000 in
theorem lRowsMake_walk (s : Value) (w : World) (h : CodeIn w s) (G : Gr w) : Calls Tryd.prog 4 #[s] w fun e w' => e = .returned (.bool true) ∧ Below w.heap.size w w' := by
  obtain ⟨a0, len0, cap0, rfl⟩ := h.slice
  have H := Lib.hid h; clear h
  have G0 := Lib.hid G; clear G
  by_cases hl : 1048576 < len0
  · go_enter Tryd.func4, Tryd.ntmps4
    go_wp2
    go_ret
    exact ⟨rfl, Below.refl _ _⟩
  go_enter Tryd.func4, Tryd.ntmps4
  go_wp2_with fail
  refine (drawRowsMake_any _ _ H.out).mono ?_
  rintro e w1 ⟨g, rv, mv, ev, rows, makes, es, rfl, hcw, hes, hbd, hel, hb⟩
  obtain ⟨ra, rc, er, _⟩ := hcw.rows.opened
  obtain ⟨ma, mc, em, _⟩ := hcw.makes.opened
  subst er em
  obtain ⟨ea, ec, eev, _⟩ := hes.opened
  subst eev
  have B1 := Lib.hid hb
  have D := Lib.hid (show ∀ w', Below w1.heap.size w1 w' → Lw w' g (.slice ra rows.length rc) (.slice ma makes.length mc) rows makes ∧ Ints w' (.slice ea es.length ec) es from fun w' hb' => ⟨(Lw.mk (G0.out.on hb) hcw).on hb', hes.below hb'⟩)
  have I1 := Lib.hid (InB.start w1 [.int .i64 g, (.slice ra rows.length rc), (.slice ma makes.length mc)] 26)
  clear hcw hb
  cases hk : lotB g rows makes es
  · have HR := Lib.hid (rmk_no hk)
    have p0 := I1.out.box.cell 0
    have p1 := I1.out.box.cell 1
    have p2 := I1.out.box.cell 2
    simp at p0 p1 p2
    go_wp2_with fail
    refine (irmk_any g _ _ _ rows makes es _ (D.out _ I1.out.fin).1.gr (D.out _ I1.out.fin).1.cw (D.out _ I1.out.fin).2).mono ?_
    rintro e w2 ⟨v2, rfl, ho, hb⟩
    have I2 := Lib.hid (I1.out.on hb)
    rw [HR.out] at ho
    obtain ⟨xa, xc, ex⟩ := Own.form ho
    subst ex
    have O2 := Lib.hid ho
    clear ho
    clear hb
    clear p0 p1 p2
    have p0 := I2.out.box.cell 0
    have p1 := I2.out.box.cell 1
    have p2 := I2.out.box.cell 2
    simp at p0 p1 p2
    go_wp2_with fail
    refine (srmk_any g _ _ _ rows makes es _ (D.out _ I2.out.fin).1.cw (D.out _ I2.out.fin).2).mono ?_
    rintro e w3 ⟨v3, rfl, ho, hb⟩
    have I3 := Lib.hid (I2.out.on hb)
    rw [HR.out] at ho
    obtain ⟨ya, yc, ey⟩ := Own.form ho
    subst ey
    have O3 := Lib.hid ho
    have O2b := Lib.hid (own_below O2.out hb)
    clear ho O2
    clear hb
    clear p0 p1 p2
    go_wp2_with fail
    refine (same_eq _ _ [] _ (Ints.of_own O2b.out (by simp)) (Ints.of_own O3.out (by simp))).mono ?_
    rintro e w4 ⟨rfl, hb⟩
    have I4 := Lib.hid (I3.out.on hb)
    clear hb
    go_wp2_with fail
    refine (alive_any _ (D.out _ I4.out.fin).1.gr).mono ?_
    rintro e wz_ ⟨rfl, rfl⟩
    go_wp2
    go_ret
    exact ⟨rfl, Below.on B1.out I4.out.fin⟩
  · have HR := Lib.hid (rmk_yes hk)
    have hlot := lotB_true.1 hk
    have HLOT := Lib.hid hlot
    have hcl := hlot.cl
    have hr1 := hcl.r1
    have hr3 := hcl.r3
    have g0 := hcl.g0
    have g4 := hcl.g4
    have hu2 : es.length ≤ 2 := hel
    obtain ⟨o1, o2⟩ := ord_bd g0 g4
    obtain ⟨n, hn⟩ : ∃ n, rows.length = n := ⟨_, rfl⟩
    have HN := Lib.hid hn
    obtain ⟨u, hu⟩ : ∃ u, es.length = u := ⟨_, rfl⟩
    have HU := Lib.hid hu
    have HML := Lib.hid (show (mkAll g rows es).length = n from (mkAll_len g rows es).trans hn)
    have HTL := Lib.hid (fun k => twTo_len g es k)
    have HTS := Lib.hid (fun k => twTo_succ g es k)
    have HTW := Lib.hid (show lotB g rows makes (twTo g es u) = true by rw [← hu]; exact lotB_true.2 (tw_lot hlot))
    have HTM := Lib.hid (show ∀ k, k < n → nth (mkAll g rows (twTo g es u)) k = tim g (nth (mkAll g rows es) k) (nth (mkAll g rows es) k) by rw [← hu, ← hn]; exact fun k hk => tw_make hlot hk)
    have HML2 := Lib.hid (show (mkAll g rows (twTo g es u)).length = n from (mkAll_len g rows _).trans hn)
    have HEX := Lib.hid (show ∀ k, k < u → 0 ≤ nth es k ∧ nth es k < ord g by rw [← hu]; exact fun k hk => (exB_true.1 (allEx_at hlot.ex hk)).2)
    clear hlot hcl
    rw [hu] at D hu2 ⊢
    rw [hn] at D I1 hr1 hr3 ⊢
    clear hu hn
    have p0 := I1.out.box.cell 0
    have p1 := I1.out.box.cell 1
    have p2 := I1.out.box.cell 2
    simp at p0 p1 p2
    go_wp2_with fail
    refine (irmk_any g _ _ _ rows makes es _ (D.out _ I1.out.fin).1.gr (D.out _ I1.out.fin).1.cw (D.out _ I1.out.fin).2).mono ?_
    rintro e w2 ⟨v2, rfl, ho, hb⟩
    have I2 := Lib.hid (I1.out.on hb)
    rw [HR.out] at ho
    obtain ⟨xa, xc, ex⟩ := Own.form ho
    rw [HML.out] at ex
    subst ex
    have O2 := Lib.hid (Ints.of_own ho (by rw [HML.out]; unfold maxLen; omega))
    clear ho
    clear hb
    clear p0 p1 p2
    have p0 := I2.out.box.cell 0
    have p1 := I2.out.box.cell 1
    have p2 := I2.out.box.cell 2
    simp at p0 p1 p2
    go_wp2_with fail
    refine (srmk_any g _ _ _ rows makes es _ (D.out _ I2.out.fin).1.cw (D.out _ I2.out.fin).2).mono ?_
    rintro e w3 ⟨v3, rfl, ho, hb⟩
    have I3 := Lib.hid (I2.out.on hb)
    rw [HR.out] at ho
    have O3 := Lib.hid (Ints.of_own ho (by rw [HML.out]; unfold maxLen; omega))
    have O2b := Lib.hid (O2.out.below hb)
    clear ho O2
    clear hb
    clear p0 p1 p2
    go_wp2_with fail
    refine (same_eq _ _ (mkAll g rows es) _ O2b.out O3.out).mono ?_
    rintro e w4 ⟨rfl, hb⟩
    have I4 := Lib.hid (I3.out.on hb)
    have O2 := Lib.hid (O2b.out.below hb)
    clear O2b O3
    clear hb
    obtain ⟨wb, hwb⟩ : ∃ wb, wb = w4 := ⟨_, rfl⟩
    have FB := Lib.hid (show ∀ w', Below wb.heap.size wb w' → InB w1 [.int .i64 g, (.slice ra n rc), (.slice ma makes.length mc)] 26 w' ∧ Ints w' (.slice xa n xc) (mkAll g rows es) from fun w' hb => by rw [hwb] at hb; exact ⟨I4.out.on hb, O2.out.below hb⟩)
    rw [← hwb]
    clear hwb I1 I2 I3 I4 O2
    have OW := Lib.hid (own_made wb 3 rfl)
    have BW := Lib.hid (below_grow wb (.cells #[] 3))
    have ho0 : (ord g == 0) = false := by simp; omega
    have hone : ¬ ord g = 0 := by omega
    have hn0 : ((n : Int) == 0) = false := by simp; omega
    go_wp2
    go_loopw [6, 7] (fun v i wr => ∃ (k : Nat) (xs : List Int), k ≤ u ∧ i = .int .i64 k ∧ xs.length = k ∧ Hid (xs = twTo g es k) ∧ Hid (Below wb.heap.size wb wr ∧ Own wr wb.heap.size v xs)) (fun _ i _ => u - (intOf i).toNat)
    case atStart => exact ⟨0, [], by omega, rfl, rfl, Lib.hid rfl, Lib.hid ⟨BW.out, OW.out⟩⟩
    case round =>
      obtain ⟨k, xs, hk2, rfl, hxl, HXE, hT⟩ := hrel
      skip
      obtain ⟨wo, rfl⟩ : ∃ wo : World, wo = wr := ⟨_, rfl⟩
      by_cases hlt : k < u
      · have hlt1 : (k : Int) < (u : Int) := by omega
        obtain ⟨e0, e1⟩ := HEX.out k hlt
        have HEC := Lib.hid (show ∀ w', Below wb.heap.size wb w' → ∃ X, ea = some ⟨X, 0, none⟩ ∧ w'.cell? ⟨X, k, none⟩ = some (.int .i64 (nth es k)) from fun w' hb => by
          obtain ⟨a9, c9, e9, k9⟩ := (D.out _ (FB.out _ hb).1.fin).2.opened
          rw [HU.out] at e9
          cases e9
          obtain ⟨X, f1, _, f2⟩ := k9.get k (by rw [HU.out]; exact hlt)
          exact ⟨X, f1, f2⟩)
        obtain ⟨X, rfl, _⟩ := HEC.out _ hT.out.1
        have HEC2 := Lib.hid (show ∀ w', Below wb.heap.size wb w' → w'.cell? ⟨X, k, none⟩ = some (.int .i64 (nth es k)) from fun w' hb => by
          obtain ⟨X9, e9, f9⟩ := HEC.out w' hb
          cases e9
          exact f9)
        clear HEC
        go_wp2_with fail
        apply wp_region_H (Z := Option (Nat ⊕ Value)) (S := fun k => k == 8 || k == 9 || k == 10 || k == 11) (C := fun z w' => Hid (Kt wb u6 xs (2 * nth es k % ord g) z w')) [0, 1, 2, 3, 4, 5, 6, 7] none
        · kernel_rfl
        · kernel_rfl
        · kernel_rfl
        · exact ⟨rfl, rfl, rfl, rfl, rfl, rfl, rfl, rfl, trivial⟩
        · rfl
        · decide
        · exact Lib.hid ((show Kt wb u6 xs (2 * nth es k % ord g) none wo from hT.out).on (Below.refl _ _).drew)
        · intro z
          dsimp only [pickL, nthO]
          repeat (first | go_big_quiet_skip | (go_big_quiet_want; go_big_quiet_op; first | go_big_quiet_on | (refine ⟨_, fun _ _ => rfl, ?_⟩; go_big_quiet_on)))
          repeat (first | go_big_quiet_skip | (go_big_quiet_want; go_big_quiet_op; first | go_big_quiet_on | (refine ⟨_, fun _ _ => rfl, ?_⟩; go_big_quiet_on)))
          go_big_quiet_want
          go_big_quiet_op
          refine ⟨.int .i64 (nth es k), fun w' hw' => ?_, ?_⟩
          · have q := HEC2.out _ hw'.out.below
            simp [go_sem, q]
          go_big_quiet_on
          repeat (first | go_big_quiet_skip | (go_big_quiet_want; go_big_quiet_op; first | go_big_quiet_on | (refine ⟨_, fun _ _ => rfl, ?_⟩; go_big_quiet_on)))
          repeat (first | go_big_quiet_skip | (go_big_quiet_want; go_big_quiet_op; first | go_big_quiet_on | (refine ⟨_, fun _ _ => rfl, ?_⟩; go_big_quiet_on)))
          go_big_quiet_want
          go_big_quiet_op
          refine ⟨.int .i64 g, fun w' hw' => ?_, ?_⟩
          · have q := (FB.out _ hw'.out.below).1.box.cell 0
            simp at q
            simp [go_sem, q]
          go_big_quiet_on
          repeat (first | go_big_quiet_skip | (go_big_quiet_want; go_big_quiet_op; first | go_big_quiet_on | (refine ⟨_, fun _ _ => rfl, ?_⟩; go_big_quiet_on)))
          exact wpQuiet_nil rfl
        · skip
          refine wpAnyH_call (i := 8) (d := some 46) 19 #[.int .i64 g] rfl (by kernel_rfl) rfl rfl (by kernel_rfl) (fun _ => by kernel_rfl) fun wa hc => ?_
          refine (sord_any g wa).mono ?_
          rintro e wd ⟨rfl, hb⟩
          refine ⟨_, rfl, none, Lib.hid (Kt.on hc.out hb), ?_⟩
          clear hb hc
          refine wpAnyH_special (i := 9) (d := some 47) rfl (by kernel_rfl) rfl rfl (by kernel_rfl) fun wa hc => ⟨.int .i64 (2 * nth es k % ord g), wa, none, .inl (by have := Int.emod_nonneg (2 * nth es k) (show ord g ≠ 0 by omega); have := Int.tmod_eq_emod_of_nonneg (b := ord g) (show 0 ≤ 2 * nth es k by omega); simp [go_sem, Act.put, *]), hc, ?_⟩
          clear hc
          refine wpAnyH_special (i := 10) (d := some 48) rfl (by kernel_rfl) rfl rfl (by kernel_rfl) fun wa hc => ⟨.slice (some ⟨wa.heap.size, 0, none⟩) 1 1, wa.alloc (.cells #[.int .i64 (2 * nth es k % ord g)] 3), some (.inl wa.heap.size), .inl (by kernel_rfl), Lib.hid (Kt.build hc.out), ?_⟩
          clear hc
          refine wpAnyH_app2 (i := 11) (d := some 49) (v := u6) (xs := xs) (y := (2 * nth es k % ord g)) (B := wb.heap.size) (N := wa.heap.size) (.tmp 38) (.tmp 48) rfl (by kernel_rfl) rfl rfl (by kernel_rfl) rfl rfl rfl fun wc hc => ⟨hc.out.1.2, by omega, hc.out.1.1.size, hc.out.2, fun v' w' o4 g4 k4 => ⟨some (.inr v'), Lib.hid (Kt.app hc.out.1 o4 g4), ?_⟩⟩
          clear hc g4 k4 o4
          refine wpAnyH_assign (i := 12) (d := some 6) (.tmp 49) rfl (by kernel_rfl) rfl rfl (by kernel_rfl) rfl ?_
          refine ⟨by kernel_rfl, fun wz hz => ?_⟩
          simp only [Act.put, Act.eval]
          have TZ := Lib.hid (show Below wb.heap.size wb wz ∧ Own wz wb.heap.size v' (xs ++ [(2 * nth es k % ord g)]) from hz.out)
          clear hz
          go_wp2
          go_roundw
          case rel => exact ⟨k + 1, xs ++ [(2 * nth es k % ord g)], by omega, by go_num, by rw [List.length_append, hxl]; rfl, Lib.hid (by rw [HTS.out, ← HXE.out]), TZ⟩
          case measure => simp [intOf]; omega
      · obtain rfl : k = u := by omega
        have hlt1 : ¬ (k : Int) < (k : Int) := by omega
        have hx := HXE.out
        subst hx
        obtain ⟨ta, tc, etv⟩ := Own.form hT.out.2
        rw [HTL.out] at etv
        subst etv
        have I5 := Lib.hid (FB.out _ hT.out.1).1
        have FT := Lib.hid (show ∀ w', Below wo.heap.size wo w' → Ints w' (.slice ta k tc) (twTo g es k) ∧ Ints w' (.slice xa n xc) (mkAll g rows es) from fun w' hb => ⟨(Ints.of_own hT.out.2 (by rw [HTL.out]; unfold maxLen; omega)).below hb, (FB.out _ hT.out.1).2.below hb⟩)
        clear hT BW OW
        have p0 := I5.out.box.cell 0
        have p1 := I5.out.box.cell 1
        have p2 := I5.out.box.cell 2
        simp at p0 p1 p2
        go_wp2_with fail
        refine (irmk_any g _ _ _ rows makes (twTo g es k) _ (D.out _ I5.out.fin).1.gr (D.out _ I5.out.fin).1.cw (FT.out _ (Below.refl _ _)).1).mono ?_
        rintro e w6 ⟨v6, rfl, ho, hb⟩
        have I6 := Lib.hid (I5.out.on hb)
        rw [rmk_yes HTW.out] at ho
        obtain ⟨za, zc, ez⟩ := Own.form ho
        rw [HML2.out] at ez
        subst ez
        have FD := Lib.hid (show ∀ w', Below w6.heap.size w6 w' → IntsA w' za (mkAll g rows (twTo g es k)) ∧ IntsA w' xa (mkAll g rows es) from fun w' hb2 => by
          obtain ⟨a8, c8, e8, k8⟩ := ((Ints.of_own ho (by rw [HML2.out]; unfold maxLen; omega)).below hb2).opened
          obtain ⟨a9, c9, e9, k9⟩ := (FT.out _ (Below.on hb hb2)).2.opened
          rw [HML2.out] at e8; rw [HML.out] at e9
          cases e8; cases e9
          exact ⟨k8, k9⟩)
        clear ho
        clear hb
        clear p0 p1 p2
        go_wp2
        go_loopw [9] (fun i wr => ∃ j : Nat, j ≤ n ∧ i = .int .i64 j ∧ ∃ m, wr = w6.drewN m) (fun i _ => n - (intOf i).toNat)
        case atStart => exact ⟨0, by omega, rfl, 0, rfl⟩
        case round =>
          obtain ⟨j, hj, rfl, m, hwr⟩ := hrel
          have HW := Lib.hid (show Below w6.heap.size w6 wr by rw [hwr]; exact below_drewN (Below.refl _ _) m)
          have HWR := Lib.hid hwr
          clear hwr
          by_cases hjn : j < n
          · obtain ⟨X1, rfl, _, c1⟩ := (FD.out _ HW.out).1.get j (by rw [HML2.out]; exact hjn)
            obtain ⟨X2, rfl, _, c2⟩ := (FD.out _ HW.out).2.get j (by rw [HML.out]; exact hjn)
            have hlt1 : (j : Int) < (n : Int) := by omega
            have hge : decide (n ≤ j) = false := by simp; omega
            have q0 := (I6.out.on HW.out).box.cell 0
            simp at q0
            rw [HTM.out j hjn] at c1
            have hbn : (tim g (nth (mkAll g rows es) j) (nth (mkAll g rows es) j) != tim g (nth (mkAll g rows es) j) (nth (mkAll g rows es) j)) = false := by simp
            have hgr := Lib.hid (D.out _ (I6.out.on HW.out).fin).1.gr
            go_wp2_with fail
            go_quiet ((go_at_call 20; exact Calls.quiet_of (itim_any _ _ _ _ (Gr.drewN hgr.out _))))
            go_wp2
            go_roundw
            case rel => exact ⟨j + 1, by omega, by go_num, _, by rw [HWR.out]; exact World.drewN_drewN _ _ _⟩
            case measure => simp [intOf]; omega
          · obtain rfl : j = n := by omega
            have hlt1 : ¬ (j : Int) < (j : Int) := by omega
            have I7 := Lib.hid (I6.out.on HW.out)
            have p1 := I7.out.box.cell 1
            simp at p1
            go_wp2
            go_ret
            exact ⟨rfl, Below.on B1.out I7.out.fin⟩
end Go.Proofs.YtkcikhjobgackabDoor
