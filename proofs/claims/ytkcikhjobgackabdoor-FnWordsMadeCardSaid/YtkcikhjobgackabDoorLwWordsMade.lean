/- The law FnWordsMade, walked. -/
import Derived.Test.YtkcikhjobgackabDoorLawK
import Derived.Test.YtkcikhjobgackabDoorRegionK
import Derived.Test.YtkcikhjobgackabDoorPureW
import Derived.Test.YtkcikhjobgackabDoorMadI
import Derived.Test.YtkcikhjobgackabDoorMadS
import Derived.Test.YtkcikhjobgackabDoorOfI
import Derived.Test.YtkcikhjobgackabDoorWokI
import Derived.Test.YtkcikhjobgackabDoorSlnS
import Derived.Test.YtkcikhjobgackabDoorMarkR
namespace Go.Proofs.YtkcikhjobgackabDoor
open Go.RowKit

set_option maxRecDepth 20000 in
set_option maxHeartbeats 1000000 in
theorem lWordsMade_walk (s : Value) (w : World) (h : CodeIn w s) (G : Gr w) : Calls Tryd.prog 9 #[s] w fun e w' => e = .returned (.bool true) ∧ Below w.heap.size w w' := by
  obtain ⟨a0, len0, cap0, rfl⟩ := h.slice
  have H := Lib.hid h; clear h
  have G0 := Lib.hid G; clear G
  by_cases hl : 1048576 < len0
  · go_enter Tryd.func9, Tryd.ntmps9
    go_wp2
    go_ret
    exact ⟨rfl, Below.refl _ _⟩
  go_enter Tryd.func9, Tryd.ntmps9
  go_wp2_with fail
  refine (drawWordsMade_any _ _ H.out).mono ?_
  rintro e w1 ⟨g, rv, mv, ev, q, rows, makes, es, rfl, hcw, hes, hbd, hel, hq, hb⟩
  obtain ⟨ra, rc, er, _⟩ := hcw.rows.opened
  obtain ⟨ma, mc, em, _⟩ := hcw.makes.opened
  subst er em
  obtain ⟨ea, ec, eev, _⟩ := hes.opened
  subst eev
  obtain ⟨hq0, hq1⟩ := hq
  have B1 := Lib.hid hb
  have D := Lib.hid (show ∀ w', Below w1.heap.size w1 w' → Lw w' g (.slice ra rows.length rc) (.slice ma makes.length mc) rows makes ∧ Ints w' (.slice ea es.length ec) es from fun w' hb' => ⟨(Lw.mk (G0.out.on hb) hcw).on hb', hes.below hb'⟩)
  have I1 := Lib.hid (InB.start w1 [.int .i64 g, (.slice ra rows.length rc), (.slice ma makes.length mc)] 26)
  clear hcw hb
  cases hF : mdB g rows makes q es
  · have HQ := Lib.hid (show wdQ false q = 0 from rfl)
    have hqq : (0 == 0) = true := by simp
    have p0 := I1.out.box.cell 0
    have p1 := I1.out.box.cell 1
    have p2 := I1.out.box.cell 2
    simp at p0 p1 p2
    go_wp2_with fail
    refine (imade_any g _ _ q _ rows makes es _ (D.out _ I1.out.fin).1.gr (D.out _ I1.out.fin).1.cw (D.out _ I1.out.fin).2).mono ?_
    rintro e w2 ⟨sva, tva, rfl, o0, hb⟩
    rw [hF] at o0 ⊢
    rw [HQ.out]
    have o1 : OwnW w2 _ w2.heap.size sva tva [] [] := o0
    clear o0
    obtain ⟨saa, sca, e1⟩ := Own.form o1.s
    obtain ⟨taa, tca, e2⟩ := Own.form o1.t
    rw [List.length_nil] at e1
    rw [List.length_nil] at e2
    subst e1 e2
    have Fa := Lib.hid (show ∀ w', Below w2.heap.size w2 w' → Ints w' (.slice saa 0 sca) [] ∧ Ints w' (.slice taa 0 tca) [] from fun w' hb' => ⟨(Ints.of_own o1.s (by rw [List.length_nil]; exact Nat.zero_le _)).below hb', (Ints.of_own o1.t (by rw [List.length_nil]; exact Nat.zero_le _)).below hb'⟩)
    have I2 := Lib.hid (I1.out.on hb)
    clear o1
    clear p0 p1 p2
    clear hb
    have p0 := (I2.out.box.alloc (.cells #[.slice saa 0 sca, .int .i64 0, .slice taa 0 tca] 44)).cell 0
    have p1 := (I2.out.box.alloc (.cells #[.slice saa 0 sca, .int .i64 0, .slice taa 0 tca] 44)).cell 1
    have p2 := (I2.out.box.alloc (.cells #[.slice saa 0 sca, .int .i64 0, .slice taa 0 tca] 44)).cell 2
    simp at p0 p1 p2
    go_wp2_with fail
    refine (smade_any g _ _ q _ rows makes es _ (D.out _ (I2.out.on (below_grow _ _)).fin).1.cw (D.out _ (I2.out.on (below_grow _ _)).fin).2).mono ?_
    rintro e w3 ⟨svb, tvb, rfl, o0, hb⟩
    rw [hF] at o0 ⊢
    rw [HQ.out]
    have o1 : OwnW w3 _ w3.heap.size svb tvb [] [] := o0
    clear o0
    obtain ⟨sab, scb, e1⟩ := Own.form o1.s
    obtain ⟨tab, tcb, e2⟩ := Own.form o1.t
    rw [List.length_nil] at e1
    rw [List.length_nil] at e2
    subst e1 e2
    have Fb := Lib.hid (show ∀ w', Below w3.heap.size w3 w' → Ints w' (.slice sab 0 scb) [] ∧ Ints w' (.slice tab 0 tcb) [] from fun w' hb' => ⟨(Ints.of_own o1.s (by rw [List.length_nil]; exact Nat.zero_le _)).below hb', (Ints.of_own o1.t (by rw [List.length_nil]; exact Nat.zero_le _)).below hb'⟩)
    have I3 := Lib.hid ((I2.out.on (below_grow _ _)).on hb)
    clear o1
    clear p0 p1 p2
    have XA := Lib.hid ((Box.made w2 [.slice saa 0 sca, .int .i64 0, .slice taa 0 tca] 44).on hb)
    have KA := Lib.hid (Below.on (below_grow w2 (.cells #[.slice saa 0 sca, .int .i64 0, .slice taa 0 tca] 44)) hb)
    clear hb
    have a0 := (XA.out.alloc (.cells #[.slice sab 0 scb, .int .i64 0, .slice tab 0 tcb] 44)).cell 0
    have a1 := (XA.out.alloc (.cells #[.slice sab 0 scb, .int .i64 0, .slice tab 0 tcb] 44)).cell 1
    have a2 := (XA.out.alloc (.cells #[.slice sab 0 scb, .int .i64 0, .slice tab 0 tcb] 44)).cell 2
    simp at a0 a1 a2
    go_wp2_with fail
    refine (samew_any 0 _ _ _ _ [] [] [] _ (Fa.out _ (Below.on KA.out (below_grow _ _))).1 (Fa.out _ (Below.on KA.out (below_grow _ _))).2 (Fb.out _ (below_grow _ _)).1 (Fb.out _ (below_grow _ _)).2).mono ?_
    rintro e w4 ⟨rfl, hb⟩
    rw [sameB_refl]
    have I4 := Lib.hid ((I3.out.on (below_grow _ _)).on hb)
    have XA4 := Lib.hid ((XA.out.alloc (.cells #[.slice sab 0 scb, .int .i64 0, .slice tab 0 tcb] 44)).on hb)
    have KA4 := Lib.hid (Below.on KA.out (Below.on (below_grow _ _) hb))
    clear hb a0 a1 a2 XA
    have a0 := XA4.out.cell 0
    simp at a0
    go_wp2_with fail
    refine (alive_any _ (D.out _ I4.out.fin).1.gr).mono ?_
    rintro e wz_ ⟨rfl, rfl⟩
    go_wp2
    go_ret
    exact ⟨rfl, Below.on B1.out I4.out.fin⟩
  · have hmd := hF
    unfold mdB at hmd
    simp only [Bool.and_eq_true] at hmd
    obtain ⟨hml, hqe⟩ := hmd
    have hlt := lotB_true.1 hml
    have HLOT := Lib.hid hlt
    have HQE := Lib.hid hqe
    have HW := Lib.hid (made_wok hlt hqe)
    obtain ⟨n, hn⟩ : ∃ n, rows.length = n := ⟨_, rfl⟩
    obtain ⟨u, hu⟩ : ∃ u, es.length = u := ⟨_, rfl⟩
    have HN := Lib.hid (show (saysUp g rows makes q es).length = n from (saysUp_len g rows makes q es).trans hn)
    have HT := Lib.hid hu
    have hr3 := hlt.cl.r3
    have hr1 := hlt.cl.r1
    have g0 := hlt.cl.g0
    have g4 := hlt.cl.g4
    obtain ⟨o1, o2⟩ := ord_bd g0 g4
    obtain ⟨_, hx0, hx1⟩ := exB_true.1 hqe
    have hu1 : 1 ≤ u := by rw [← hu, hlt.len]; exact hlt.cl.u1
    have hu2 : u ≤ 2 := by omega
    have HEX := Lib.hid (show ∀ j, j < u → 0 ≤ nth es j ∧ nth es j < ord g by rw [← hu]; exact fun j hj => (exB_true.1 (allEx_at hlt.ex hj)).2)
    have HS := Lib.hid (show ∀ k, k < (sols g rows makes).length → Lot g rows makes (row (sols g rows makes) k) ∧ mkAll g rows (row (sols g rows makes) k) = makes from fun k hk => (sols_mem hlt.cl).1 (row_mem hk))
    have HRL := Lib.hid (show ∀ k, k < (sols g rows makes).length → (row (sols g rows makes) k).length = u from fun k hk => by rw [(HS.out k hk).1.len, ← hu, hlt.len])
    have HSX := Lib.hid (show ∀ k, k < (sols g rows makes).length → ∀ j, j < u → 0 ≤ nth (row (sols g rows makes) k) j ∧ nth (row (sols g rows makes) k) j < ord g from fun k hk j hj => (exB_true.1 (allEx_at (HS.out k hk).1.ex (by rw [HRL.out k hk]; exact hj))).2)
    have HMT := Lib.hid (show ∀ k, k < (sols g rows makes).length → mkAll g rows (furthTo g es (row (sols g rows makes) k) q u) = saysUp g rows makes q es ∧ tellsAll g (row (sols g rows makes) k) (furthTo g es (row (sols g rows makes) k) q u) q = es ∧ ofB g rows makes (row (sols g rows makes) k) (furthTo g es (row (sols g rows makes) k) q u) q = true from fun k hk => by
      obtain ⟨s1, s2⟩ := HS.out k hk
      have a := made_true hlt hqe s1 s2
      have f := furth_lot (es := row (sols g rows makes) k) hlt q
      unfold furthAll at a f
      rw [hu] at a f
      refine ⟨a.1, a.2, ?_⟩
      unfold ofB
      rw [solv_true.2 ⟨s1, s2⟩, lotB_true.2 f, hqe]; rfl)
    have HFS := Lib.hid (fun (es9 : List Int) (k : Nat) => furthTo_succ g es es9 q k)
    have HFL := Lib.hid (fun (es9 : List Int) (k : Nat) => furthTo_len g es es9 q k)
    clear hlt hml hqe
    rw [hn] at D I1 hr1 hr3 ⊢
    rw [hu] at D ⊢
    clear hn hu
    have HQ := Lib.hid (show wdQ true q = q from rfl)
    have hqq : (q == q) = true := by simp
    have p0 := I1.out.box.cell 0
    have p1 := I1.out.box.cell 1
    have p2 := I1.out.box.cell 2
    simp at p0 p1 p2
    go_wp2_with fail
    refine (imade_any g _ _ q _ rows makes es _ (D.out _ I1.out.fin).1.gr (D.out _ I1.out.fin).1.cw (D.out _ I1.out.fin).2).mono ?_
    rintro e w2 ⟨sva, tva, rfl, o0, hb⟩
    rw [hF] at o0 ⊢
    rw [HQ.out]
    have o1 : OwnW w2 _ w2.heap.size sva tva (saysUp g rows makes q es) es := o0
    clear o0
    obtain ⟨saa, sca, e1⟩ := Own.form o1.s
    obtain ⟨taa, tca, e2⟩ := Own.form o1.t
    rw [HN.out] at e1
    rw [HT.out] at e2
    subst e1 e2
    have Fa := Lib.hid (show ∀ w', Below w2.heap.size w2 w' → Ints w' (.slice saa n sca) (saysUp g rows makes q es) ∧ Ints w' (.slice taa u tca) es from fun w' hb' => ⟨(Ints.of_own o1.s (by rw [HN.out]; unfold maxLen; omega)).below hb', (Ints.of_own o1.t (by rw [HT.out]; unfold maxLen; omega)).below hb'⟩)
    have I2 := Lib.hid (I1.out.on hb)
    clear o1
    clear p0 p1 p2
    clear hb
    have p0 := (I2.out.box.alloc (.cells #[.slice saa n sca, .int .i64 q, .slice taa u tca] 44)).cell 0
    have p1 := (I2.out.box.alloc (.cells #[.slice saa n sca, .int .i64 q, .slice taa u tca] 44)).cell 1
    have p2 := (I2.out.box.alloc (.cells #[.slice saa n sca, .int .i64 q, .slice taa u tca] 44)).cell 2
    simp at p0 p1 p2
    go_wp2_with fail
    refine (smade_any g _ _ q _ rows makes es _ (D.out _ (I2.out.on (below_grow _ _)).fin).1.cw (D.out _ (I2.out.on (below_grow _ _)).fin).2).mono ?_
    rintro e w3 ⟨svb, tvb, rfl, o0, hb⟩
    rw [hF] at o0 ⊢
    rw [HQ.out]
    have o1 : OwnW w3 _ w3.heap.size svb tvb (saysUp g rows makes q es) es := o0
    clear o0
    obtain ⟨sab, scb, e1⟩ := Own.form o1.s
    obtain ⟨tab, tcb, e2⟩ := Own.form o1.t
    rw [HN.out] at e1
    rw [HT.out] at e2
    subst e1 e2
    have Fb := Lib.hid (show ∀ w', Below w3.heap.size w3 w' → Ints w' (.slice sab n scb) (saysUp g rows makes q es) ∧ Ints w' (.slice tab u tcb) es from fun w' hb' => ⟨(Ints.of_own o1.s (by rw [HN.out]; unfold maxLen; omega)).below hb', (Ints.of_own o1.t (by rw [HT.out]; unfold maxLen; omega)).below hb'⟩)
    have I3 := Lib.hid ((I2.out.on (below_grow _ _)).on hb)
    clear o1
    clear p0 p1 p2
    have XA := Lib.hid ((Box.made w2 [.slice saa n sca, .int .i64 q, .slice taa u tca] 44).on hb)
    have KA := Lib.hid (Below.on (below_grow w2 (.cells #[.slice saa n sca, .int .i64 q, .slice taa u tca] 44)) hb)
    clear hb
    have a0 := (XA.out.alloc (.cells #[.slice sab n scb, .int .i64 q, .slice tab u tcb] 44)).cell 0
    have a1 := (XA.out.alloc (.cells #[.slice sab n scb, .int .i64 q, .slice tab u tcb] 44)).cell 1
    have a2 := (XA.out.alloc (.cells #[.slice sab n scb, .int .i64 q, .slice tab u tcb] 44)).cell 2
    simp at a0 a1 a2
    go_wp2_with fail
    refine (samew_any q _ _ _ _ (saysUp g rows makes q es) (saysUp g rows makes q es) es _ (Fa.out _ (Below.on KA.out (below_grow _ _))).1 (Fa.out _ (Below.on KA.out (below_grow _ _))).2 (Fb.out _ (below_grow _ _)).1 (Fb.out _ (below_grow _ _)).2).mono ?_
    rintro e w4 ⟨rfl, hb⟩
    rw [sameB_refl]
    have I4 := Lib.hid ((I3.out.on (below_grow _ _)).on hb)
    have XA4 := Lib.hid ((XA.out.alloc (.cells #[.slice sab n scb, .int .i64 q, .slice tab u tcb] 44)).on hb)
    have KA4 := Lib.hid (Below.on KA.out (Below.on (below_grow _ _) hb))
    clear hb a0 a1 a2 XA
    have p0 := I4.out.box.cell 0
    have p1 := I4.out.box.cell 1
    have p2 := I4.out.box.cell 2
    simp at p0 p1 p2
    go_wp2_with fail
    refine (ssols_any g _ _ rows makes _ (D.out _ I4.out.fin).1.cw).mono ?_
    rintro e w5 ⟨lv, us, rfl, ol, hb⟩
    have hlen := sols_len g rows makes
    have hIS := ssOf hlen (sols_row g rows makes) ol
    obtain ⟨va, vc, ev9, _⟩ := hIS.opened
    obtain ⟨N, hN⟩ : ∃ N, (sols g rows makes).length = N := ⟨_, rfl⟩
    rw [hN] at ev9 hlen
    have HNN := Lib.hid hN
    subst ev9
    have FB := Lib.hid (show ∀ w', Below w5.heap.size w5 w' → InB w1 [.int .i64 g, (.slice ra n rc), (.slice ma makes.length mc)] 26 w' ∧ Box w' w2.heap.size [.slice saa n sca, .int .i64 q, .slice taa u tca] ∧ Below w2.heap.size w2 w' ∧ IntSS w' (.slice va N vc) (sols g rows makes) from fun w' hb' => ⟨(I4.out.on hb).on hb', (XA4.out.on hb).on hb', Below.on (Below.on KA4.out hb) hb', hIS.on hb'⟩)
    rw [hN] at HS HRL HSX HMT
    clear p0 p1 p2 hIS ol hb hN I1 I2 I3 I4 XA4 KA4 KA Fb
    go_wp2
    go_loopw [11] (fun i wr => ∃ k : Nat, k ≤ N ∧ i = .int .i64 k ∧ Hid (Below w5.heap.size w5 wr)) (fun i _ => N - (intOf i).toNat)
    case atStart => exact ⟨0, by omega, rfl, Lib.hid (Below.refl _ _)⟩
    case round =>
      obtain ⟨k, hk, rfl, hT⟩ := hrel
      obtain ⟨wo, rfl⟩ : ∃ wo : World, wo = wr := ⟨_, rfl⟩
      by_cases hkN : k < N
      · have hk1 : (k : Int) < (N : Int) := by omega
        by_cases h30 : k < 30
        · have h31 : (k : Int) < 30 := by omega
          have hT2 := hT
          obtain ⟨a8, c8, e8, k8⟩ := (FB.out _ hT.out).2.2.2.opened
          rw [HNN.out] at e8
          cases e8
          obtain ⟨G, ux, rfl, hG, hc0, hux⟩ := k8.get k (by rw [HNN.out]; exact hkN)
          obtain ⟨ax, cx, rfl, k9⟩ := hux.opened
          obtain ⟨X, rfl, _, _⟩ := k9.get 0 (by rw [HRL.out k hkN]; omega)
          rw [HRL.out k hkN] at hc0 hux
          have HRW := Lib.hid (show ∀ w', Below wo.heap.size wo w' → w'.cell? ⟨G, k, none⟩ = some (.slice (some ⟨X, 0, none⟩) u cx) ∧ Ints w' (.slice (some ⟨X, 0, none⟩) u cx) (row (sols g rows makes) k) from fun w' hb => ⟨(hb.cell (p := ⟨G, k, none⟩) hG).trans hc0, hux.below hb⟩)
          have HRE := Lib.hid (show ∀ w', Below wo.heap.size wo w' → ∀ j, j < u → w'.cell? ⟨X, j, none⟩ = some (.int .i64 (nth (row (sols g rows makes) k) j)) from fun w' hb j hj => by
            obtain ⟨X9, e9, _, c9⟩ := (k9.on hb).get j (by rw [HRL.out k hkN]; exact hj)
            cases e9
            exact c9)
          clear k8 k9 hux hc0 hG hT2
          obtain ⟨wb, hwb⟩ : ∃ wb, wb = wo := ⟨_, rfl⟩
          rw [← hwb] at hT HRW HRE ⊢
          clear hwb
          have OW := Lib.hid (own_made wb 3 rfl)
          have BW := Lib.hid (below_grow wb (.cells #[] 3))
          obtain ⟨L, hL⟩ : ∃ L, row (sols g rows makes) k = L := ⟨_, rfl⟩
          have HSXk := Lib.hid (show ∀ j, j < u → 0 ≤ nth L j ∧ nth L j < ord g by rw [← hL]; exact HSX.out k hkN)
          have HMTk := HMT.out k hkN
          rw [hL] at HRW HRE HMTk
          have HMk := Lib.hid HMTk
          clear hL HMTk
          go_wp2
          go_loopw [12, 13] (fun v i wr => ∃ (j : Nat) (xs : List Int), j ≤ u ∧ i = .int .i64 j ∧ xs.length = j ∧ Hid (xs = furthTo g es L q j) ∧ Hid (Below wb.heap.size wb wr ∧ Own wr wb.heap.size v xs)) (fun _ i _ => u - (intOf i).toNat)
          case atStart => exact ⟨0, [], by omega, rfl, rfl, Lib.hid rfl, Lib.hid ⟨BW.out, OW.out⟩⟩
          case round =>
            obtain ⟨j, xs, hj2, rfl, hxl, HXE, hV⟩ := hrel
            obtain ⟨wo, rfl⟩ : ∃ wo : World, wo = wr := ⟨_, rfl⟩
            by_cases hjl : j < u
            · have hjl1 : (j : Int) < (u : Int) := by omega
              obtain ⟨e0, e1⟩ := HEX.out j hjl
              obtain ⟨s0, s1⟩ := HSXk.out j hjl
              have m0 : 0 ≤ q * nth L j := Int.mul_nonneg hx0 s0
              have m1 : q * nth L j ≤ 529 := Int.le_trans (Int.mul_le_mul (show q ≤ 23 by omega) (show nth L j ≤ 23 by omega) s0 (by omega)) (by decide)
              have HEC := Lib.hid (show ∀ w', Below wb.heap.size wb w' → ∃ X, ea = some ⟨X, 0, none⟩ ∧ w'.cell? ⟨X, j, none⟩ = some (.int .i64 (nth es j)) from fun w' hb => by
                obtain ⟨a9, c9, e9, k9⟩ := (D.out _ (FB.out _ (Below.on hT.out hb)).1.fin).2.opened
                rw [HT.out] at e9
                cases e9
                obtain ⟨X, f1, _, f2⟩ := k9.get j (by rw [HT.out]; exact hjl)
                exact ⟨X, f1, f2⟩)
              obtain ⟨Xe, rfl, _⟩ := HEC.out _ hV.out.1
              have HEC2 := Lib.hid (show ∀ w', Below wb.heap.size wb w' → w'.cell? ⟨Xe, j, none⟩ = some (.int .i64 (nth es j)) from fun w' hb => by
                obtain ⟨X9, e9, f9⟩ := HEC.out w' hb
                cases e9
                exact f9)
              clear HEC
              go_wp2_with fail
              apply wp_region_H (Z := Option (Nat ⊕ Value)) (S := fun k => k == 17 || k == 18 || k == 19 || k == 20) (C := fun z w' => Hid (Kt wb u12 xs ((nth es j - q * nth L j) % ord g) z w')) [0, 1, 2, 3, 4, 5, 6, 7, 8, 9, 10, 11, 12, 13, 14, 15, 16] none
              · kernel_rfl
              · kernel_rfl
              · kernel_rfl
              · exact ⟨rfl, rfl, rfl, rfl, rfl, rfl, rfl, rfl, rfl, rfl, rfl, rfl, rfl, rfl, rfl, rfl, rfl, trivial⟩
              · rfl
              · decide
              · exact Lib.hid ((show Kt wb u12 xs ((nth es j - q * nth L j) % ord g) none wo from hV.out).on (Below.refl _ _).drew)
              · intro z
                dsimp only [pickL, nthO]
                repeat (first | go_big_quiet_skip | (go_big_quiet_want; go_big_quiet_op; first | go_big_quiet_on | (refine ⟨_, fun _ _ => rfl, ?_⟩; go_big_quiet_on)))
                repeat (first | go_big_quiet_skip | (go_big_quiet_want; go_big_quiet_op; first | go_big_quiet_on | (refine ⟨_, fun _ _ => rfl, ?_⟩; go_big_quiet_on)))
                go_big_quiet_want
                go_big_quiet_op
                refine ⟨.int .i64 (nth es j), fun w' hw' => ?_, ?_⟩
                · have q9 := HEC2.out _ hw'.out.below
                  simp [go_sem, q9]
                go_big_quiet_on
                repeat (first | go_big_quiet_skip | (go_big_quiet_want; go_big_quiet_op; first | go_big_quiet_on | (refine ⟨_, fun _ _ => rfl, ?_⟩; go_big_quiet_on)))
                repeat (first | go_big_quiet_skip | (go_big_quiet_want; go_big_quiet_op; first | go_big_quiet_on | (refine ⟨_, fun _ _ => rfl, ?_⟩; go_big_quiet_on)))
                go_big_quiet_want
                go_big_quiet_op
                refine ⟨.slice (some ⟨X, 0, none⟩) u cx, fun w' hw' => ?_, ?_⟩
                · have q9 := (HRW.out _ hw'.out.below).1
                  simp [go_sem, q9]
                go_big_quiet_on
                repeat (first | go_big_quiet_skip | (go_big_quiet_want; go_big_quiet_op; first | go_big_quiet_on | (refine ⟨_, fun _ _ => rfl, ?_⟩; go_big_quiet_on)))
                repeat (first | go_big_quiet_skip | (go_big_quiet_want; go_big_quiet_op; first | go_big_quiet_on | (refine ⟨_, fun _ _ => rfl, ?_⟩; go_big_quiet_on)))
                go_big_quiet_want
                go_big_quiet_op
                refine ⟨.int .i64 (nth L j), fun w' hw' => ?_, ?_⟩
                · have q9 := HRE.out _ hw'.out.below j hjl
                  simp [go_sem, q9]
                go_big_quiet_on
                repeat (first | go_big_quiet_skip | (go_big_quiet_want; go_big_quiet_op; first | go_big_quiet_on | (refine ⟨_, fun _ _ => rfl, ?_⟩; go_big_quiet_on)))
                repeat (first | go_big_quiet_skip | (go_big_quiet_want; go_big_quiet_op; first | go_big_quiet_on | (refine ⟨_, fun _ _ => rfl, ?_⟩; go_big_quiet_on)))
                go_big_quiet_want
                go_big_quiet_op
                refine ⟨.int .i64 g, fun w' hw' => ?_, ?_⟩
                · have q9 := (FB.out _ (Below.on hT.out hw'.out.below)).1.box.cell 0
                  simp at q9
                  simp [go_sem, q9]
                go_big_quiet_on
                repeat (first | go_big_quiet_skip | (go_big_quiet_want; go_big_quiet_op; first | go_big_quiet_on | (refine ⟨_, fun _ _ => rfl, ?_⟩; go_big_quiet_on)))
                exact wpQuiet_nil rfl
              · skip
                refine wpAnyH_call (i := 17) (d := some 93) 19 #[.int .i64 g] rfl (by kernel_rfl) rfl rfl (by kernel_rfl) (fun _ => by kernel_rfl) fun wa hc => ?_
                refine (sord_any g wa).mono ?_
                rintro e wd ⟨rfl, hb⟩
                refine ⟨_, rfl, none, Lib.hid (Kt.on hc.out hb), ?_⟩
                clear hb hc
                refine wpAnyH_call (i := 18) (d := some 94) 28 #[.int .i64 (nth es j - q * nth L j), .int .i64 (ord g)] rfl (by kernel_rfl) rfl rfl (by kernel_rfl) (fun _ => by kernel_rfl) fun wa hc => ?_
                refine (rest_any _ (ord g) wa (by omega) (by omega) (by omega) (by omega)).mono ?_
                rintro e wd ⟨rfl, rfl⟩
                refine ⟨_, rfl, none, hc, ?_⟩
                clear hc
                refine wpAnyH_special (i := 19) (d := some 95) rfl (by kernel_rfl) rfl rfl (by kernel_rfl) fun wa hc => ⟨.slice (some ⟨wa.heap.size, 0, none⟩) 1 1, wa.alloc (.cells #[.int .i64 ((nth es j - q * nth L j) % ord g)] 3), some (.inl wa.heap.size), .inl (by kernel_rfl), Lib.hid (Kt.build hc.out), ?_⟩
                clear hc
                refine wpAnyH_app2 (i := 20) (d := some 96) (v := u12) (xs := xs) (y := ((nth es j - q * nth L j) % ord g)) (B := wb.heap.size) (N := wa.heap.size) (.tmp 76) (.tmp 95) rfl (by kernel_rfl) rfl rfl (by kernel_rfl) rfl rfl rfl fun wc hc => ⟨hc.out.1.2, by omega, hc.out.1.1.size, hc.out.2, fun v' w' o4 g4 k4 => ⟨some (.inr v'), Lib.hid (Kt.app hc.out.1 o4 g4), ?_⟩⟩
                clear hc g4 k4 o4
                refine wpAnyH_assign (i := 21) (d := some 12) (.tmp 96) rfl (by kernel_rfl) rfl rfl (by kernel_rfl) rfl ?_
                refine ⟨by kernel_rfl, fun wz hz => ?_⟩
                simp only [Act.put, Act.eval]
                have TZ := Lib.hid (show Below wb.heap.size wb wz ∧ Own wz wb.heap.size v' (xs ++ [((nth es j - q * nth L j) % ord g)]) from hz.out)
                clear hz
                go_wp2
                go_roundw
                case rel => exact ⟨j + 1, xs ++ [((nth es j - q * nth L j) % ord g)], by omega, by go_num, by rw [List.length_append, hxl]; rfl, Lib.hid (by rw [HFS.out, ← HXE.out]), TZ⟩
                case measure => simp [intOf]; omega
            · obtain rfl : u = j := by omega
              have hjl1 : ¬ (u : Int) < (u : Int) := by omega
              have hx := HXE.out
              subst hx
              obtain ⟨fa, fc, etv⟩ := Own.form hV.out.2
              rw [HFL.out] at etv
              subst etv
              obtain ⟨m1, m2, m3⟩ := HMk.out
              have HM1 := Lib.hid m1
              have HM2 := Lib.hid m2
              have HM3 := Lib.hid m3
              have HQQ := Lib.hid (show wdQ true q = q from rfl)
              clear m1 m2 m3
              have FO := Lib.hid (show ∀ w', Below wo.heap.size wo w' → (InB w1 [.int .i64 g, (.slice ra n rc), (.slice ma makes.length mc)] 26 w' ∧ Box w' w2.heap.size [.slice saa n sca, .int .i64 q, .slice taa u tca] ∧ Below w2.heap.size w2 w' ∧ IntSS w' (.slice (some ⟨G, 0, none⟩) N vc) (sols g rows makes)) ∧ Below w5.heap.size w5 w' ∧ (w'.cell? ⟨G, k, none⟩ = some (.slice (some ⟨X, 0, none⟩) u cx) ∧ Ints w' (.slice (some ⟨X, 0, none⟩) u cx) L) ∧ Ints w' (.slice fa u fc) (furthTo g es L q u) from fun w' hb => ⟨FB.out _ (Below.on hT.out (Below.on hV.out.1 hb)), Below.on hT.out (Below.on hV.out.1 hb), HRW.out _ (Below.on hV.out.1 hb), (Ints.of_own hV.out.2 (by rw [HFL.out]; unfold maxLen; omega)).below hb⟩)
              clear hV
              go_wp2_with fail
              apply wp_region_H (Z := Option (Value × Value) × Option (Nat × Bool)) (S := fun k => k == 7 || k == 11 || k == 12) (C := fun z w' => Hid (Wz (fun w' => Below wo.heap.size wo w') wo.heap.size q (saysUp g rows makes q es) es z.1 z.2 w')) [0, 1, 2, 3, 4, 5, 6] (none, none)
              · kernel_rfl
              · kernel_rfl
              · kernel_rfl
              · exact ⟨rfl, rfl, rfl, rfl, rfl, rfl, rfl, trivial⟩
              · rfl
              · decide
              · exact Lib.hid (Wz.start (Below.refl _ _).drew (Nat.le_refl _))
              · intro z
                dsimp only [pickL, nthO]
                repeat (first | go_big_quiet_skip | (go_big_quiet_want; go_big_quiet_op; first | go_big_quiet_on | (refine ⟨_, fun _ _ => rfl, ?_⟩; go_big_quiet_on)))
                go_big_quiet_want
                go_big_quiet_op
                refine ⟨.agg #[.int .i64 g, (.slice ra n rc), (.slice ma makes.length mc)], fun w' hw' => ?_, ?_⟩
                · have q9 := (FO.out _ hw'.out.base).1.1.box.cell 0; have q8 := (FO.out _ hw'.out.base).1.1.box.cell 1; have q7 := (FO.out _ hw'.out.base).1.1.box.cell 2
                  simp at q9 q8 q7
                  simp [go_sem, q9, q8, q7]
                go_big_quiet_on
                repeat (first | go_big_quiet_skip | (go_big_quiet_want; go_big_quiet_op; first | go_big_quiet_on | (refine ⟨_, fun _ _ => rfl, ?_⟩; go_big_quiet_on)))
                repeat (first | go_big_quiet_skip | (go_big_quiet_want; go_big_quiet_op; first | go_big_quiet_on | (refine ⟨_, fun _ _ => rfl, ?_⟩; go_big_quiet_on)))
                go_big_quiet_want
                go_big_quiet_op
                refine ⟨.slice (some ⟨X, 0, none⟩) u cx, fun w' hw' => ?_, ?_⟩
                · have q9 := (FO.out _ hw'.out.base).2.2.1.1
                  simp [go_sem, q9]
                go_big_quiet_on
                repeat (first | go_big_quiet_skip | (go_big_quiet_want; go_big_quiet_op; first | go_big_quiet_on | (refine ⟨_, fun _ _ => rfl, ?_⟩; go_big_quiet_on)))
                exact wpQuiet_nil rfl
              · refine wpAnyH_two 7 11 (by kernel_rfl) ?_ ?_
                · refine hOp_call (i := 7) (d := some 105) 30 #[.agg #[.int .i64 g, (.slice ra n rc), (.slice ma makes.length mc)], .slice (some ⟨X, 0, none⟩) u cx, .slice fa u fc, .int .i64 q] rfl rfl rfl (by kernel_rfl) (fun _ => by kernel_rfl) fun wa hc => ?_
                  have hcb := hc.out.base
                  refine (iof_any g _ _ _ _ q rows makes L (furthTo g es L q u) _ (D.out _ (FO.out _ hcb).1.1.fin).1.gr (D.out _ (FO.out _ hcb).1.1.fin).1.cw (FO.out _ hcb).2.2.1.2 (FO.out _ hcb).2.2.2).mono ?_
                  rintro e wd ⟨sv, tv, rfl, o0, hb⟩
                  rw [HM3.out, HM1.out, HM2.out] at o0
                  rw [HM3.out, HQQ.out]
                  have o1 : OwnW wd wa.heap.size wd.heap.size sv tv (saysUp g rows makes q es) es := o0
                  obtain ⟨s9, n9, e1⟩ := Own.form o1.s
                  obtain ⟨t9, m9, e2⟩ := Own.form o1.t
                  rw [HN.out] at e1
                  rw [HT.out] at e2
                  subst e1 e2
                  refine ⟨_, rfl, (some (.slice s9 n n9, .slice t9 u m9), none), Lib.hid (Wz.call (fun _ _ h k => Below.on h k) hc.out (fun N h => by cases h) hb o1), ?_⟩
                  clear o0 o1 hb hc hcb
                  refine takeH (i := 8) (d := some 97) (.tuple #[.agg #[.slice s9 n n9, .int .i64 q, .slice t9 u m9], .bool true]) rfl (by kernel_rfl) rfl rfl (by kernel_rfl) (by kernel_rfl) (by kernel_rfl) (fun w => by simp [go_sem, Act.put]) ?_
                  refine takeH (i := 9) (d := some 106) (.agg #[.slice s9 n n9, .int .i64 q, .slice t9 u m9]) rfl (by kernel_rfl) rfl rfl (by kernel_rfl) (by kernel_rfl) (by kernel_rfl) (fun w => by simp [go_sem, Act.put]) ?_
                  refine takeH (i := 10) (d := some 107) (.bool true) rfl (by kernel_rfl) rfl rfl (by kernel_rfl) (by kernel_rfl) (by kernel_rfl) (fun w => by simp [go_sem, Act.put]) ?_
                  refine wpAnyH_special (i := 11) (d := some 14) rfl (by kernel_rfl) rfl rfl (by kernel_rfl) fun wp hp => ⟨.pointer (some ⟨wp.heap.size, 0, none⟩), wp.alloc (.cells #[.slice none 0 0, .int .i64 0, .slice none 0 0] 44), (some (.slice s9 n n9, .slice t9 u m9), some (wp.heap.size, false)), .inl (by kernel_rfl), Lib.hid (Wz.make (fun _ _ h k => Below.on h k) hp.out), ?_⟩
                  clear hp
                  refine wpAnyH_special (i := 12) (d := none) rfl (by kernel_rfl) rfl rfl (by kernel_rfl) fun we he => ?_
                  have r0 := he.out.cells.cell 0; have r1 := he.out.cells.cell 1; have r2 := he.out.cells.cell 2
                  have f0 := he.out.cells.frozen 0; have f1 := he.out.cells.frozen 1; have f2 := he.out.cells.frozen 2
                  simp at r0 r1 r2
                  refine ⟨undef, ((we.setCell ⟨wp.heap.size, 0, none⟩ (.slice s9 n n9)).setCell ⟨wp.heap.size, 1, none⟩ (.int .i64 q)).setCell ⟨wp.heap.size, 2, none⟩ (.slice t9 u m9), (some (.slice s9 n n9, .slice t9 u m9), some (wp.heap.size, true)), .inr ⟨by simp [go_sem, Act.put, r0, r1, r2, f0, f1, f2], rfl⟩, Lib.hid (Wz.store (fun w1 N j v (h : Below wo.heap.size wo w1) k => below_put h k v) he.out), ?_⟩
                  clear he r0 r1 r2 f0 f1 f2
                  refine wpAnyH_assign (i := 13) (d := some 15) (.tmp 107) rfl (by kernel_rfl) rfl rfl (by kernel_rfl) rfl ?_
                  refine ⟨by kernel_rfl, fun wz hz => ?_⟩
                  simp only [Act.put, Act.eval]
                  obtain ⟨TB, _, TO, TX⟩ := hz.out
                  have TO1 := (TO _ rfl).1
                  have TO2 := (TO _ rfl).2.1
                  have TX1 := (TX _ rfl).2.2
                  clear TO TX hz
                  have y0 := TX1.cell 0; have y1 := TX1.cell 1; have y2 := TX1.cell 2
                  have a0 := (FO.out _ TB).1.2.1.cell 0; have a1 := (FO.out _ TB).1.2.1.cell 1; have a2 := (FO.out _ TB).1.2.1.cell 2
                  simp at y0 y1 y2 a0 a1 a2
                  have IY := Lib.hid (show Ints wz (.slice s9 n n9) (saysUp g rows makes q es) ∧ Ints wz (.slice t9 u m9) es from ⟨Ints.of_own TO1 (by rw [HN.out]; unfold maxLen; omega), Ints.of_own TO2 (by rw [HT.out]; unfold maxLen; omega)⟩)
                  have TBH := Lib.hid TB
                  clear TO1 TO2 TX1 TB
                  go_wp2_with fail
                  refine (samew_any q _ _ _ _ (saysUp g rows makes q es) (saysUp g rows makes q es) es _ IY.out.1 IY.out.2 (Fa.out _ (FO.out _ TBH.out).1.2.2.1).1 (Fa.out _ (FO.out _ TBH.out).1.2.2.1).2).mono ?_
                  rintro e w9 ⟨rfl, hb⟩
                  rw [sameB_refl]
                  have T9 := Lib.hid (Below.on (FO.out _ TBH.out).2.1 hb)
                  clear hb y0 y1 y2 a0 a1 a2
                  go_wp2
                  go_roundw
                  case rel => exact ⟨k + 1, by omega, by go_num, T9⟩
                  case measure => simp [intOf]; omega
                · refine hOp_special (d := some 14) rfl rfl rfl (by kernel_rfl) fun wp hp => ⟨.pointer (some ⟨wp.heap.size, 0, none⟩), wp.alloc (.cells #[.slice none 0 0, .int .i64 0, .slice none 0 0] 44), (none, some (wp.heap.size, false)), by kernel_rfl, Lib.hid (Wz.make (fun _ _ h k => Below.on h k) hp.out), ?_⟩
                  clear hp
                  refine wpAnyH_call (i := 7) (d := some 105) 30 #[.agg #[.int .i64 g, (.slice ra n rc), (.slice ma makes.length mc)], .slice (some ⟨X, 0, none⟩) u cx, .slice fa u fc, .int .i64 q] rfl (by kernel_rfl) rfl rfl (by kernel_rfl) (fun _ => by kernel_rfl) fun wa hc => ?_
                  have hcb := hc.out.base
                  refine (iof_any g _ _ _ _ q rows makes L (furthTo g es L q u) _ (D.out _ (FO.out _ hcb).1.1.fin).1.gr (D.out _ (FO.out _ hcb).1.1.fin).1.cw (FO.out _ hcb).2.2.1.2 (FO.out _ hcb).2.2.2).mono ?_
                  rintro e wd ⟨sv, tv, rfl, o0, hb⟩
                  rw [HM3.out, HM1.out, HM2.out] at o0
                  rw [HM3.out, HQQ.out]
                  have o1 : OwnW wd wa.heap.size wd.heap.size sv tv (saysUp g rows makes q es) es := o0
                  obtain ⟨s9, n9, e1⟩ := Own.form o1.s
                  obtain ⟨t9, m9, e2⟩ := Own.form o1.t
                  rw [HN.out] at e1
                  rw [HT.out] at e2
                  subst e1 e2
                  refine ⟨_, rfl, (some (.slice s9 n n9, .slice t9 u m9), some (wp.heap.size, false)), Lib.hid (Wz.call (fun _ _ h k => Below.on h k) hc.out (fun N h => by cases h) hb o1), ?_⟩
                  clear o0 o1 hb hc hcb
                  refine takeH (i := 8) (d := some 97) (.tuple #[.agg #[.slice s9 n n9, .int .i64 q, .slice t9 u m9], .bool true]) rfl (by kernel_rfl) rfl rfl (by kernel_rfl) (by kernel_rfl) (by kernel_rfl) (fun w => by simp [go_sem, Act.put]) ?_
                  refine takeH (i := 9) (d := some 106) (.agg #[.slice s9 n n9, .int .i64 q, .slice t9 u m9]) rfl (by kernel_rfl) rfl rfl (by kernel_rfl) (by kernel_rfl) (by kernel_rfl) (fun w => by simp [go_sem, Act.put]) ?_
                  refine takeH (i := 10) (d := some 107) (.bool true) rfl (by kernel_rfl) rfl rfl (by kernel_rfl) (by kernel_rfl) (by kernel_rfl) (fun w => by simp [go_sem, Act.put]) ?_
                  refine wpAnyH_special (i := 12) (d := none) rfl (by kernel_rfl) rfl rfl (by kernel_rfl) fun we he => ?_
                  have r0 := he.out.cells.cell 0; have r1 := he.out.cells.cell 1; have r2 := he.out.cells.cell 2
                  have f0 := he.out.cells.frozen 0; have f1 := he.out.cells.frozen 1; have f2 := he.out.cells.frozen 2
                  simp at r0 r1 r2
                  refine ⟨undef, ((we.setCell ⟨wp.heap.size, 0, none⟩ (.slice s9 n n9)).setCell ⟨wp.heap.size, 1, none⟩ (.int .i64 q)).setCell ⟨wp.heap.size, 2, none⟩ (.slice t9 u m9), (some (.slice s9 n n9, .slice t9 u m9), some (wp.heap.size, true)), .inr ⟨by simp [go_sem, Act.put, r0, r1, r2, f0, f1, f2], rfl⟩, Lib.hid (Wz.store (fun w1 N j v (h : Below wo.heap.size wo w1) k => below_put h k v) he.out), ?_⟩
                  clear he r0 r1 r2 f0 f1 f2
                  refine wpAnyH_assign (i := 13) (d := some 15) (.tmp 107) rfl (by kernel_rfl) rfl rfl (by kernel_rfl) rfl ?_
                  refine ⟨by kernel_rfl, fun wz hz => ?_⟩
                  simp only [Act.put, Act.eval]
                  obtain ⟨TB, _, TO, TX⟩ := hz.out
                  have TO1 := (TO _ rfl).1
                  have TO2 := (TO _ rfl).2.1
                  have TX1 := (TX _ rfl).2.2
                  clear TO TX hz
                  have y0 := TX1.cell 0; have y1 := TX1.cell 1; have y2 := TX1.cell 2
                  have a0 := (FO.out _ TB).1.2.1.cell 0; have a1 := (FO.out _ TB).1.2.1.cell 1; have a2 := (FO.out _ TB).1.2.1.cell 2
                  simp at y0 y1 y2 a0 a1 a2
                  have IY := Lib.hid (show Ints wz (.slice s9 n n9) (saysUp g rows makes q es) ∧ Ints wz (.slice t9 u m9) es from ⟨Ints.of_own TO1 (by rw [HN.out]; unfold maxLen; omega), Ints.of_own TO2 (by rw [HT.out]; unfold maxLen; omega)⟩)
                  have TBH := Lib.hid TB
                  clear TO1 TO2 TX1 TB
                  go_wp2_with fail
                  refine (samew_any q _ _ _ _ (saysUp g rows makes q es) (saysUp g rows makes q es) es _ IY.out.1 IY.out.2 (Fa.out _ (FO.out _ TBH.out).1.2.2.1).1 (Fa.out _ (FO.out _ TBH.out).1.2.2.1).2).mono ?_
                  rintro e w9 ⟨rfl, hb⟩
                  rw [sameB_refl]
                  have T9 := Lib.hid (Below.on (FO.out _ TBH.out).2.1 hb)
                  clear hb y0 y1 y2 a0 a1 a2
                  go_wp2
                  go_roundw
                  case rel => exact ⟨k + 1, by omega, by go_num, T9⟩
                  case measure => simp [intOf]; omega
        · have h31 : ¬ (k : Int) < 30 := by omega
          have p0 := (FB.out _ hT.out).1.box.cell 0
          have p1 := (FB.out _ hT.out).1.box.cell 1
          have p2 := (FB.out _ hT.out).1.box.cell 2
          have a0 := (FB.out _ hT.out).2.1.cell 0
          have a1 := (FB.out _ hT.out).2.1.cell 1
          have a2 := (FB.out _ hT.out).2.1.cell 2
          simp at p0 p1 p2 a0 a1 a2
          go_wp2_with fail
          refine (iwok_any g _ _ _ q _ rows makes (saysUp g rows makes q es) es _ (D.out _ (FB.out _ hT.out).1.fin).1.gr (D.out _ (FB.out _ hT.out).1.fin).1.cw (Fa.out _ (FB.out _ hT.out).2.2.1).1 (Fa.out _ (FB.out _ hT.out).2.2.1).2).mono ?_
          rintro e w9 ⟨rfl, hb⟩
          rw [HW.out]
          have I9 := Lib.hid ((FB.out _ hT.out).1.on hb)
          clear hb p0 p1 p2 a0 a1 a2
          go_wp2
          go_ret
          exact ⟨rfl, Below.on B1.out I9.out.fin⟩
      · have hk1 : ¬ (k : Int) < (N : Int) := by omega
        have p0 := (FB.out _ hT.out).1.box.cell 0
        have p1 := (FB.out _ hT.out).1.box.cell 1
        have p2 := (FB.out _ hT.out).1.box.cell 2
        have a0 := (FB.out _ hT.out).2.1.cell 0
        have a1 := (FB.out _ hT.out).2.1.cell 1
        have a2 := (FB.out _ hT.out).2.1.cell 2
        simp at p0 p1 p2 a0 a1 a2
        go_wp2_with fail
        refine (iwok_any g _ _ _ q _ rows makes (saysUp g rows makes q es) es _ (D.out _ (FB.out _ hT.out).1.fin).1.gr (D.out _ (FB.out _ hT.out).1.fin).1.cw (Fa.out _ (FB.out _ hT.out).2.2.1).1 (Fa.out _ (FB.out _ hT.out).2.2.1).2).mono ?_
        rintro e w9 ⟨rfl, hb⟩
        rw [HW.out]
        have I9 := Lib.hid ((FB.out _ hT.out).1.on hb)
        clear hb p0 p1 p2 a0 a1 a2
        go_wp2
        go_ret
        exact ⟨rfl, Below.on B1.out I9.out.fin⟩
end Go.Proofs.YtkcikhjobgackabDoor
