/- The law FnSolutionsOf, walked. -/
import Derived.Test.YtkcikhjobgackabDoorLawK
import Derived.Test.YtkcikhjobgackabDoorRegionK
import Derived.Test.YtkcikhjobgackabDoorPureW
import Derived.Test.YtkcikhjobgackabDoorSlnI
import Derived.Test.YtkcikhjobgackabDoorSlnS
import Derived.Test.YtkcikhjobgackabDoorMarkR
import Derived.Test.YtkcikhjobgackabDoorSolI
namespace Go.Proofs.YtkcikhjobgackabDoor
open Go.RowKit

/-- The box of the other relation, and its list so far. -/
structure On (w5 : World) (No : Nat) (P : Value → List Value) (k : Nat) (wr : World) (a : Option Addr) (c : Nat) : Prop where
  bl : Below w5.heap.size w5 wr
  n0 : w5.heap.size ≤ No
  box : Box wr No (P (.slice a k c))
  own : Own wr (No + 1) (.slice a k c) (onesTo k)
theorem On.on {w5 : World} {No : Nat} {P : Value → List Value} {k : Nat} {wr wr' : World} {a : Option Addr} {c : Nat} (h : On w5 No P k wr a c) (hb : Below wr.heap.size wr wr') : On w5 No P k wr' a c := ⟨Below.on h.bl hb, h.n0, h.box.on hb, own_below h.own hb⟩
theorem pow_div {q j : Nat} (hq : 2 ≤ q) : q ^ (j + 1) / q = q ^ j ∧ q ^ (j + 1) % q = 0 ∧ q ^ j < q ^ (j + 1) ∧ 1 ≤ q ^ j := by
  have h1 : 1 ≤ q ^ j := Nat.one_le_pow _ _ (by omega)
  rw [Nat.pow_succ]
  refine ⟨Nat.mul_div_cancel _ (by omega), Nat.mul_mod_left _ _, ?_, h1⟩
  calc q ^ j < q ^ j * 2 := by omega
    _ ≤ q ^ j * q := Nat.mul_le_mul_left _ hq

set_option maxRecDepth 20000 in
set_option maxHeartbeats 1000000 in
theorem lSolutionsOf_walk (s : Value) (w : World) (h : CodeIn w s) (G : Gr w) : Calls Tryd.prog 6 #[s] w fun e w' => e = .returned (.bool true) ∧ Below w.heap.size w w' := by
  obtain ⟨a0, len0, cap0, rfl⟩ := h.slice
  have H := Lib.hid h; clear h
  have G0 := Lib.hid G; clear G
  by_cases hl : 1048576 < len0
  · go_enter Tryd.func6, Tryd.ntmps6
    go_wp2
    go_ret
    exact ⟨rfl, Below.refl _ _⟩
  go_enter Tryd.func6, Tryd.ntmps6
  go_wp2_with fail
  refine (drawSolutionsOf_any _ _ H.out).mono ?_
  rintro e w1 ⟨g, rv, mv, rows, makes, rfl, hcw, hbd, ⟨cp1, cp2⟩, hb⟩
  obtain ⟨ra, rc, er, _⟩ := hcw.rows.opened
  obtain ⟨ma, mc, em, _⟩ := hcw.makes.opened
  subst er em
  have B1 := Lib.hid hb
  have D := Lib.hid (show ∀ w', Below w1.heap.size w1 w' → Lw w' g (.slice ra rows.length rc) (.slice ma makes.length mc) rows makes from fun w' hb' => (Lw.mk (G0.out.on hb) hcw).on hb')
  have I1 := Lib.hid (InB.start w1 [.int .i64 g, (.slice ra rows.length rc), (.slice ma makes.length mc)] 26)
  clear hcw hb
  clear cp1 cp2
  obtain ⟨N, hN⟩ : ∃ N, (sols g rows makes).length = N := ⟨_, rfl⟩
  have HNN := Lib.hid hN
  have hlen : N ≤ 600 := by rw [← hN]; exact sols_len g rows makes
  have p0 := I1.out.box.cell 0
  have p1 := I1.out.box.cell 1
  have p2 := I1.out.box.cell 2
  simp at p0 p1 p2
  go_wp2_with fail
  refine (isols_any g _ _ rows makes _ (D.out _ I1.out.fin).gr (D.out _ I1.out.fin).cw).mono ?_
  rintro e w2 ⟨lv, us, rfl, ol, hb⟩
  have I2 := Lib.hid (I1.out.on hb)
  have hIS := ssOf (by rw [hN]; exact hlen) (sols_row g rows makes) ol
  obtain ⟨va, vc, ev9, _⟩ := hIS.opened
  rw [hN] at ev9
  subst ev9
  have L2 := Lib.hid hIS
  clear hIS ol
  clear hb
  clear p0 p1 p2
  have p0 := I2.out.box.cell 0
  have p1 := I2.out.box.cell 1
  have p2 := I2.out.box.cell 2
  simp at p0 p1 p2
  go_wp2_with fail
  refine (ssols_any g _ _ rows makes _ (D.out _ I2.out.fin).cw).mono ?_
  rintro e w3 ⟨lv2, us2, rfl, ol, hb⟩
  have I3 := Lib.hid (I2.out.on hb)
  have hIS := ssOf (by rw [hN]; exact hlen) (sols_row g rows makes) ol
  obtain ⟨va2, vc2, ev9, _⟩ := hIS.opened
  rw [hN] at ev9
  subst ev9
  have L3 := Lib.hid hIS
  have L2b := Lib.hid (L2.out.on hb)
  clear hIS ol L2
  clear hb
  clear p0 p1 p2
  go_wp2_with fail
  refine (samer_any _ _ (sols g rows makes) _ L2b.out L3.out).mono ?_
  rintro e w4 ⟨rfl, hb⟩
  have I4 := Lib.hid (I3.out.on hb)
  have L4 := Lib.hid (L2b.out.on hb)
  clear L2b L3
  clear hb
  clear hN
  by_cases hz : N = 0
  · have hz1 : ((N : Int) == 0) = true := by simp; omega
    go_wp2_with fail
    refine (alive_any _ (D.out _ I4.out.fin).gr).mono ?_
    rintro e wz_ ⟨rfl, rfl⟩
    go_wp2
    go_ret
    exact ⟨rfl, Below.on B1.out I4.out.fin⟩
  · have hz1 : ((N : Int) == 0) = false := by simp; omega
    have hcl : Cl g rows makes := by
      rw [← clB_true]
      cases h : clB g rows makes
      · exact absurd (show N = 0 by rw [← HNN.out, sols_no h]; rfl) hz
      · rfl
    have hr1 := hcl.r1
    have hr3 := hcl.r3
    have g0 := hcl.g0
    have g4 := hcl.g4
    obtain ⟨o1, o2⟩ := ord_bd g0 g4
    obtain ⟨u, hu⟩ : ∃ u, unk rows = u := ⟨_, rfl⟩
    have hu1 : 1 ≤ u := by rw [← hu]; exact hcl.u1
    have hu2 : u ≤ 2 := by rw [← hu]; exact hcl.u2
    obtain ⟨m, hm⟩ := sols_count hcl
    obtain ⟨q, hq⟩ : ∃ q : Nat, ord g = q := ⟨(ord g).toNat, by omega⟩
    have hq2 : 2 ≤ q := by omega
    have hq3 : q ≤ 23 := by omega
    have hNm : N = q ^ m := by
      rw [HNN.out] at hm
      rcases hm with h | h
      · exact absurd h hz
      · rw [h, hq]; rfl
    have HQ := Lib.hid hq
    have HS := Lib.hid (show ∀ k, k < N → Lot g rows makes (row (sols g rows makes) k) ∧ mkAll g rows (row (sols g rows makes) k) = makes by rw [← HNN.out]; exact fun k hk => (sols_mem hcl).1 (row_mem hk))
    have HRL := Lib.hid (show ∀ k, k < N → (row (sols g rows makes) k).length = u from fun k hk => by rw [(HS.out k hk).1.len, hu])
    have HSX := Lib.hid (show ∀ k, k < N → ∀ j, j < u → 0 ≤ nth (row (sols g rows makes) k) j ∧ nth (row (sols g rows makes) k) j < q from fun k hk j hj => by
      have := (exB_true.1 (allEx_at (HS.out k hk).1.ex (by rw [HRL.out k hk]; exact hj))).2
      rwa [hq] at this)
    have HAP := Lib.hid (show ∀ k, k < N → solvB g rows makes (row (sols g rows makes) k) = true ∧ solvB g rows (onesTo rows.length) (apartTo g (row (sols g rows makes) k) (row (sols g rows makes) 0) u) = true from fun k hk => by
      obtain ⟨s1, s2⟩ := HS.out k hk
      obtain ⟨z1, z2⟩ := HS.out 0 (by omega)
      have a := apart_solves s1 s2 z1 z2
      unfold apartAll at a
      rw [HRL.out k hk] at a
      exact ⟨solv_true.2 ⟨s1, s2⟩, a⟩)
    have HAS := Lib.hid (fun (f1 f2 : List Int) (k : Nat) => (show apartTo g f1 f2 (k + 1) = apartTo g f1 f2 k ++ [(nth f1 k - nth f2 k) % q] by rw [← hq]; rfl))
    have HAL := Lib.hid (fun (f1 f2 : List Int) (k : Nat) => apartTo_len g f1 f2 k)
    have HOS := Lib.hid (fun k => (show onesTo (k + 1) = onesTo k ++ [1] from rfl))
    have HOL := Lib.hid onesTo_len
    obtain ⟨n, hn⟩ : ∃ n, rows.length = n := ⟨_, rfl⟩
    rw [hn] at D I1 I2 I3 I4 HAP hr1 hr3 ⊢
    have HN9 := Lib.hid hn
    have HNm := Lib.hid hNm
    clear hcl hm hu hn hq o1 o2 hNm
    have p0 := I4.out.box.cell 0
    simp at p0
    go_wp2_with fail
    refine (sord_any g _).mono ?_
    rintro e w5 ⟨rfl, hb⟩
    have I5 := Lib.hid (I4.out.on hb)
    have L5 := Lib.hid (L4.out.on hb)
    rw [HQ.out]
    clear hb
    clear p0
    have FB := Lib.hid (show ∀ w', Below w5.heap.size w5 w' → InB w1 [.int .i64 g, (.slice ra n rc), (.slice ma makes.length mc)] 26 w' ∧ IntSS w' (.slice va N vc) (sols g rows makes) from fun w' hb => ⟨I5.out.on hb, L5.out.on hb⟩)
    have HI5 := Lib.hid I5.out
    clear I1 I2 I3 I4 L4 L5
    have hq0 : ((q : Int) == 0) = false := by simp; omega
    go_wp2
    go_loop [6] (fun x => ∃ (j M : Nat), x = .int .i64 M ∧ Hid (M = q ^ j) ∧ M ≤ 600) (fun x => (intOf x).toNat)
    case atStart => exact ⟨m, N, rfl, HNm, hlen⟩
    case round =>
      obtain ⟨j, M, rfl, HM, hM⟩ := hrel
      have hq9 : ¬ (q : Int) = 0 := by omega
      rcases j with _ | j
      · have hM1 : M = 1 := HM.out
        have hmod : ((M : Int) % (q : Int) == 0) = false := by
          have h1 : (M : Int) % (q : Int) = 1 := by rw [hM1]; exact Int.emod_eq_of_lt (by decide) (by omega)
          rw [h1]; rfl
        have hME := Lib.hid (show ((M : Int) == 1) = true by rw [hM1]; rfl)
        clear hM1 HM
        have p0 := HI5.out.box.cell 0
        have p1 := HI5.out.box.cell 1
        simp at p0 p1
        have ON0 := Lib.hid (show On w5 w5.heap.size (fun x => [.int .i64 g, (.slice ra n rc), x]) 0 (w5.alloc (.cells #[.int .i64 g, (.slice ra n rc), .slice none 0 0] 26)) none 0 from ⟨below_grow _ _, Nat.le_refl _, Box.made w5 _ _, World.ownsRow_nil _ _ _ _⟩)
        go_wp2
        go_loopw [8] (fun i wr => ∃ (k : Nat) (a9 : Option Addr) (c9 : Nat), k ≤ n ∧ i = .int .i64 k ∧ Hid (On w5 w5.heap.size (fun x => [.int .i64 g, (.slice ra n rc), x]) k wr a9 c9)) (fun i _ => n - (intOf i).toNat)
        case atStart => exact ⟨0, none, 0, by omega, rfl, ON0⟩
        case round =>
          obtain ⟨k, a9, c9, hk, rfl, hO⟩ := hrel
          obtain ⟨wo, rfl⟩ : ∃ wo : World, wo = wr := ⟨_, rfl⟩
          clear p0 p1 ON0
          have p1 := (FB.out _ hO.out.bl).1.box.cell 1
          simp at p1
          by_cases hkn : k < n
          · have hk1 : (k : Int) < (n : Int) := by omega
            have b2 := hO.out.box.cell 2
            simp at b2
            go_wp2_with (at_builtin; refine wpAppInt rfl _ _ rfl rfl hO.out.own (by rw [HOL.out]; omega) (by have := hO.out.box.lt; omega) rfl ?_)
            intro v8 w8 o8 g8 k8
            rw [← HOS.out] at o8
            obtain ⟨a8, c8, e8⟩ := Own.form o8
            rw [HOL.out] at e8
            subst e8
            have hbx : Box w8 w5.heap.size [.int .i64 g, .slice ra n rc, .slice a9 k c9] := hO.out.box.kept (g8.block _ hO.out.box.lt fun e => by have := (hO.out.own.lt _ e.symm).1; omega)
            have d2 := hbx.cell 2
            have f2 := hbx.frozen 2
            simp at d2
            have ON := Lib.hid (show On w5 w5.heap.size (fun x => [.int .i64 g, (.slice ra n rc), x]) (k + 1) (w8.setCell ⟨w5.heap.size, 2, none⟩ (.slice a8 (k + 1) c8)) a8 c8 from ⟨below_put (hO.out.bl.grown g8 hO.out.bl.size fun e he => by have := (hO.out.own.lt _ he).1; omega) (Nat.le_refl _) _, Nat.le_refl _, hbx.set 2 _, own_heap o8 fun e he => Below.heap_setCell _ _ _ _ (by have := (o8.lt _ he).1; show e ≠ w5.heap.size; omega)⟩)
            clear hbx o8 g8 k8 b2
            go_wp2
            go_roundw
            case rel => exact ⟨k + 1, a8, c8, by omega, by go_num, ON⟩
            case measure => simp [intOf]; omega
          · obtain rfl : n = k := by omega
            have hk1 : ¬ (n : Int) < (n : Int) := by omega
            obtain ⟨wb, hwb⟩ : ∃ wb, wb = wo := ⟨_, rfl⟩
            have FO := Lib.hid (show ∀ w', Below wb.heap.size wb w' → (InB w1 [.int .i64 g, (.slice ra n rc), (.slice ma makes.length mc)] 26 w' ∧ IntSS w' (.slice va N vc) (sols g rows makes)) ∧ (Box w' w5.heap.size [.int .i64 g, .slice ra n rc, .slice a9 n c9] ∧ Cw w' (.slice ra n rc) (.slice a9 n c9) rows (onesTo n)) ∧ Lw w' g (.slice ra n rc) (.slice ma makes.length mc) rows makes from fun w' hb => by
              rw [hwb] at hb
              have h1 := FB.out _ (Below.on hO.out.bl hb)
              have h2 := D.out _ h1.1.fin
              exact ⟨h1, ⟨hO.out.box.on hb, ⟨h2.cw.rows, (Ints.of_own hO.out.own (by rw [HOL.out]; unfold maxLen; omega)).below hb⟩⟩, h2⟩)
            rw [← hwb] at p1 ⊢
            clear hwb
            go_wp2
            go_loopw [9] (fun i wr => ∃ k : Nat, k ≤ N ∧ i = .int .i64 k ∧ Hid (Below wb.heap.size wb wr)) (fun i _ => N - (intOf i).toNat)
            case atStart => exact ⟨0, by omega, rfl, Lib.hid (Below.refl _ _)⟩
            case round =>
              obtain ⟨k, hk2, rfl, hT⟩ := hrel
              obtain ⟨wo, rfl⟩ : ∃ wo : World, wo = wr := ⟨_, rfl⟩
              by_cases hkN : k < N
              · have hk3 : (k : Int) < (N : Int) := by omega
                by_cases h40 : k < 40
                · have h41 : (k : Int) < 40 := by omega
                  obtain ⟨a7, c7, e7, k7⟩ := (FO.out _ hT.out).1.2.opened
                  rw [HNN.out] at e7
                  cases e7
                  obtain ⟨G, ux, rfl, hG, hc0, hux⟩ := k7.get k (by rw [HNN.out]; exact hkN)
                  obtain ⟨ax, cx, rfl, k6⟩ := hux.opened
                  obtain ⟨X, rfl, _, _⟩ := k6.get 0 (by rw [HRL.out k hkN]; omega)
                  rw [HRL.out k hkN] at hc0 hux
                  obtain ⟨G2, uy, eG, hG2, hd0, huy⟩ := k7.get 0 (by rw [HNN.out]; omega)
                  cases eG
                  obtain ⟨ay, cy, rfl, k5⟩ := huy.opened
                  obtain ⟨Y, rfl, _, _⟩ := k5.get 0 (by rw [HRL.out 0 (by omega)]; omega)
                  rw [HRL.out 0 (by omega)] at hd0 huy
                  have HRW := Lib.hid (show ∀ w', Below wo.heap.size wo w' → (w'.cell? ⟨G, k, none⟩ = some (.slice (some ⟨X, 0, none⟩) u cx) ∧ Ints w' (.slice (some ⟨X, 0, none⟩) u cx) (row (sols g rows makes) k)) ∧ w'.cell? ⟨G, 0, none⟩ = some (.slice (some ⟨Y, 0, none⟩) u cy) from fun w' hb => ⟨⟨(hb.cell (p := ⟨G, k, none⟩) hG).trans hc0, hux.below hb⟩, (hb.cell (p := ⟨G, 0, none⟩) hG2).trans hd0⟩)
                  have HRE := Lib.hid (show ∀ w', Below wo.heap.size wo w' → ∀ j, j < u → w'.cell? ⟨X, j, none⟩ = some (.int .i64 (nth (row (sols g rows makes) k) j)) ∧ w'.cell? ⟨Y, j, none⟩ = some (.int .i64 (nth (row (sols g rows makes) 0) j)) from fun w' hb j hj => by
                    obtain ⟨X9, e9, _, c9⟩ := (k6.on hb).get j (by rw [HRL.out k hkN]; exact hj)
                    obtain ⟨Y9, f9, _, d9⟩ := (k5.on hb).get j (by rw [HRL.out 0 (by omega)]; exact hj)
                    cases e9; cases f9
                    exact ⟨c9, d9⟩)
                  obtain ⟨s1, s2⟩ := HAP.out k hkN
                  have HS1 := Lib.hid s1
                  have HS2 := Lib.hid s2
                  have HSXk := Lib.hid (HSX.out k hkN)
                  have HSX0 := Lib.hid (HSX.out 0 (by omega))
                  obtain ⟨L1, hL1⟩ : ∃ L, row (sols g rows makes) k = L := ⟨_, rfl⟩
                  obtain ⟨L0, hL0⟩ : ∃ L, row (sols g rows makes) 0 = L := ⟨_, rfl⟩
                  rw [hL1] at HRW HRE HS1 HS2 HSXk
                  rw [hL0] at HRE HS2 HSX0
                  have hw0 := HRW.out _ (Below.refl _ _)
                  have c0 := hw0.1.1
                  have c1 := hw0.2
                  clear s1 s2 k7 k6 k5 hux huy hc0 hd0 hG hG2 hL1 hL0 hw0
                  obtain ⟨wf, hwf⟩ : ∃ wf, wf = wo := ⟨_, rfl⟩
                  rw [← hwf] at hT HRW HRE c0 c1 ⊢
                  clear hwf
                  have OW := Lib.hid (own_made wf 3 rfl)
                  have BW := Lib.hid (below_grow wf (.cells #[] 3))
                  go_wp2
                  go_loopw [10, 11] (fun v i wr => ∃ (j : Nat) (xs : List Int), j ≤ u ∧ i = .int .i64 j ∧ xs.length = j ∧ Hid (xs = apartTo g L1 L0 j) ∧ Hid (Below wf.heap.size wf wr ∧ Own wr wf.heap.size v xs)) (fun _ i _ => u - (intOf i).toNat)
                  case atStart => exact ⟨0, [], by omega, rfl, rfl, Lib.hid rfl, Lib.hid ⟨BW.out, OW.out⟩⟩
                  case round =>
                    obtain ⟨j, xs, hj2, rfl, hxl, HXE, hV⟩ := hrel
                    obtain ⟨wo, rfl⟩ : ∃ wo : World, wo = wr := ⟨_, rfl⟩
                    clear c0 c1 OW BW
                    have c0 := (HRW.out _ hV.out.1).1.1
                    by_cases hjl : j < u
                    · have hjl1 : (j : Int) < (u : Int) := by omega
                      obtain ⟨e0, e1⟩ := HSX0.out j hjl
                      obtain ⟨s0, s1⟩ := HSXk.out j hjl
                      go_wp2_with fail
                      apply wp_region_H (Z := Option (Nat ⊕ Value)) (S := fun k => k == 16 || k == 17 || k == 18) (C := fun z w' => Hid (Kt wf u10 xs ((nth L1 j - nth L0 j) % (q : Int)) z w')) [0, 1, 2, 3, 4, 5, 6, 7, 8, 9, 10, 11, 12, 13, 14, 15] none
                      · kernel_rfl
                      · kernel_rfl
                      · kernel_rfl
                      · exact ⟨rfl, rfl, rfl, rfl, rfl, rfl, rfl, rfl, rfl, rfl, rfl, rfl, rfl, rfl, rfl, rfl, trivial⟩
                      · rfl
                      · decide
                      · exact Lib.hid ((show Kt wf u10 xs ((nth L1 j - nth L0 j) % (q : Int)) none wo from hV.out).on (Below.refl _ _).drew)
                      · intro z
                        dsimp only [pickL, nthO]
                        repeat (first | go_big_quiet_skip | (go_big_quiet_want; go_big_quiet_op; first | go_big_quiet_on | (refine ⟨_, fun _ _ => rfl, ?_⟩; go_big_quiet_on)))
                        repeat (first | go_big_quiet_skip | (go_big_quiet_want; go_big_quiet_op; first | go_big_quiet_on | (refine ⟨_, fun _ _ => rfl, ?_⟩; go_big_quiet_on)))
                        go_big_quiet_want
                        go_big_quiet_op
                        refine ⟨.slice (some ⟨X, 0, none⟩) u cx, fun w' hw' => ?_, ?_⟩
                        · have q9 := (HRW.out _ hw'.out.below).1.1
                          simp [go_sem, q9]
                        go_big_quiet_on
                        repeat (first | go_big_quiet_skip | (go_big_quiet_want; go_big_quiet_op; first | go_big_quiet_on | (refine ⟨_, fun _ _ => rfl, ?_⟩; go_big_quiet_on)))
                        repeat (first | go_big_quiet_skip | (go_big_quiet_want; go_big_quiet_op; first | go_big_quiet_on | (refine ⟨_, fun _ _ => rfl, ?_⟩; go_big_quiet_on)))
                        go_big_quiet_want
                        go_big_quiet_op
                        refine ⟨.int .i64 (nth L1 j), fun w' hw' => ?_, ?_⟩
                        · have q9 := (HRE.out _ hw'.out.below j hjl).1
                          simp [go_sem, q9]
                        go_big_quiet_on
                        repeat (first | go_big_quiet_skip | (go_big_quiet_want; go_big_quiet_op; first | go_big_quiet_on | (refine ⟨_, fun _ _ => rfl, ?_⟩; go_big_quiet_on)))
                        repeat (first | go_big_quiet_skip | (go_big_quiet_want; go_big_quiet_op; first | go_big_quiet_on | (refine ⟨_, fun _ _ => rfl, ?_⟩; go_big_quiet_on)))
                        go_big_quiet_want
                        go_big_quiet_op
                        refine ⟨.slice (some ⟨Y, 0, none⟩) u cy, fun w' hw' => ?_, ?_⟩
                        · have q9 := (HRW.out _ hw'.out.below).2
                          simp [go_sem, q9]
                        go_big_quiet_on
                        repeat (first | go_big_quiet_skip | (go_big_quiet_want; go_big_quiet_op; first | go_big_quiet_on | (refine ⟨_, fun _ _ => rfl, ?_⟩; go_big_quiet_on)))
                        repeat (first | go_big_quiet_skip | (go_big_quiet_want; go_big_quiet_op; first | go_big_quiet_on | (refine ⟨_, fun _ _ => rfl, ?_⟩; go_big_quiet_on)))
                        go_big_quiet_want
                        go_big_quiet_op
                        refine ⟨.int .i64 (nth L0 j), fun w' hw' => ?_, ?_⟩
                        · have q9 := (HRE.out _ hw'.out.below j hjl).2
                          simp [go_sem, q9]
                        go_big_quiet_on
                        repeat (first | go_big_quiet_skip | (go_big_quiet_want; go_big_quiet_op; first | go_big_quiet_on | (refine ⟨_, fun _ _ => rfl, ?_⟩; go_big_quiet_on)))
                        exact wpQuiet_nil rfl
                      · skip
                        refine wpAnyH_call (i := 16) (d := some 93) 28 #[.int .i64 (nth L1 j - nth L0 j), .int .i64 (q : Int)] rfl (by kernel_rfl) rfl rfl (by kernel_rfl) (fun _ => by kernel_rfl) fun wa hc => ?_
                        refine (rest_any _ (q : Int) wa (by omega) (by omega) (by omega) (by omega)).mono ?_
                        rintro e wd ⟨rfl, rfl⟩
                        refine ⟨_, rfl, none, hc, ?_⟩
                        clear hc
                        refine wpAnyH_special (i := 17) (d := some 94) rfl (by kernel_rfl) rfl rfl (by kernel_rfl) fun wa hc => ⟨.slice (some ⟨wa.heap.size, 0, none⟩) 1 1, wa.alloc (.cells #[.int .i64 ((nth L1 j - nth L0 j) % (q : Int))] 3), some (.inl wa.heap.size), .inl (by kernel_rfl), Lib.hid (Kt.build hc.out), ?_⟩
                        clear hc
                        refine wpAnyH_app2 (i := 18) (d := some 95) (v := u10) (xs := xs) (y := ((nth L1 j - nth L0 j) % (q : Int))) (B := wf.heap.size) (N := wa.heap.size) (.tmp 77) (.tmp 94) rfl (by kernel_rfl) rfl rfl (by kernel_rfl) rfl rfl rfl fun wc hc => ⟨hc.out.1.2, by omega, hc.out.1.1.size, hc.out.2, fun v' w' o4 g4 k4 => ⟨some (.inr v'), Lib.hid (Kt.app hc.out.1 o4 g4), ?_⟩⟩
                        clear hc g4 k4 o4
                        refine wpAnyH_assign (i := 19) (d := some 10) (.tmp 95) rfl (by kernel_rfl) rfl rfl (by kernel_rfl) rfl ?_
                        refine ⟨by kernel_rfl, fun wz hz => ?_⟩
                        simp only [Act.put, Act.eval]
                        have TZ := Lib.hid (show Below wf.heap.size wf wz ∧ Own wz wf.heap.size v' (xs ++ [((nth L1 j - nth L0 j) % (q : Int))]) from hz.out)
                        clear hz
                        clear c0
                        have c0 := (HRW.out _ TZ.out.1).1.1
                        go_wp2
                        go_roundw
                        case rel => exact ⟨j + 1, xs ++ [((nth L1 j - nth L0 j) % (q : Int))], by omega, by go_num, by rw [List.length_append, hxl]; rfl, Lib.hid (by rw [HAS.out, ← HXE.out]), TZ⟩
                        case measure => simp [intOf]; omega
                    · obtain rfl : u = j := by omega
                      have hjl1 : ¬ (u : Int) < (u : Int) := by omega
                      have hx := HXE.out
                      subst hx
                      obtain ⟨fa, fc, etv⟩ := Own.form hV.out.2
                      rw [HAL.out] at etv
                      subst etv
                      have FP := Lib.hid (show ∀ w', Below wo.heap.size wo w' → Below wb.heap.size wb w' ∧ ((w'.cell? ⟨G, k, none⟩ = some (.slice (some ⟨X, 0, none⟩) u cx) ∧ Ints w' (.slice (some ⟨X, 0, none⟩) u cx) L1) ∧ w'.cell? ⟨G, 0, none⟩ = some (.slice (some ⟨Y, 0, none⟩) u cy)) ∧ Ints w' (.slice fa u fc) (apartTo g L1 L0 u) from fun w' hb => ⟨Below.on hT.out (Below.on hV.out.1 hb), HRW.out _ (Below.on hV.out.1 hb), (Ints.of_own hV.out.2 (by rw [HAL.out]; unfold maxLen; omega)).below hb⟩)
                      clear hV
                      have HD1 := Lib.hid (show ∀ w', Hid (Below wo.heap.size wo w') → Calls Tryd.prog 22 #[.agg #[.int .i64 g, (.slice ra n rc), (.slice ma makes.length mc)], .slice (some ⟨X, 0, none⟩) u cx] w' fun e w'' => e = .returned (.bool true) ∧ Hid (Below wo.heap.size wo w'') from fun w' hw => by
                        have f := FP.out _ hw.out
                        have o := FO.out _ f.1
                        have c := isolv_any g _ _ _ rows makes L1 w' o.2.2.gr o.2.2.cw f.2.1.1.2
                        rw [HS1.out] at c
                        exact c.mono fun _ _ ⟨he, hb⟩ => ⟨he, Lib.hid (Below.on hw.out hb)⟩)
                      have HD2 := Lib.hid (show ∀ w', Hid (Below wo.heap.size wo w') → Calls Tryd.prog 22 #[.agg #[.int .i64 g, .slice ra n rc, .slice a9 n c9], .slice fa u fc] w' fun e w'' => e = .returned (.bool true) ∧ Hid (Below wo.heap.size wo w'') from fun w' hw => by
                        have f := FP.out _ hw.out
                        have o := FO.out _ f.1
                        have c := isolv_any g _ _ _ rows (onesTo n) (apartTo g L1 L0 u) w' o.2.2.gr o.2.1.2 f.2.2
                        rw [HS2.out] at c
                        exact c.mono fun _ _ ⟨he, hb⟩ => ⟨he, Lib.hid (Below.on hw.out hb)⟩)
                      have HBD : Hid (Below wo.heap.size wo wo.drew) := Lib.hid (Below.refl _ _).drew
                      go_wp2_with fail
                      refine wp_region_class (C := fun w' => Hid (Below wo.heap.size wo w')) (by kernel_rfl) (by kernel_rfl) HBD ?_
                      repeat (first | go_big_quiet_skip | (go_big_quiet_want; go_big_quiet_op; first | go_big_quiet_on | (refine ⟨_, fun _ _ => rfl, ?_⟩; go_big_quiet_on)))
                      go_big_quiet_want
                      go_big_quiet_op
                      refine ⟨.agg #[.int .i64 g, (.slice ra n rc), (.slice ma makes.length mc)], fun w' hw' => ?_, ?_⟩
                      · have q9 := (FO.out _ (FP.out _ hw'.out).1).1.1.box.cell 0; have q8 := (FO.out _ (FP.out _ hw'.out).1).1.1.box.cell 1; have q7 := (FO.out _ (FP.out _ hw'.out).1).1.1.box.cell 2
                        simp at q9 q8 q7
                        simp [go_sem, q9, q8, q7]
                      go_big_quiet_on
                      repeat (first | go_big_quiet_skip | (go_big_quiet_want; go_big_quiet_op; first | go_big_quiet_on | (refine ⟨_, fun _ _ => rfl, ?_⟩; go_big_quiet_on)))
                      go_big_quiet_want
                      go_big_quiet_op
                      refine ⟨.slice (some ⟨X, 0, none⟩) u cx, fun w' hw' => ?_, ?_⟩
                      · have q9 := (FP.out _ hw'.out).2.1.1.1
                        simp [go_sem, q9]
                      go_big_quiet_on
                      repeat (first | go_big_quiet_skip | (go_big_quiet_want; go_big_quiet_op; first | go_big_quiet_on | (refine ⟨_, fun _ _ => rfl, ?_⟩; go_big_quiet_on)))
                      go_big_quiet_want
                      go_big_quiet_op
                      go_big_quiet_call ((intro hw; exact HD1.out _ hw))
                      repeat (first | go_big_quiet_skip | (go_big_quiet_want; go_big_quiet_op; first | go_big_quiet_on | (refine ⟨_, fun _ _ => rfl, ?_⟩; go_big_quiet_on)))
                      go_big_quiet_want
                      go_big_quiet_op
                      refine ⟨.agg #[.int .i64 g, .slice ra n rc, .slice a9 n c9], fun w' hw' => ?_, ?_⟩
                      · have q9 := (FO.out _ (FP.out _ hw'.out).1).2.1.1.cell 0; have q8 := (FO.out _ (FP.out _ hw'.out).1).2.1.1.cell 1; have q7 := (FO.out _ (FP.out _ hw'.out).1).2.1.1.cell 2
                        simp at q9 q8 q7
                        simp [go_sem, q9, q8, q7]
                      go_big_quiet_on
                      repeat (first | go_big_quiet_skip | (go_big_quiet_want; go_big_quiet_op; first | go_big_quiet_on | (refine ⟨_, fun _ _ => rfl, ?_⟩; go_big_quiet_on)))
                      go_big_quiet_want
                      go_big_quiet_op
                      go_big_quiet_call ((intro hw; exact HD2.out _ hw))
                      repeat (first | go_big_quiet_skip | (go_big_quiet_want; go_big_quiet_op; first | go_big_quiet_on | (refine ⟨_, fun _ _ => rfl, ?_⟩; go_big_quiet_on)))
                      refine wpQuiet_nil ?_
                      intro w9 hw9
                      have T9 := Lib.hid (FP.out _ hw9.out).1
                      clear hw9 HBD HD1 HD2
                      go_wp2
                      go_roundw
                      case rel => exact ⟨k + 1, by omega, by go_num, T9⟩
                      case measure => simp [intOf]; omega
                · have h41 : ¬ (k : Int) < 40 := by omega
                  have hme := hME.out
                  go_wp2
                  go_ret
                  exact ⟨rfl, Below.on B1.out (FO.out _ hT.out).1.1.fin⟩
              · have hk3 : ¬ (k : Int) < (N : Int) := by omega
                have hme := hME.out
                go_wp2
                go_ret
                exact ⟨rfl, Below.on B1.out (FO.out _ hT.out).1.1.fin⟩
      · obtain ⟨d1, d2, d3, d4⟩ := pow_div (q := q) (j := j) hq2
        have hM0 := HM.out
        rw [← hM0] at d1 d2 d3
        have hmod : ((M : Int) % (q : Int) == 0) = true := by
          rw [← Int.natCast_emod, d2]; rfl
        have hdiv : (M : Int) / (q : Int) = ((M / q : Nat) : Int) := (Int.natCast_ediv _ _).symm
        obtain ⟨M2, hM2⟩ : ∃ M2, M / q = M2 := ⟨_, rfl⟩
        have HM2 := Lib.hid (hM2.symm.trans d1)
        rw [hM2] at hdiv
        have hlt : M2 < M := by rw [← hM2, d1]; exact d3
        have hM26 : M2 ≤ 600 := by omega
        clear d1 d2 d3 d4 hM0 hM2
        go_wp2
        go_round
        case rel => exact ⟨j, M2, rfl, HM2, hM26⟩
        case measure => simp [intOf]; omega
end Go.Proofs.YtkcikhjobgackabDoor
