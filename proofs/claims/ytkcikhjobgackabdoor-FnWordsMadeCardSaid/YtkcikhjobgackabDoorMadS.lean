/- spec.WordsMade. -/
import Derived.Test.YtkcikhjobgackabDoorMadI
import Derived.Test.YtkcikhjobgackabDoorWokS
namespace Go.Proofs.YtkcikhjobgackabDoor
open Go.RowKit

set_option maxHeartbeats 6400000 in
theorem smade_any (g : Int) (rv mv : Value) (q : Int) (tlv : Value) (rows : List (List Int)) (makes tells : List Int) (w : World) (h : Cw w rv mv rows makes) (ht : Ints w tlv tells) :
    Calls Tryd.prog 38 #[.agg #[.int .i64 g, rv, mv], .int .i64 q, tlv] w fun e w' => ∃ sv tv, e = .returned (.tuple #[.agg #[sv, .int .i64 (wdQ (mdB g rows makes q tells) q), tv], .bool (mdB g rows makes q tells)]) ∧ OwnW w' w.heap.size w'.heap.size sv tv (wdL (mdB g rows makes q tells) (saysUp g rows makes q tells)) (wdL (mdB g rows makes q tells) (tells)) ∧ Below w.heap.size w w' := by
  have HH := Lib.hid h
  have HT := Lib.hid ht
  have HBX := Lib.hid (head2 w [.int .i64 g, rv, mv] [.slice none 0 0, .int .i64 0, .slice none 0 0] 26 44)
  have I0 : Hid (InW ((w.alloc (.cells #[.int .i64 g, rv, mv] 26)).alloc (.cells #[.slice none 0 0, .int .i64 0, .slice none 0 0] 44)) (w.heap.size + 2) ((w.alloc (.cells #[.int .i64 g, rv, mv] 26)).alloc (.cells #[.slice none 0 0, .int .i64 0, .slice none 0 0] 44))) := Lib.hid (InW.start (by simp) (Below.refl _ _))
  clear h ht
  cases h1 : lotB g rows makes tells
  · have HX := Lib.hid (show mdB g rows makes q tells = false by unfold mdB; rw [h1]; rfl)
    go_enter Tryd.func38, Tryd.ntmps38
    go_wp2_with fail
    refine (sexps_any g rv mv tlv rows makes tells _ (HH.out.on (HBX.out _ I0.out).2.2) (HT.out.below (HBX.out _ I0.out).2.2)).mono ?_
    rintro e w1 ⟨rfl, hb⟩
    rw [h1]
    have I1 := Lib.hid (I0.out.on hb)
    clear hb
    have r0 := (HBX.out _ I1.out).2.1.cell 0
    have r1 := (HBX.out _ I1.out).2.1.cell 1
    have r2 := (HBX.out _ I1.out).2.1.cell 2
    have f0 := (HBX.out _ I1.out).2.1.frozen 0
    have f1 := (HBX.out _ I1.out).2.1.frozen 1
    have f2 := (HBX.out _ I1.out).2.1.frozen 2
    simp at r0 r1 r2
    have HF : Hid (Below w.heap.size w w1) := Lib.hid (HBX.out _ I1.out).2.2
    go_wp2
    refine bodyPost_ret (v := .tuple #[.agg #[.slice none 0 0, .int .i64 0, .slice none 0 0], .bool false]) ?_ rfl ⟨_, _, by rw [HX.out]; rfl, ?_, ?_⟩
    · simp [results, Tryd.results38, go_sem, r0, r1, r2]
    · rw [HX.out]; exact OwnW.nil _ _ _
    · first | exact below_set3 HF.out (by omega) | exact HF.out
  cases h2 : exB g q
  · have HX := Lib.hid (show mdB g rows makes q tells = false by unfold mdB; rw [h1, h2]; rfl)
    go_enter Tryd.func38, Tryd.ntmps38
    go_wp2_with fail
    refine (sexps_any g rv mv tlv rows makes tells _ (HH.out.on (HBX.out _ I0.out).2.2) (HT.out.below (HBX.out _ I0.out).2.2)).mono ?_
    rintro e w1 ⟨rfl, hb⟩
    rw [h1]
    have I1 := Lib.hid (I0.out.on hb)
    clear hb
    have p0 := (HBX.out _ I1.out).1.cell 0
    have p1 := (HBX.out _ I1.out).1.cell 1
    have p2 := (HBX.out _ I1.out).1.cell 2
    simp at p0 p1 p2 
    go_wp2_with fail
    refine (sex_any g q _).mono ?_
    rintro e w2 ⟨rfl, hb⟩
    rw [h2]
    have I2 := Lib.hid (I1.out.on hb)
    clear hb p0 p1 p2
    have r0 := (HBX.out _ I2.out).2.1.cell 0
    have r1 := (HBX.out _ I2.out).2.1.cell 1
    have r2 := (HBX.out _ I2.out).2.1.cell 2
    have f0 := (HBX.out _ I2.out).2.1.frozen 0
    have f1 := (HBX.out _ I2.out).2.1.frozen 1
    have f2 := (HBX.out _ I2.out).2.1.frozen 2
    simp at r0 r1 r2
    have HF : Hid (Below w.heap.size w w2) := Lib.hid (HBX.out _ I2.out).2.2
    go_wp2
    refine bodyPost_ret (v := .tuple #[.agg #[.slice none 0 0, .int .i64 0, .slice none 0 0], .bool false]) ?_ rfl ⟨_, _, by rw [HX.out]; rfl, ?_, ?_⟩
    · simp [results, Tryd.results38, go_sem, r0, r1, r2]
    · rw [HX.out]; exact OwnW.nil _ _ _
    · first | exact below_set3 HF.out (by omega) | exact HF.out
  have HX := Lib.hid (show mdB g rows makes q tells = true by unfold mdB; rw [h1, h2]; rfl)
  have hlot := lotB_true.1 h1
  obtain ⟨_, q0, q1⟩ := exB_true.1 h2
  have q2 : q ≤ 22 := by have := ord_bd hlot.cl.g0 hlot.cl.g4; omega
  clear q1
  have HMM := Lib.hid (show (mkAll g rows tells).length ≤ makes.length by rw [mkAll_len, hlot.cl.m]; exact Nat.le_refl _)
  have HM3 := Lib.hid (show (mkAll g rows tells).length ≤ 1000 by rw [mkAll_len]; have := hlot.cl.r3; omega)
  have HT3 := Lib.hid (show tells.length ≤ 1000 by rw [hlot.len]; have := hlot.cl.u2; omega)
  have hM := hlot.mkd
  have HMK := Lib.hid hM
  obtain ⟨ma, mc, em, k2⟩ := HH.out.makes.opened
  obtain ⟨tla, tlc, et, k3⟩ := HT.out.opened
  obtain ⟨n, hn⟩ : ∃ n, rows.length = n := ⟨_, rfl⟩
  have hm : makes.length = n := by rw [hlot.cl.m, hn]
  obtain ⟨u, hu⟩ : ∃ u, tells.length = u := ⟨_, rfl⟩
  have hu1 : 1 ≤ u := by rw [← hu, hlot.len]; exact hlot.cl.u1
  have hu2 : u ≤ 2 := by rw [← hu, hlot.len]; exact hlot.cl.u2
  have hn3 : n ≤ 3 := by rw [← hn]; exact hlot.cl.r3
  rw [hm] at em
  rw [hu] at et
  have HM := Lib.hid (show ∀ k, k < n → ∃ M, ma = some ⟨M, 0, none⟩ ∧ ∀ w', Below w.heap.size w w' → w'.cell? ⟨M, k, none⟩ = some (.int .i64 (nth makes k)) from fun k hk => by
    obtain ⟨M, e1, hl, e2⟩ := k2.get k (by rw [hm]; exact hk)
    exact ⟨M, e1, fun w' hb => (hb.cell (p := ⟨M, k, none⟩) hl).trans e2⟩)
  obtain ⟨TL, etl, _, _⟩ := k3.get 0 (by rw [hu]; omega)
  subst etl
  have HTC := Lib.hid (show ∀ w', Below w.heap.size w w' → ∀ j, j < u → w'.cell? ⟨TL, j, none⟩ = some (.int .i64 (nth tells j)) from fun w' hb j hj => by
    obtain ⟨M, e1, hl, e2⟩ := k3.get j (by rw [hu]; exact hj)
    cases e1
    exact (hb.cell (p := ⟨TL, j, none⟩) hl).trans e2)
  have HUT : Hid (tells.length = u) := Lib.hid hu
  have g0 := hlot.cl.g0
  have g4 := hlot.cl.g4
  obtain ⟨mk, hmk⟩ : ∃ mk, mkAll g rows tells = mk := ⟨_, rfl⟩
  have HMKS := Lib.hid hmk
  have HML : Hid (mk.length = n) := Lib.hid (by rw [← hmk, mkAll_len, hn])
  have HMKE := Lib.hid (show ∀ k, k < n → elB g (nth mk k) = true from fun k hk => by rw [← hmk]; exact allEl_at hlot.mk_el (by rw [mkAll_len, hn]; exact hk))
  have HMAE := Lib.hid (show ∀ k, k < n → elB g (nth makes k) = true from fun k hk => allEl_at hlot.cl.makes (by rw [hm]; exact hk))
  have HSU : Hid (saysUp g rows makes q tells = timesTo g mk makes (-q) n) := Lib.hid (by unfold saysUp timesAll; rw [hmk, HML.out])
  have HS := Lib.hid (timesTo_succ g mk makes (-q))
  have HLN := Lib.hid (timesTo_len g mk makes (-q))
  clear hlot hM k2 k3 hn hm hu hmk HM3 HMM HT3
  subst em et
  clear HBX I0
  have HBX := Lib.hid (head2 w [.int .i64 g, rv, .slice ma n mc] [.slice none 0 0, .int .i64 0, .slice none 0 0] 26 44)
  have I0 : Hid (InW ((w.alloc (.cells #[.int .i64 g, rv, .slice ma n mc] 26)).alloc (.cells #[.slice none 0 0, .int .i64 0, .slice none 0 0] 44)) (w.heap.size + 2) ((w.alloc (.cells #[.int .i64 g, rv, .slice ma n mc] 26)).alloc (.cells #[.slice none 0 0, .int .i64 0, .slice none 0 0] 44))) := Lib.hid (InW.start (by simp) (Below.refl _ _))
  go_enter Tryd.func38, Tryd.ntmps38
  go_wp2_with fail
  refine (sexps_any g rv _ _ rows makes tells _ (HH.out.on (HBX.out _ I0.out).2.2) (HT.out.below (HBX.out _ I0.out).2.2)).mono ?_
  rintro e w1 ⟨rfl, hb⟩
  rw [h1]
  have I1 := Lib.hid (I0.out.on hb)
  clear hb
  have p0 := (HBX.out _ I1.out).1.cell 0
  have p1 := (HBX.out _ I1.out).1.cell 1
  have p2 := (HBX.out _ I1.out).1.cell 2
  simp at p0 p1 p2 
  go_wp2_with fail
  refine (sex_any g q _).mono ?_
  rintro e w2 ⟨rfl, hb⟩
  rw [h2]
  have I2 := Lib.hid (I1.out.on hb)
  clear hb p0 p1 p2
  have O2 := own_made' w2
  have HTC2 := HTC.out _ (Below.on (HBX.out _ I2.out).2.2 (below_grow w2 (.cells #[] 3)))
  go_wp2_with (at_builtin; refine wpAppInts (xs := []) (ys := tells) rfl _ _ rfl rfl O2 HUT.out (by simp; omega) (by simp) rfl HTC2 ?_)
  intro tv w3 o3 g3
  have B2 := Lib.hid ((below_grow w2 (.cells #[] 3)).grown g3 (by simp) (fun k hk => (O2.lt k hk).1))
  have OT := Lib.hid (show Own w3 w2.heap.size tv tells from o3)
  have I3 := Lib.hid (I2.out.on B2.out)
  obtain ⟨ta, tc, htv⟩ := Own.form (show Own w3 w2.heap.size tv tells from o3)
  rw [HUT.out] at htv
  subst htv
  clear o3 g3 O2 HTC2
  have BO : Hid (Box (w3.alloc (.cells #[.slice none 0 0, .int .i64 q, .slice ta u tc] 44)) w3.heap.size [.slice none 0 0, .int .i64 q, .slice ta u tc]) := Lib.hid (Box.made w3 _ _)
  have I4 := Lib.hid (I3.out.on (below_grow w3 (.cells #[.slice none 0 0, .int .i64 q, .slice ta u tc] 44)))
  have p0 := (HBX.out _ I4.out).1.cell 0
  have p1 := (HBX.out _ I4.out).1.cell 1
  have p2 := (HBX.out _ I4.out).1.cell 2
  simp at p0 p1 p2
  go_wp2_with fail
  refine (smake_any g rv _ _ rows tells _ (HH.out.on (HBX.out _ I4.out).2.2).rows (HT.out.below (HBX.out _ I4.out).2.2) HMK.out).mono ?_
  rintro e w5 ⟨mkv, rfl, om, hb⟩
  rw [HMKS.out] at om
  obtain ⟨ka, kc, hk5⟩ := Own.form om
  rw [HML.out] at hk5
  subst hk5
  have I5 := Lib.hid (I4.out.on hb)
  have BO5 := Lib.hid (BO.out.on hb)
  have OT5 := Lib.hid (own_below (own_below OT.out (below_grow w3 (.cells #[.slice none 0 0, .int .i64 q, .slice ta u tc] 44))) hb)
  have OM5 := Lib.hid om
  have HNO : Hid (∀ k, (Value.slice ka n kc).ownBlock = some k → k ≠ w3.heap.size) := Lib.hid fun k h => by have := (om.lt k h).1; simp at this; omega
  have HNT : Hid (∀ k, (Value.slice ta u tc).ownBlock = some k → k < w3.heap.size) := Lib.hid fun k h => (OT.out.lt k h).2
  have HNB : Hid (w3.heap.size < w5.heap.size) := Lib.hid BO5.out.lt
  have HS3 : Hid (w.heap.size + 2 ≤ w3.heap.size) := Lib.hid I3.out.2
  have HS2 : Hid (w.heap.size + 2 ≤ w2.heap.size) := Lib.hid I2.out.2
  have HF5 : Hid (Below w.heap.size w w5) := Lib.hid (HBX.out _ I5.out).2.2
  clear hb om p0 p1 p2 BO OT
  go_wp2
  go_loopw [10] (fun i wr => ∃ (k : Nat) (v : Value), k ≤ n ∧ i = .int .i64 k ∧ Hid (Kx w5 w5.heap.size w3.heap.size (fun x => [x, .int .i64 q, .slice ta u tc]) v (timesTo g mk makes (-q) k) 0 none wr)) (fun i _ => n - (intOf i).toNat)
  case atStart => exact ⟨0, _, by omega, rfl, Lib.hid ⟨InX.start w5 w3.heap.size, BO5.out, World.ownsRow_nil _ _ _ _⟩⟩
  case round =>
    obtain ⟨k, v, hk, rfl, hI⟩ := hrel
    obtain ⟨wo, rfl⟩ : ∃ wo : World, wo = wr := ⟨_, rfl⟩
    by_cases hlt : k < n
    · obtain ⟨M, rfl, hmc⟩ := HM.out k hlt
      obtain ⟨KM, rfl⟩ := own_addr OM5.out hlt
      have HMC := Lib.hid hmc
      have HKC := Lib.hid (Own.at OM5.out HML.out hlt)
      have hlt1 : (k : Int) < (n : Int) := by omega
      have hme := HMAE.out k hlt
      have hke := HMKE.out k hlt
      have bd1 := elB_bound hme
      have bd2 := elB_bound hke
      have bd3 := elB_bound (gp_el hme (-q))
      obtain ⟨y, hy⟩ : ∃ y, tim g (nth mk k) (gpow g (nth makes k) (-q)) = y := ⟨_, rfl⟩
      have HY := Lib.hid hy
      have HPW := Lib.hid (show ∀ w', Calls Tryd.prog 68 #[.int .i64 g, .int .i64 (nth makes k), .int .i64 (-q)] w' fun e w'' => e = .returned (.int .i64 (gp g (nth makes k) (-q))) ∧ Below w'.heap.size w' w'' from fun w' => spow_any g _ _ w' g0 g4 (by omega) (by omega) (by omega) (by omega))
      have HTM := Lib.hid (show ∀ w', Calls Tryd.prog 67 #[.int .i64 g, .int .i64 (nth mk k), .int .i64 (gp g (nth makes k) (-q))] w' fun e w'' => e = .returned (.int .i64 y) ∧ Below w'.heap.size w' w'' from fun w' => by
        rw [← hy, gpow_gp hme (by omega) (by omega), tim_yes hke (gp_el hme (-q))]
        exact stms_any g _ _ w' g0 g4 (by omega) (by omega) (by omega) (by omega))
      have hll := HLN.out k
      have HBY := Lib.hid (head2 w [.int .i64 g, rv, .slice (some ⟨M, 0, none⟩) n mc] [.slice none 0 0, .int .i64 0, .slice none 0 0] 26 44)
      have I5' : Hid (InW ((w.alloc (.cells #[.int .i64 g, rv, .slice (some ⟨M, 0, none⟩) n mc] 26)).alloc (.cells #[.slice none 0 0, .int .i64 0, .slice none 0 0] 44)) (w.heap.size + 2) w5) := I5
      have HCB : Hid (∀ w', InX w5 w5.heap.size w3.heap.size w' → Box w' w.heap.size [.int .i64 g, rv, .slice (some ⟨M, 0, none⟩) n mc] ∧ Below w.heap.size w w' ∧ w'.cell? ⟨KM, k, none⟩ = some (.int .i64 (nth mk k))) := Lib.hid fun w' hx => by
        have s3 := HS3.out
        have s5 := HNB.out
        refine ⟨hx.box (HBY.out _ I5'.out).1 (by omega) (by omega), hx.below HF5.out (by omega) (by omega), ?_⟩
        exact Own.at (hx.own OM5.out (Nat.le_refl _) HNO.out) HML.out hlt
      have HK : Hid (Kx w5 w5.heap.size w3.heap.size (fun x => [x, .int .i64 q, .slice ta u tc]) v (timesTo g mk makes (-q) k) y none wo.drew) := Lib.hid (Kx.on (w1 := wo) (z := none) (y := y) hI.out (Below.refl _ _).drew)
      clear hmc bd1 bd2 bd3 hme hke hy hI
      go_wp2_with fail
      apply wp_region_H (Z := Option (Nat ⊕ (Value ⊕ Value))) (S := fun k => k == 1 || k == 19 || k == 20 || k == 21 || k == 22) (C := fun z w' => Hid (Kx w5 w5.heap.size w3.heap.size (fun x => [x, .int .i64 q, .slice ta u tc]) v (timesTo g mk makes (-q) k) y z w')) [0, 2, 3, 4, 5, 6, 7, 8, 9, 10, 11, 12, 13, 14, 15, 16, 17, 18] none
      · kernel_rfl
      · kernel_rfl
      · kernel_rfl
      · exact ⟨rfl, rfl, rfl, rfl, rfl, rfl, rfl, rfl, rfl, rfl, rfl, rfl, rfl, rfl, rfl, rfl, rfl, rfl, trivial⟩
      · rfl
      · decide
      · exact HK
      · intro z
        dsimp only [pickL, nthO]
        repeat (first | go_big_quiet_skip | (go_big_quiet_want; go_big_quiet_op; first | go_big_quiet_on | (refine ⟨_, fun _ _ => rfl, ?_⟩; go_big_quiet_on)))
        go_big_quiet_want
        go_big_quiet_op
        refine ⟨.int .i64 g, fun w' hw' => ?_, ?_⟩
        · have q := (HCB.out _ hw'.out.inx).1.cell 0
          try simp at q
          simp [go_sem, q]
        go_big_quiet_on
        repeat (first | go_big_quiet_skip | (go_big_quiet_want; go_big_quiet_op; first | go_big_quiet_on | (refine ⟨_, fun _ _ => rfl, ?_⟩; go_big_quiet_on)))
        go_big_quiet_want
        go_big_quiet_op
        refine ⟨.int .i64 (nth mk k), fun w' hw' => ?_, ?_⟩
        · have q := (HCB.out _ hw'.out.inx).2.2
          try simp at q
          simp [go_sem, q]
        go_big_quiet_on
        repeat (first | go_big_quiet_skip | (go_big_quiet_want; go_big_quiet_op; first | go_big_quiet_on | (refine ⟨_, fun _ _ => rfl, ?_⟩; go_big_quiet_on)))
        go_big_quiet_want
        go_big_quiet_op
        refine ⟨.int .i64 g, fun w' hw' => ?_, ?_⟩
        · have q := (HCB.out _ hw'.out.inx).1.cell 0
          try simp at q
          simp [go_sem, q]
        go_big_quiet_on
        repeat (first | go_big_quiet_skip | (go_big_quiet_want; go_big_quiet_op; first | go_big_quiet_on | (refine ⟨_, fun _ _ => rfl, ?_⟩; go_big_quiet_on)))
        go_big_quiet_want
        go_big_quiet_op
        refine ⟨.slice (some ⟨M, 0, none⟩) n mc, fun w' hw' => ?_, ?_⟩
        · have q := (HCB.out _ hw'.out.inx).1.cell 2
          try simp at q
          simp [go_sem, q]
        go_big_quiet_on
        repeat (first | go_big_quiet_skip | (go_big_quiet_want; go_big_quiet_op; first | go_big_quiet_on | (refine ⟨_, fun _ _ => rfl, ?_⟩; go_big_quiet_on)))
        go_big_quiet_want
        go_big_quiet_op
        refine ⟨.int .i64 (nth makes k), fun w' hw' => ?_, ?_⟩
        · have q := HMC.out w' (HCB.out _ hw'.out.inx).2.1
          try simp at q
          simp [go_sem, q]
        go_big_quiet_on
        repeat (first | go_big_quiet_skip | (go_big_quiet_want; go_big_quiet_op; first | go_big_quiet_on | (refine ⟨_, fun _ _ => rfl, ?_⟩; go_big_quiet_on)))
        go_big_quiet_want
        go_big_quiet_op
        go_big_quiet_call ((intro hw; exact (HPW.out _).mono fun _ _ ⟨he, hb⟩ => ⟨he, Lib.hid (hw.out.on hb)⟩))
        repeat (first | go_big_quiet_skip | (go_big_quiet_want; go_big_quiet_op; first | go_big_quiet_on | (refine ⟨_, fun _ _ => rfl, ?_⟩; go_big_quiet_on)))
        go_big_quiet_want
        go_big_quiet_op
        go_big_quiet_call ((intro hw; exact (HTM.out _).mono fun _ _ ⟨he, hb⟩ => ⟨he, Lib.hid (hw.out.on hb)⟩))
        exact wpQuiet_nil rfl
      · refine wpAnyH_two 1 19 (by kernel_rfl) ?_ ?_
        · refine hOp_special (d := some 38) rfl rfl rfl (by kernel_rfl) fun wl hl => ⟨v, wl, none, by have q := hl.out.2.1.cell 0; simp at q; simp [go_sem, q], hl, ?_⟩
          clear hl
          refine wpAnyH_special (i := 19) (d := some 56) rfl (by kernel_rfl) rfl rfl (by kernel_rfl) fun wa hc => ⟨.slice (some ⟨wa.heap.size, 0, none⟩) 1 1, wa.alloc (.cells #[.int .i64 y] 3), some (.inl wa.heap.size), .inl (by kernel_rfl), Lib.hid (Kx.build hc.out), ?_⟩
          clear hc
          refine wpAnyH_app (i := 20) (d := some 57) (v := v) (xs := timesTo g mk makes (-q) k) (y := y) (B := w5.heap.size) (N := wa.heap.size) (.tmp 38) (.tmp 56) rfl (by kernel_rfl) rfl rfl (by kernel_rfl) rfl rfl rfl fun wb hc => ⟨hc.out.2.2.1, by omega, hc.out.1.low, hc.out.2.2.2, fun v' wc o4 g4 => ⟨some (.inr (.inl v')), Lib.hid (hc.out.app HNB.out o4 g4), ?_⟩⟩
          obtain ⟨va, vc, hv'⟩ := Own.form o4
          subst hv'
          clear hc o4 g4
          refine wpAnyH_special (i := 21) (d := some 58) rfl (by kernel_rfl) rfl rfl (by kernel_rfl) fun wd hd => ⟨.pointer (some ⟨w3.heap.size, 0, none⟩), wd, some (.inr (.inl (.slice va (timesTo g mk makes (-q) k ++ [y]).length vc))), .inl (by kernel_rfl), hd, ?_⟩
          clear hd
          refine wpAnyH_special (i := 22) (d := none) rfl (by kernel_rfl) rfl rfl (by kernel_rfl) fun we he => ?_
          have k0 := he.out.2.1.cell 0
          have f0 := he.out.2.1.frozen 0
          simp at k0
          refine ⟨undef, we.setCell ⟨w3.heap.size, 0, none⟩ (.slice va (timesTo g mk makes (-q) k ++ [y]).length vc), some (.inr (.inr (.slice va (timesTo g mk makes (-q) k ++ [y]).length vc))), .inr ⟨by simp [go_sem, Act.put, k0, f0], rfl⟩, Lib.hid (he.out.put HNB.out rfl), ?_⟩
          clear he k0 f0
          refine ⟨by kernel_rfl, fun w7 hw7 => ?_⟩
          simp only [Act.put]
          have K7 : Hid (Kx w5 w5.heap.size w3.heap.size (fun x => [x, .int .i64 q, .slice ta u tc]) (.slice va (timesTo g mk makes (-q) k ++ [y]).length vc) (timesTo g mk makes (-q) (k + 1)) 0 none w7) := Lib.hid (by rw [HS.out, HY.out]; exact ⟨hw7.out.1, hw7.out.2.1, hw7.out.2.2⟩)
          clear hw7 HK HCB
          go_wp2
          go_roundw
          case rel => exact ⟨k + 1, _, by omega, by go_num, K7⟩
          case measure => simp [intOf]; omega
        · refine hOp_special (d := some 56) rfl rfl rfl (by kernel_rfl) fun wa hc => ⟨.slice (some ⟨wa.heap.size, 0, none⟩) 1 1, wa.alloc (.cells #[.int .i64 y] 3), some (.inl wa.heap.size), by kernel_rfl, Lib.hid (Kx.build hc.out), ?_⟩
          clear hc
          refine wpAnyH_special (i := 1) (d := some 38) rfl (by kernel_rfl) rfl rfl (by kernel_rfl) fun wl hl => ⟨v, wl, some (.inl wa.heap.size), .inl (by have q := hl.out.2.1.cell 0; simp at q; simp [go_sem, q]), hl, ?_⟩
          clear hl
          refine wpAnyH_app (i := 20) (d := some 57) (v := v) (xs := timesTo g mk makes (-q) k) (y := y) (B := w5.heap.size) (N := wa.heap.size) (.tmp 38) (.tmp 56) rfl (by kernel_rfl) rfl rfl (by kernel_rfl) rfl rfl rfl fun wb hc => ⟨hc.out.2.2.1, by omega, hc.out.1.low, hc.out.2.2.2, fun v' wc o4 g4 => ⟨some (.inr (.inl v')), Lib.hid (hc.out.app HNB.out o4 g4), ?_⟩⟩
          obtain ⟨va, vc, hv'⟩ := Own.form o4
          subst hv'
          clear hc o4 g4
          refine wpAnyH_special (i := 21) (d := some 58) rfl (by kernel_rfl) rfl rfl (by kernel_rfl) fun wd hd => ⟨.pointer (some ⟨w3.heap.size, 0, none⟩), wd, some (.inr (.inl (.slice va (timesTo g mk makes (-q) k ++ [y]).length vc))), .inl (by kernel_rfl), hd, ?_⟩
          clear hd
          refine wpAnyH_special (i := 22) (d := none) rfl (by kernel_rfl) rfl rfl (by kernel_rfl) fun we he => ?_
          have k0 := he.out.2.1.cell 0
          have f0 := he.out.2.1.frozen 0
          simp at k0
          refine ⟨undef, we.setCell ⟨w3.heap.size, 0, none⟩ (.slice va (timesTo g mk makes (-q) k ++ [y]).length vc), some (.inr (.inr (.slice va (timesTo g mk makes (-q) k ++ [y]).length vc))), .inr ⟨by simp [go_sem, Act.put, k0, f0], rfl⟩, Lib.hid (he.out.put HNB.out rfl), ?_⟩
          clear he k0 f0
          refine ⟨by kernel_rfl, fun w7 hw7 => ?_⟩
          simp only [Act.put]
          have K7 : Hid (Kx w5 w5.heap.size w3.heap.size (fun x => [x, .int .i64 q, .slice ta u tc]) (.slice va (timesTo g mk makes (-q) k ++ [y]).length vc) (timesTo g mk makes (-q) (k + 1)) 0 none w7) := Lib.hid (by rw [HS.out, HY.out]; exact ⟨hw7.out.1, hw7.out.2.1, hw7.out.2.2⟩)
          clear hw7 HK HCB
          go_wp2
          go_roundw
          case rel => exact ⟨k + 1, _, by omega, by go_num, K7⟩
          case measure => simp [intOf]; omega
    · obtain rfl : k = n := by omega
      obtain ⟨va, vc, hv⟩ := Own.form hI.out.2.2
      subst hv
      have OV := Lib.hid hI.out.2.2
      have HF : Hid (Below w.heap.size w wo) := Lib.hid (hI.out.1.below HF5.out (by have := HS3.out; omega) (by have := HS3.out; have := HNB.out; omega))
      have OTT := Lib.hid (hI.out.1.own OT5.out (Nat.le_refl _) (fun k h => by have := HNT.out k h; omega))
      have b := hI.out.2.1
      have c0 := b.cell 0
      have c1 := b.cell 1
      have c2 := b.cell 2
      simp at c0 c1 c2
      have hr : Box wo (w.heap.size + 1) [.slice none 0 0, .int .i64 0, .slice none 0 0] := hI.out.1.box (HBX.out _ I5.out).2.1 (by have := HS3.out; have := HNB.out; omega) (by have := HS3.out; omega)
      have r0 := hr.cell 0
      have r1 := hr.cell 1
      have r2 := hr.cell 2
      have f0 := hr.frozen 0
      have f1 := hr.frozen 1
      have f2 := hr.frozen 2
      simp at r0 r1 r2
      have HAP := Lib.hid (show ∀ j, (Value.slice va (timesTo g mk makes (-q) k).length vc).ownBlock = some j → (Value.slice ta u tc).ownBlock = some j → False from fun j h1 h2 => by have := (OV.out.lt j h1).1; have := HNT.out j h2; have := HNB.out; omega)
      have HN5 : Hid (w.heap.size + 1 < w5.heap.size) := Lib.hid (by have := HS3.out; have := HNB.out; omega)
      have HN2 : Hid (w.heap.size + 1 < w2.heap.size) := Lib.hid (by have := HS2.out; omega)
      have hNo : w3.heap.size ≠ w.heap.size + 1 := by have := HS3.out; omega
      clear b hr hI
      go_wp2
      refine bodyPost_ret (v := .tuple #[.agg #[.slice va (timesTo g mk makes (-q) k).length vc, .int .i64 q, .slice ta u tc], .bool true]) ?_ rfl ⟨_, _, by rw [HX.out]; rfl, ?_, below_set3 HF.out (by omega)⟩
      · simp [results, Tryd.results38, go_sem, r0, r1, r2]
      · rw [HX.out]; unfold wdL; rw [if_pos rfl, if_pos rfl, HSU.out]; exact words_fin OV.out OTT.out HN5.out HN2.out HAP.out (by omega)
end Go.Proofs.YtkcikhjobgackabDoor
