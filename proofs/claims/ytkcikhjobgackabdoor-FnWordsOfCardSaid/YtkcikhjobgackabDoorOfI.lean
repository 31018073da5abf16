/- impl.WordsOf. -/
import Derived.Test.YtkcikhjobgackabDoorMadI
namespace Go.Proofs.YtkcikhjobgackabDoor
open Go.RowKit

set_option maxHeartbeats 6400000 in
theorem iof_any (g : Int) (rv mv : Value) (ev fv : Value) (q : Int) (rows : List (List Int)) (makes es further : List Int) (w : World) (G : Gr w) (h : Cw w rv mv rows makes) (he : Ints w ev es) (hf : Ints w fv further) :
    Calls Tryd.prog 30 #[.agg #[.int .i64 g, rv, mv], ev, fv, .int .i64 q] w fun e w' => ∃ sv tv, e = .returned (.tuple #[.agg #[sv, .int .i64 (wdQ (ofB g rows makes es further q) q), tv], .bool (ofB g rows makes es further q)]) ∧ OwnW w' w.heap.size w'.heap.size sv tv (wdL (ofB g rows makes es further q) (mkAll g rows further)) (wdL (ofB g rows makes es further q) (tellsAll g es further q)) ∧ Below w.heap.size w w' := by
  have HG := Lib.hid G
  have HH := Lib.hid h
  have HE := Lib.hid he
  have HF := Lib.hid hf
  have HBX := Lib.hid (head2 w [.int .i64 g, rv, mv] [.slice none 0 0, .int .i64 0, .slice none 0 0] 26 44)
  have I0 : Hid (InW ((w.alloc (.cells #[.int .i64 g, rv, mv] 26)).alloc (.cells #[.slice none 0 0, .int .i64 0, .slice none 0 0] 44)) (w.heap.size + 2) ((w.alloc (.cells #[.int .i64 g, rv, mv] 26)).alloc (.cells #[.slice none 0 0, .int .i64 0, .slice none 0 0] 44))) := Lib.hid (InW.start (by simp) (Below.refl _ _))
  clear h he hf G
  cases h1 : solvB g rows makes es
  · have HX := Lib.hid (show ofB g rows makes es further q = false by unfold ofB; rw [h1]; rfl)
    go_enter Tryd.func30, Tryd.ntmps30
    go_wp2_with fail
    refine (isolv_any g rv mv ev rows makes es _ (HG.out.on (HBX.out _ I0.out).2.2) (HH.out.on (HBX.out _ I0.out).2.2) (HE.out.below (HBX.out _ I0.out).2.2)).mono ?_
    rintro e w1 ⟨rfl, hb⟩
    rw [h1]
    have I1 := Lib.hid (I0.out.on hb)
    clear hb
    have r0 := (HBX.out _ I1.out).2.1.cell 0
    have r1 := (HBX.out _ I1.out).2.1.cell 1
    have r2 := (HBX.out _ I1.out).2.1.cell 2
    have f0 := (HBX.out _ I1.out).2.1.frozen 0
    have f1 := (HBX.out _ I1.out).2.1.frozen 1
    have f2 := (HBX.out _ I1.out).2.1.frozen 2
    simp at r0 r1 r2
    have HFF : Hid (Below w.heap.size w w1) := Lib.hid (HBX.out _ I1.out).2.2
    go_wp2
    refine bodyPost_ret (v := .tuple #[.agg #[.slice none 0 0, .int .i64 0, .slice none 0 0], .bool false]) ?_ rfl ⟨_, _, by rw [HX.out]; rfl, ?_, ?_⟩
    · simp [results, Tryd.results30, go_sem, r0, r1, r2]
    · rw [HX.out]; exact OwnW.nil _ _ _
    · first | exact below_set3 HFF.out (by omega) | exact HFF.out
  cases h2 : lotB g rows makes further
  · have HX := Lib.hid (show ofB g rows makes es further q = false by unfold ofB; rw [h1, h2]; rfl)
    go_enter Tryd.func30, Tryd.ntmps30
    go_wp2_with fail
    refine (isolv_any g rv mv ev rows makes es _ (HG.out.on (HBX.out _ I0.out).2.2) (HH.out.on (HBX.out _ I0.out).2.2) (HE.out.below (HBX.out _ I0.out).2.2)).mono ?_
    rintro e w1 ⟨rfl, hb⟩
    rw [h1]
    have I1 := Lib.hid (I0.out.on hb)
    clear hb
    have p0 := (HBX.out _ I1.out).1.cell 0
    have p1 := (HBX.out _ I1.out).1.cell 1
    have p2 := (HBX.out _ I1.out).1.cell 2
    simp at p0 p1 p2 
    go_wp2_with fail
    refine (ilot_any g rv mv fv rows makes further _ (HG.out.on (HBX.out _ I1.out).2.2) (HH.out.on (HBX.out _ I1.out).2.2) (HF.out.below (HBX.out _ I1.out).2.2)).mono ?_
    rintro e w2 ⟨rfl, hb⟩
    rw [h2]
    have I2 := Lib.hid (I1.out.on hb)
    clear hb p0 p1 p2
    have r0 := (HBX.out _ I2.out).2.1.cell 0
    have r1 := (HBX.out _ I2.out).2.1.cell 1
    have r2 := (HBX.out _ I2.out).2.1.cell 2
    have f0 := (HBX.out _ I2.out).2.1.frozen 0
    have f1 := (HBX.out _ I2.out).2.1.frozen 1
    have f2 := (HBX.out _ I2.out).2.1.frozen 2
    simp at r0 r1 r2
    have HFF : Hid (Below w.heap.size w w2) := Lib.hid (HBX.out _ I2.out).2.2
    go_wp2
    refine bodyPost_ret (v := .tuple #[.agg #[.slice none 0 0, .int .i64 0, .slice none 0 0], .bool false]) ?_ rfl ⟨_, _, by rw [HX.out]; rfl, ?_, ?_⟩
    · simp [results, Tryd.results30, go_sem, r0, r1, r2]
    · rw [HX.out]; exact OwnW.nil _ _ _
    · first | exact below_set3 HFF.out (by omega) | exact HFF.out
  cases h3 : exB g q
  · have HX := Lib.hid (show ofB g rows makes es further q = false by unfold ofB; rw [h1, h2, h3]; rfl)
    go_enter Tryd.func30, Tryd.ntmps30
    go_wp2_with fail
    refine (isolv_any g rv mv ev rows makes es _ (HG.out.on (HBX.out _ I0.out).2.2) (HH.out.on (HBX.out _ I0.out).2.2) (HE.out.below (HBX.out _ I0.out).2.2)).mono ?_
    rintro e w1 ⟨rfl, hb⟩
    rw [h1]
    have I1 := Lib.hid (I0.out.on hb)
    clear hb
    have p0 := (HBX.out _ I1.out).1.cell 0
    have p1 := (HBX.out _ I1.out).1.cell 1
    have p2 := (HBX.out _ I1.out).1.cell 2
    simp at p0 p1 p2 
    go_wp2_with fail
    refine (ilot_any g rv mv fv rows makes further _ (HG.out.on (HBX.out _ I1.out).2.2) (HH.out.on (HBX.out _ I1.out).2.2) (HF.out.below (HBX.out _ I1.out).2.2)).mono ?_
    rintro e w2 ⟨rfl, hb⟩
    rw [h2]
    have I2 := Lib.hid (I1.out.on hb)
    clear hb p0 p1 p2
    have p0 := (HBX.out _ I2.out).1.cell 0
    have p1 := (HBX.out _ I2.out).1.cell 1
    have p2 := (HBX.out _ I2.out).1.cell 2
    simp at p0 p1 p2 
    go_wp2_with fail
    refine (iex_l g q _ (HG.out.on (HBX.out _ I2.out).2.2)).mono ?_
    rintro e w3 ⟨rfl, hb⟩
    rw [h3]
    have I3 := Lib.hid (I2.out.on hb)
    clear hb p0 p1 p2
    have r0 := (HBX.out _ I3.out).2.1.cell 0
    have r1 := (HBX.out _ I3.out).2.1.cell 1
    have r2 := (HBX.out _ I3.out).2.1.cell 2
    have f0 := (HBX.out _ I3.out).2.1.frozen 0
    have f1 := (HBX.out _ I3.out).2.1.frozen 1
    have f2 := (HBX.out _ I3.out).2.1.frozen 2
    simp at r0 r1 r2
    have HFF : Hid (Below w.heap.size w w3) := Lib.hid (HBX.out _ I3.out).2.2
    go_wp2
    refine bodyPost_ret (v := .tuple #[.agg #[.slice none 0 0, .int .i64 0, .slice none 0 0], .bool false]) ?_ rfl ⟨_, _, by rw [HX.out]; rfl, ?_, ?_⟩
    · simp [results, Tryd.results30, go_sem, r0, r1, r2]
    · rw [HX.out]; exact OwnW.nil _ _ _
    · first | exact below_set3 HFF.out (by omega) | exact HFF.out
  have hB : ofB g rows makes es further q = true := by unfold ofB; rw [h1, h2, h3]; rfl
  have HX := Lib.hid hB
  obtain ⟨k1, k2, _⟩ := ofB_parts hB
  obtain ⟨ea, ec, ee, j1⟩ := HE.out.opened
  obtain ⟨fa, fc, ef, j2⟩ := HF.out.opened
  obtain ⟨u, hu⟩ : ∃ u, es.length = u := ⟨_, rfl⟩
  have hu' : further.length = u := by rw [← hu, k1.len, k2.len]
  have hu2 : u ≤ 2 := by rw [← hu, k1.len]; exact k1.cl.u2
  rw [hu] at ee
  rw [hu'] at ef
  have HC1 := Lib.hid (show ∀ k, k < u → ∃ M, ea = some ⟨M, 0, none⟩ ∧ ∀ w', Below w.heap.size w w' → w'.cell? ⟨M, k, none⟩ = some (.int .i64 (nth es k)) from fun k hk => by
    obtain ⟨M, e1, hl, e2⟩ := j1.get k (by rw [hu]; exact hk)
    exact ⟨M, e1, fun w' hb => (hb.cell (p := ⟨M, k, none⟩) hl).trans e2⟩)
  have HC2 := Lib.hid (show ∀ k, k < u → ∃ M, fa = some ⟨M, 0, none⟩ ∧ ∀ w', Below w.heap.size w w' → w'.cell? ⟨M, k, none⟩ = some (.int .i64 (nth further k)) from fun k hk => by
    obtain ⟨M, e1, hl, e2⟩ := j2.get k (by rw [hu']; exact hk)
    exact ⟨M, e1, fun w' hb => (hb.cell (p := ⟨M, k, none⟩) hl).trans e2⟩)
  have HX1 := Lib.hid (show ∀ k, k < u → exB g (nth es k) = true from fun k hk => allEx_at k1.ex (by rw [hu]; exact hk))
  have HX2 := Lib.hid (show ∀ k, k < u → exB g (nth further k) = true from fun k hk => allEx_at k2.ex (by rw [hu']; exact hk))
  obtain ⟨⟨g0, g4⟩, a0, a1⟩ := exB_true.1 h3
  obtain ⟨o1, o2⟩ := ord_bd g0 g4
  have a2 : q ≤ 22 := by omega
  have HS := Lib.hid (tellsTo_succ g es further q)
  have HLN := Lib.hid (tellsTo_len g es further q)
  have HTA : Hid (tellsAll g es further q = tellsTo g es further q u) := Lib.hid (by unfold tellsAll; rw [hu])
  have HML : Hid ((mkAll g rows further).length ≤ 3) := Lib.hid (by rw [mkAll_len]; exact k1.cl.r3)
  have HRM := Lib.hid (rmk_yes h2)
  obtain ⟨qq, hqq⟩ : ∃ qq, ord g = qq := ⟨_, rfl⟩
  rw [hqq] at o1 o2 a1
  have HQQ := Lib.hid hqq
  clear hB k1 k2 j1 j2 hu hu' hqq
  subst ee ef
  clear HBX I0
  have HBX := Lib.hid (head2 w [.int .i64 g, rv, mv] [.slice none 0 0, .int .i64 0, .slice none 0 0] 26 44)
  have I0 : Hid (InW ((w.alloc (.cells #[.int .i64 g, rv, mv] 26)).alloc (.cells #[.slice none 0 0, .int .i64 0, .slice none 0 0] 44)) (w.heap.size + 2) ((w.alloc (.cells #[.int .i64 g, rv, mv] 26)).alloc (.cells #[.slice none 0 0, .int .i64 0, .slice none 0 0] 44))) := Lib.hid (InW.start (by simp) (Below.refl _ _))
  rcases g_cases g0 g4 with rfl | rfl | rfl | rfl <;> clear g0 g4
  · have hqv := HQQ.out
    simp [ord] at hqv
    go_enter Tryd.func30, Tryd.ntmps30
    go_wp2_with fail
    refine (isolv_any 0 rv mv _ rows makes es _ (HG.out.on (HBX.out _ I0.out).2.2) (HH.out.on (HBX.out _ I0.out).2.2) (HE.out.below (HBX.out _ I0.out).2.2)).mono ?_
    rintro e w1 ⟨rfl, hb⟩
    rw [h1]
    have I1 := Lib.hid (I0.out.on hb)
    clear hb
    have p0 := (HBX.out _ I1.out).1.cell 0
    have p1 := (HBX.out _ I1.out).1.cell 1
    have p2 := (HBX.out _ I1.out).1.cell 2
    simp at p0 p1 p2 
    go_wp2_with fail
    refine (ilot_any 0 rv mv _ rows makes further _ (HG.out.on (HBX.out _ I1.out).2.2) (HH.out.on (HBX.out _ I1.out).2.2) (HF.out.below (HBX.out _ I1.out).2.2)).mono ?_
    rintro e w2 ⟨rfl, hb⟩
    rw [h2]
    have I2 := Lib.hid (I1.out.on hb)
    clear hb p0 p1 p2
    have p0 := (HBX.out _ I2.out).1.cell 0
    have p1 := (HBX.out _ I2.out).1.cell 1
    have p2 := (HBX.out _ I2.out).1.cell 2
    simp at p0 p1 p2 
    go_wp2_with fail
    refine (iex_l 0 q _ (HG.out.on (HBX.out _ I2.out).2.2)).mono ?_
    rintro e w3 ⟨rfl, hb⟩
    rw [h3]
    have I3 := Lib.hid (I2.out.on hb)
    clear hb p0 p1 p2
    go_wp2
    go_loopw [10, 33] (fun v i wr => ∃ k : Nat, k ≤ u ∧ i = .int .i64 k ∧ Hid (InW ((w.alloc (.cells #[.int .i64 0, rv, mv] 26)).alloc (.cells #[.slice none 0 0, .int .i64 0, .slice none 0 0] 44)) (w.heap.size + 2) wr) ∧ Hid (Own wr (w.heap.size + 2) v (tellsTo 0 es further q k))) (fun _ i _ => u - (intOf i).toNat)
    case atStart => exact ⟨0, by omega, rfl, I3, Lib.hid (World.ownsRow_nil _ _ _ _)⟩
    case round =>
      obtain ⟨k, hk, rfl, hI, ho⟩ := hrel
      obtain ⟨wo, rfl⟩ : ∃ wo : World, wo = wr := ⟨_, rfl⟩
      by_cases hlt : k < u
      · obtain ⟨M1, rfl, hc1⟩ := HC1.out k hlt
        obtain ⟨M2, rfl, hc2⟩ := HC2.out k hlt
        have HK1 := Lib.hid hc1
        have x0 := hc2 _ (HBX.out _ hI.out).2.2
        have hlt1 : (k : Int) < (u : Int) := by omega
        obtain ⟨_, c0, c1⟩ := exB_true.1 (HX1.out k hlt)
        obtain ⟨_, d0, d1⟩ := exB_true.1 (HX2.out k hlt)
        rw [HQQ.out] at c1 d1
        have m0 : 0 ≤ q * nth es k := Int.mul_nonneg a0 c0
        have m1 : q * nth es k ≤ 23 * 23 := Int.mul_le_mul (by omega) (by omega) c0 (by omega)
        have d2 : nth further k ≤ 22 := by omega
        have s0 : 0 ≤ nth further k + q * nth es k := by omega
        have s1 : nth further k + q * nth es k ≤ 600 := by omega
        obtain ⟨y, hy⟩ : ∃ y, (nth further k + q * nth es k) % qq = y := ⟨_, rfl⟩
        have HY := Lib.hid hy
        have HRE := Lib.hid (show ∀ w', Calls Tryd.prog 62 #[.int .i64 (nth further k + q * nth es k), .int .i64 qq] w' fun e w'' => e = .returned (.int .i64 y) ∧ Below w'.heap.size w' w'' from fun w' => by rw [← hy]; exact irem_l _ _ w' (by omega) (by omega) (by omega) (by omega))
        rw [← hqv] at HRE
        have HQV := Lib.hid hqv
        clear hqv
        have hll := HLN.out k
        have HK : Hid (Kp ((w.alloc (.cells #[.int .i64 0, rv, mv] 26)).alloc (.cells #[.slice none 0 0, .int .i64 0, .slice none 0 0] 44)) (w.heap.size + 2) u10 (tellsTo 0 es further q k) y none wo.drew) := Lib.hid (Kp.on (w1 := wo) ⟨hI.out.1, hI.out.2, ho.out⟩ (Below.refl _ _).drew)
        have HBY : Hid (∀ z w', Kp ((w.alloc (.cells #[.int .i64 0, rv, mv] 26)).alloc (.cells #[.slice none 0 0, .int .i64 0, .slice none 0 0] 44)) (w.heap.size + 2) u10 (tellsTo 0 es further q k) y z w' → InW ((w.alloc (.cells #[.int .i64 0, rv, mv] 26)).alloc (.cells #[.slice none 0 0, .int .i64 0, .slice none 0 0] 44)) (w.heap.size + 2) w') := Lib.hid fun z w' h => h.below
        have HGC : Hid (∀ w', InW ((w.alloc (.cells #[.int .i64 0, rv, mv] 26)).alloc (.cells #[.slice none 0 0, .int .i64 0, .slice none 0 0] 44)) (w.heap.size + 2) w' → Gr w') := Lib.hid fun w' h => HG.out.on (HBX.out _ h).2.2
        clear hc1 hc2 hI ho hy c1 d1
        go_wp2_with fail
        clear x0
        apply wp_region_H (S := fun k => k == 15 || k == 16) (C := fun z w' => Hid (Kp ((w.alloc (.cells #[.int .i64 0, rv, mv] 26)).alloc (.cells #[.slice none 0 0, .int .i64 0, .slice none 0 0] 44)) (w.heap.size + 2) u10 (tellsTo 0 es further q k) y z w')) [0, 1, 2, 3, 4, 5, 6, 7, 8, 9, 10, 11, 12, 13, 14] none
        · kernel_rfl
        · kernel_rfl
        · kernel_rfl
        · exact ⟨rfl, rfl, rfl, rfl, rfl, rfl, rfl, rfl, rfl, rfl, rfl, rfl, rfl, rfl, rfl, trivial⟩
        · rfl
        · decide
        · exact HK
        · intro z
          dsimp only [pickL, nthO]
          repeat (first | go_big_quiet_skip | (go_big_quiet_want; go_big_quiet_op; first | go_big_quiet_on | (refine ⟨_, fun _ _ => rfl, ?_⟩; go_big_quiet_on)))
          go_big_quiet_want
          go_big_quiet_op
          refine ⟨.int .i64 (nth es k), fun w' hw' => ?_, ?_⟩
          · have q := HK1.out w' (HBX.out _ (HBY.out _ _ hw'.out)).2.2
            try simp at q
            simp [go_sem, q]
          go_big_quiet_on
          repeat (first | go_big_quiet_skip | (go_big_quiet_want; go_big_quiet_op; first | go_big_quiet_on | (refine ⟨_, fun _ _ => rfl, ?_⟩; go_big_quiet_on)))
          go_big_quiet_want
          go_big_quiet_op
          refine ⟨.int .i64 0, fun w' hw' => ?_, ?_⟩
          · have q := (HBX.out _ (HBY.out _ _ hw'.out)).1.cell 0
            try simp at q
            simp [go_sem, q]
          go_big_quiet_on
          repeat (first | go_big_quiet_skip | (go_big_quiet_want; go_big_quiet_op; first | go_big_quiet_on | (refine ⟨_, fun _ _ => rfl, ?_⟩; go_big_quiet_on)))
          go_big_quiet_want
          go_big_quiet_op
          refine ⟨.int .i64 3, fun w' hw' => ?_, ?_⟩
          · have q := HGC.out _ (HBY.out _ _ hw'.out)
            have q1 := q.c1
            simp [go_sem, q1]
          go_big_quiet_on
          repeat (first | go_big_quiet_skip | (go_big_quiet_want; go_big_quiet_op; first | go_big_quiet_on | (refine ⟨_, fun _ _ => rfl, ?_⟩; go_big_quiet_on)))
          go_big_quiet_want
          go_big_quiet_op
          go_big_quiet_call ((intro hw; exact (HRE.out _).mono fun _ _ ⟨he, hb⟩ => ⟨he, Lib.hid (hw.out.on hb)⟩))
          exact wpQuiet_nil rfl
        · refine wpAnyH_special (i := 15) (d := some 53) rfl (by kernel_rfl) rfl rfl (by kernel_rfl) fun wa hc => ⟨.slice (some ⟨wa.heap.size, 0, none⟩) 1 1, wa.alloc (.cells #[.int .i64 y] 3), some (.inl wa.heap.size), .inl (by kernel_rfl), Lib.hid (Kp.build hc.out), ?_⟩
          clear hc
          refine wpAnyH_app (i := 16) (d := some 54) (v := u10) (xs := tellsTo 0 es further q k) (y := y) (B := w.heap.size + 2) (N := wa.heap.size) (.tmp 38) (.tmp 53) rfl (by kernel_rfl) rfl rfl (by kernel_rfl) rfl rfl rfl fun wb hc => ⟨hc.out.2.2.1, by omega, hc.out.2.1, hc.out.2.2.2, fun v' wc o4 g4 => ⟨some (.inr v'), Lib.hid (hc.out.app o4 g4), ?_⟩⟩
          clear hc o4 g4
          refine wpAnyH_assign (i := 17) (d := some 10) _ rfl (by kernel_rfl) rfl rfl (by kernel_rfl) rfl ?_
          refine ⟨by kernel_rfl, fun w2 hw2 => ?_⟩
          simp only [Act.put, Act.eval]
          have I2 : Hid (InW ((w.alloc (.cells #[.int .i64 0, rv, mv] 26)).alloc (.cells #[.slice none 0 0, .int .i64 0, .slice none 0 0] 44)) (w.heap.size + 2) w2) := Lib.hid (HBY.out _ _ hw2.out)
          have O2 : Hid (Own w2 (w.heap.size + 2) v' (tellsTo 0 es further q (k + 1))) := Lib.hid (by rw [HS.out, HQQ.out, HY.out]; exact hw2.out.2.2)
          clear hw2 HK HBY HGC
          go_wp2
          go_roundw
          case rel => exact ⟨k + 1, by omega, by go_num, I2, O2⟩
          case measure => simp [intOf]; omega
      · obtain rfl : k = u := by omega
        have I4 := hI
        have O4 := ho
        clear hI ho
        have p0 := (HBX.out _ I4.out).1.cell 0
        have p1 := (HBX.out _ I4.out).1.cell 1
        have p2 := (HBX.out _ I4.out).1.cell 2
        simp at p0 p1 p2
        go_wp2_with fail
        refine (irmk_any 0 rv mv _ rows makes further _ (HG.out.on (HBX.out _ I4.out).2.2) (HH.out.on (HBX.out _ I4.out).2.2) (HF.out.below (HBX.out _ I4.out).2.2)).mono ?_
        rintro e w5 ⟨sv, rfl, om, hb⟩
        rw [HRM.out] at om
        have I5 := Lib.hid (I4.out.on hb)
        have OT := Lib.hid (own_below O4.out hb)
        have OM := Lib.hid (own_mono om I4.out.2)
        have HAP := Lib.hid (show ∀ j, sv.ownBlock = some j → u10.ownBlock = some j → False from fun j h1 h2 => by have := (om.lt j h1).1; have := (O4.out.lt j h2).2; omega)
        obtain ⟨sa, sc, hsv⟩ := Own.form om
        obtain ⟨ta, tc, htv⟩ := Own.form O4.out
        rw [HLN.out] at htv
        subst hsv htv
        clear hb om O4 p0 p1 p2
        have r0 := (HBX.out _ I5.out).2.1.cell 0
        have r1 := (HBX.out _ I5.out).2.1.cell 1
        have r2 := (HBX.out _ I5.out).2.1.cell 2
        have f0 := (HBX.out _ I5.out).2.1.frozen 0
        have f1 := (HBX.out _ I5.out).2.1.frozen 1
        have f2 := (HBX.out _ I5.out).2.1.frozen 2
        simp at r0 r1 r2
        have HFF : Hid (Below w.heap.size w w5) := Lib.hid (HBX.out _ I5.out).2.2
        go_wp2
        refine bodyPost_ret (v := .tuple #[.agg #[.slice sa (mkAll 0 rows further).length sc, .int .i64 q, .slice ta k tc], .bool true]) ?_ rfl ⟨_, _, by rw [HX.out]; rfl, ?_, below_set3 HFF.out (by omega)⟩
        · simp [results, Tryd.results30, go_sem, r0, r1, r2]
        · rw [HX.out]; unfold wdL; rw [if_pos rfl, if_pos rfl, HTA.out]; exact words_fin OM.out OT.out (by omega) (by omega) HAP.out (by omega)
  · have hqv := HQQ.out
    simp [ord] at hqv
    go_enter Tryd.func30, Tryd.ntmps30
    go_wp2_with fail
    refine (isolv_any 1 rv mv _ rows makes es _ (HG.out.on (HBX.out _ I0.out).2.2) (HH.out.on (HBX.out _ I0.out).2.2) (HE.out.below (HBX.out _ I0.out).2.2)).mono ?_
    rintro e w1 ⟨rfl, hb⟩
    rw [h1]
    have I1 := Lib.hid (I0.out.on hb)
    clear hb
    have p0 := (HBX.out _ I1.out).1.cell 0
    have p1 := (HBX.out _ I1.out).1.cell 1
    have p2 := (HBX.out _ I1.out).1.cell 2
    simp at p0 p1 p2 
    go_wp2_with fail
    refine (ilot_any 1 rv mv _ rows makes further _ (HG.out.on (HBX.out _ I1.out).2.2) (HH.out.on (HBX.out _ I1.out).2.2) (HF.out.below (HBX.out _ I1.out).2.2)).mono ?_
    rintro e w2 ⟨rfl, hb⟩
    rw [h2]
    have I2 := Lib.hid (I1.out.on hb)
    clear hb p0 p1 p2
    have p0 := (HBX.out _ I2.out).1.cell 0
    have p1 := (HBX.out _ I2.out).1.cell 1
    have p2 := (HBX.out _ I2.out).1.cell 2
    simp at p0 p1 p2 
    go_wp2_with fail
    refine (iex_l 1 q _ (HG.out.on (HBX.out _ I2.out).2.2)).mono ?_
    rintro e w3 ⟨rfl, hb⟩
    rw [h3]
    have I3 := Lib.hid (I2.out.on hb)
    clear hb p0 p1 p2
    go_wp2
    go_loopw [10, 33] (fun v i wr => ∃ k : Nat, k ≤ u ∧ i = .int .i64 k ∧ Hid (InW ((w.alloc (.cells #[.int .i64 1, rv, mv] 26)).alloc (.cells #[.slice none 0 0, .int .i64 0, .slice none 0 0] 44)) (w.heap.size + 2) wr) ∧ Hid (Own wr (w.heap.size + 2) v (tellsTo 1 es further q k))) (fun _ i _ => u - (intOf i).toNat)
    case atStart => exact ⟨0, by omega, rfl, I3, Lib.hid (World.ownsRow_nil _ _ _ _)⟩
    case round =>
      obtain ⟨k, hk, rfl, hI, ho⟩ := hrel
      obtain ⟨wo, rfl⟩ : ∃ wo : World, wo = wr := ⟨_, rfl⟩
      by_cases hlt : k < u
      · obtain ⟨M1, rfl, hc1⟩ := HC1.out k hlt
        obtain ⟨M2, rfl, hc2⟩ := HC2.out k hlt
        have HK1 := Lib.hid hc1
        have x0 := hc2 _ (HBX.out _ hI.out).2.2
        have hlt1 : (k : Int) < (u : Int) := by omega
        obtain ⟨_, c0, c1⟩ := exB_true.1 (HX1.out k hlt)
        obtain ⟨_, d0, d1⟩ := exB_true.1 (HX2.out k hlt)
        rw [HQQ.out] at c1 d1
        have m0 : 0 ≤ q * nth es k := Int.mul_nonneg a0 c0
        have m1 : q * nth es k ≤ 23 * 23 := Int.mul_le_mul (by omega) (by omega) c0 (by omega)
        have d2 : nth further k ≤ 22 := by omega
        have s0 : 0 ≤ nth further k + q * nth es k := by omega
        have s1 : nth further k + q * nth es k ≤ 600 := by omega
        obtain ⟨y, hy⟩ : ∃ y, (nth further k + q * nth es k) % qq = y := ⟨_, rfl⟩
        have HY := Lib.hid hy
        have HRE := Lib.hid (show ∀ w', Calls Tryd.prog 62 #[.int .i64 (nth further k + q * nth es k), .int .i64 qq] w' fun e w'' => e = .returned (.int .i64 y) ∧ Below w'.heap.size w' w'' from fun w' => by rw [← hy]; exact irem_l _ _ w' (by omega) (by omega) (by omega) (by omega))
        rw [← hqv] at HRE
        have HQV := Lib.hid hqv
        clear hqv
        have hll := HLN.out k
        have HK : Hid (Kp ((w.alloc (.cells #[.int .i64 1, rv, mv] 26)).alloc (.cells #[.slice none 0 0, .int .i64 0, .slice none 0 0] 44)) (w.heap.size + 2) u10 (tellsTo 1 es further q k) y none wo.drew) := Lib.hid (Kp.on (w1 := wo) ⟨hI.out.1, hI.out.2, ho.out⟩ (Below.refl _ _).drew)
        have HBY : Hid (∀ z w', Kp ((w.alloc (.cells #[.int .i64 1, rv, mv] 26)).alloc (.cells #[.slice none 0 0, .int .i64 0, .slice none 0 0] 44)) (w.heap.size + 2) u10 (tellsTo 1 es further q k) y z w' → InW ((w.alloc (.cells #[.int .i64 1, rv, mv] 26)).alloc (.cells #[.slice none 0 0, .int .i64 0, .slice none 0 0] 44)) (w.heap.size + 2) w') := Lib.hid fun z w' h => h.below
        have HGC : Hid (∀ w', InW ((w.alloc (.cells #[.int .i64 1, rv, mv] 26)).alloc (.cells #[.slice none 0 0, .int .i64 0, .slice none 0 0] 44)) (w.heap.size + 2) w' → Gr w') := Lib.hid fun w' h => HG.out.on (HBX.out _ h).2.2
        clear hc1 hc2 hI ho hy c1 d1
        go_wp2_with fail
        clear x0
        apply wp_region_H (S := fun k => k == 15 || k == 16) (C := fun z w' => Hid (Kp ((w.alloc (.cells #[.int .i64 1, rv, mv] 26)).alloc (.cells #[.slice none 0 0, .int .i64 0, .slice none 0 0] 44)) (w.heap.size + 2) u10 (tellsTo 1 es further q k) y z w')) [0, 1, 2, 3, 4, 5, 6, 7, 8, 9, 10, 11, 12, 13, 14] none
        · kernel_rfl
        · kernel_rfl
        · kernel_rfl
        · exact ⟨rfl, rfl, rfl, rfl, rfl, rfl, rfl, rfl, rfl, rfl, rfl, rfl, rfl, rfl, rfl, trivial⟩
        · rfl
        · decide
        · exact HK
        · intro z
          dsimp only [pickL, nthO]
          repeat (first | go_big_quiet_skip | (go_big_quiet_want; go_big_quiet_op; first | go_big_quiet_on | (refine ⟨_, fun _ _ => rfl, ?_⟩; go_big_quiet_on)))
          go_big_quiet_want
          go_big_quiet_op
          refine ⟨.int .i64 (nth es k), fun w' hw' => ?_, ?_⟩
          · have q := HK1.out w' (HBX.out _ (HBY.out _ _ hw'.out)).2.2
            try simp at q
            simp [go_sem, q]
          go_big_quiet_on
          repeat (first | go_big_quiet_skip | (go_big_quiet_want; go_big_quiet_op; first | go_big_quiet_on | (refine ⟨_, fun _ _ => rfl, ?_⟩; go_big_quiet_on)))
          go_big_quiet_want
          go_big_quiet_op
          refine ⟨.int .i64 1, fun w' hw' => ?_, ?_⟩
          · have q := (HBX.out _ (HBY.out _ _ hw'.out)).1.cell 0
            try simp at q
            simp [go_sem, q]
          go_big_quiet_on
          repeat (first | go_big_quiet_skip | (go_big_quiet_want; go_big_quiet_op; first | go_big_quiet_on | (refine ⟨_, fun _ _ => rfl, ?_⟩; go_big_quiet_on)))
          go_big_quiet_want
          go_big_quiet_op
          refine ⟨.int .i64 5, fun w' hw' => ?_, ?_⟩
          · have q := HGC.out _ (HBY.out _ _ hw'.out)
            have q1 := q.c4
            simp [go_sem, q1]
          go_big_quiet_on
          repeat (first | go_big_quiet_skip | (go_big_quiet_want; go_big_quiet_op; first | go_big_quiet_on | (refine ⟨_, fun _ _ => rfl, ?_⟩; go_big_quiet_on)))
          go_big_quiet_want
          go_big_quiet_op
          go_big_quiet_call ((intro hw; exact (HRE.out _).mono fun _ _ ⟨he, hb⟩ => ⟨he, Lib.hid (hw.out.on hb)⟩))
          exact wpQuiet_nil rfl
        · refine wpAnyH_special (i := 15) (d := some 53) rfl (by kernel_rfl) rfl rfl (by kernel_rfl) fun wa hc => ⟨.slice (some ⟨wa.heap.size, 0, none⟩) 1 1, wa.alloc (.cells #[.int .i64 y] 3), some (.inl wa.heap.size), .inl (by kernel_rfl), Lib.hid (Kp.build hc.out), ?_⟩
          clear hc
          refine wpAnyH_app (i := 16) (d := some 54) (v := u10) (xs := tellsTo 1 es further q k) (y := y) (B := w.heap.size + 2) (N := wa.heap.size) (.tmp 38) (.tmp 53) rfl (by kernel_rfl) rfl rfl (by kernel_rfl) rfl rfl rfl fun wb hc => ⟨hc.out.2.2.1, by omega, hc.out.2.1, hc.out.2.2.2, fun v' wc o4 g4 => ⟨some (.inr v'), Lib.hid (hc.out.app o4 g4), ?_⟩⟩
          clear hc o4 g4
          refine wpAnyH_assign (i := 17) (d := some 10) _ rfl (by kernel_rfl) rfl rfl (by kernel_rfl) rfl ?_
          refine ⟨by kernel_rfl, fun w2 hw2 => ?_⟩
          simp only [Act.put, Act.eval]
          have I2 : Hid (InW ((w.alloc (.cells #[.int .i64 1, rv, mv] 26)).alloc (.cells #[.slice none 0 0, .int .i64 0, .slice none 0 0] 44)) (w.heap.size + 2) w2) := Lib.hid (HBY.out _ _ hw2.out)
          have O2 : Hid (Own w2 (w.heap.size + 2) v' (tellsTo 1 es further q (k + 1))) := Lib.hid (by rw [HS.out, HQQ.out, HY.out]; exact hw2.out.2.2)
          clear hw2 HK HBY HGC
          go_wp2
          go_roundw
          case rel => exact ⟨k + 1, by omega, by go_num, I2, O2⟩
          case measure => simp [intOf]; omega
      · obtain rfl : k = u := by omega
        have I4 := hI
        have O4 := ho
        clear hI ho
        have p0 := (HBX.out _ I4.out).1.cell 0
        have p1 := (HBX.out _ I4.out).1.cell 1
        have p2 := (HBX.out _ I4.out).1.cell 2
        simp at p0 p1 p2
        go_wp2_with fail
        refine (irmk_any 1 rv mv _ rows makes further _ (HG.out.on (HBX.out _ I4.out).2.2) (HH.out.on (HBX.out _ I4.out).2.2) (HF.out.below (HBX.out _ I4.out).2.2)).mono ?_
        rintro e w5 ⟨sv, rfl, om, hb⟩
        rw [HRM.out] at om
        have I5 := Lib.hid (I4.out.on hb)
        have OT := Lib.hid (own_below O4.out hb)
        have OM := Lib.hid (own_mono om I4.out.2)
        have HAP := Lib.hid (show ∀ j, sv.ownBlock = some j → u10.ownBlock = some j → False from fun j h1 h2 => by have := (om.lt j h1).1; have := (O4.out.lt j h2).2; omega)
        obtain ⟨sa, sc, hsv⟩ := Own.form om
        obtain ⟨ta, tc, htv⟩ := Own.form O4.out
        rw [HLN.out] at htv
        subst hsv htv
        clear hb om O4 p0 p1 p2
        have r0 := (HBX.out _ I5.out).2.1.cell 0
        have r1 := (HBX.out _ I5.out).2.1.cell 1
        have r2 := (HBX.out _ I5.out).2.1.cell 2
        have f0 := (HBX.out _ I5.out).2.1.frozen 0
        have f1 := (HBX.out _ I5.out).2.1.frozen 1
        have f2 := (HBX.out _ I5.out).2.1.frozen 2
        simp at r0 r1 r2
        have HFF : Hid (Below w.heap.size w w5) := Lib.hid (HBX.out _ I5.out).2.2
        go_wp2
        refine bodyPost_ret (v := .tuple #[.agg #[.slice sa (mkAll 1 rows further).length sc, .int .i64 q, .slice ta k tc], .bool true]) ?_ rfl ⟨_, _, by rw [HX.out]; rfl, ?_, below_set3 HFF.out (by omega)⟩
        · simp [results, Tryd.results30, go_sem, r0, r1, r2]
        · rw [HX.out]; unfold wdL; rw [if_pos rfl, if_pos rfl, HTA.out]; exact words_fin OM.out OT.out (by omega) (by omega) HAP.out (by omega)
  · have hqv := HQQ.out
    simp [ord] at hqv
    go_enter Tryd.func30, Tryd.ntmps30
    go_wp2_with fail
    refine (isolv_any 2 rv mv _ rows makes es _ (HG.out.on (HBX.out _ I0.out).2.2) (HH.out.on (HBX.out _ I0.out).2.2) (HE.out.below (HBX.out _ I0.out).2.2)).mono ?_
    rintro e w1 ⟨rfl, hb⟩
    rw [h1]
    have I1 := Lib.hid (I0.out.on hb)
    clear hb
    have p0 := (HBX.out _ I1.out).1.cell 0
    have p1 := (HBX.out _ I1.out).1.cell 1
    have p2 := (HBX.out _ I1.out).1.cell 2
    simp at p0 p1 p2 
    go_wp2_with fail
    refine (ilot_any 2 rv mv _ rows makes further _ (HG.out.on (HBX.out _ I1.out).2.2) (HH.out.on (HBX.out _ I1.out).2.2) (HF.out.below (HBX.out _ I1.out).2.2)).mono ?_
    rintro e w2 ⟨rfl, hb⟩
    rw [h2]
    have I2 := Lib.hid (I1.out.on hb)
    clear hb p0 p1 p2
    have p0 := (HBX.out _ I2.out).1.cell 0
    have p1 := (HBX.out _ I2.out).1.cell 1
    have p2 := (HBX.out _ I2.out).1.cell 2
    simp at p0 p1 p2 
    go_wp2_with fail
    refine (iex_l 2 q _ (HG.out.on (HBX.out _ I2.out).2.2)).mono ?_
    rintro e w3 ⟨rfl, hb⟩
    rw [h3]
    have I3 := Lib.hid (I2.out.on hb)
    clear hb p0 p1 p2
    go_wp2
    go_loopw [10, 33] (fun v i wr => ∃ k : Nat, k ≤ u ∧ i = .int .i64 k ∧ Hid (InW ((w.alloc (.cells #[.int .i64 2, rv, mv] 26)).alloc (.cells #[.slice none 0 0, .int .i64 0, .slice none 0 0] 44)) (w.heap.size + 2) wr) ∧ Hid (Own wr (w.heap.size + 2) v (tellsTo 2 es further q k))) (fun _ i _ => u - (intOf i).toNat)
    case atStart => exact ⟨0, by omega, rfl, I3, Lib.hid (World.ownsRow_nil _ _ _ _)⟩
    case round =>
      obtain ⟨k, hk, rfl, hI, ho⟩ := hrel
      obtain ⟨wo, rfl⟩ : ∃ wo : World, wo = wr := ⟨_, rfl⟩
      by_cases hlt : k < u
      · obtain ⟨M1, rfl, hc1⟩ := HC1.out k hlt
        obtain ⟨M2, rfl, hc2⟩ := HC2.out k hlt
        have HK1 := Lib.hid hc1
        have x0 := hc2 _ (HBX.out _ hI.out).2.2
        have hlt1 : (k : Int) < (u : Int) := by omega
        obtain ⟨_, c0, c1⟩ := exB_true.1 (HX1.out k hlt)
        obtain ⟨_, d0, d1⟩ := exB_true.1 (HX2.out k hlt)
        rw [HQQ.out] at c1 d1
        have m0 : 0 ≤ q * nth es k := Int.mul_nonneg a0 c0
        have m1 : q * nth es k ≤ 23 * 23 := Int.mul_le_mul (by omega) (by omega) c0 (by omega)
        have d2 : nth further k ≤ 22 := by omega
        have s0 : 0 ≤ nth further k + q * nth es k := by omega
        have s1 : nth further k + q * nth es k ≤ 600 := by omega
        obtain ⟨y, hy⟩ : ∃ y, (nth further k + q * nth es k) % qq = y := ⟨_, rfl⟩
        have HY := Lib.hid hy
        have HRE := Lib.hid (show ∀ w', Calls Tryd.prog 62 #[.int .i64 (nth further k + q * nth es k), .int .i64 qq] w' fun e w'' => e = .returned (.int .i64 y) ∧ Below w'.heap.size w' w'' from fun w' => by rw [← hy]; exact irem_l _ _ w' (by omega) (by omega) (by omega) (by omega))
        rw [← hqv] at HRE
        have HQV := Lib.hid hqv
        clear hqv
        have hll := HLN.out k
        have HK : Hid (Kp ((w.alloc (.cells #[.int .i64 2, rv, mv] 26)).alloc (.cells #[.slice none 0 0, .int .i64 0, .slice none 0 0] 44)) (w.heap.size + 2) u10 (tellsTo 2 es further q k) y none wo.drew) := Lib.hid (Kp.on (w1 := wo) ⟨hI.out.1, hI.out.2, ho.out⟩ (Below.refl _ _).drew)
        have HBY : Hid (∀ z w', Kp ((w.alloc (.cells #[.int .i64 2, rv, mv] 26)).alloc (.cells #[.slice none 0 0, .int .i64 0, .slice none 0 0] 44)) (w.heap.size + 2) u10 (tellsTo 2 es further q k) y z w' → InW ((w.alloc (.cells #[.int .i64 2, rv, mv] 26)).alloc (.cells #[.slice none 0 0, .int .i64 0, .slice none 0 0] 44)) (w.heap.size + 2) w') := Lib.hid fun z w' h => h.below
        have HGC : Hid (∀ w', InW ((w.alloc (.cells #[.int .i64 2, rv, mv] 26)).alloc (.cells #[.slice none 0 0, .int .i64 0, .slice none 0 0] 44)) (w.heap.size + 2) w' → Gr w') := Lib.hid fun w' h => HG.out.on (HBX.out _ h).2.2
        clear hc1 hc2 hI ho hy c1 d1
        go_wp2_with fail
        clear x0
        apply wp_region_H (S := fun k => k == 15 || k == 16) (C := fun z w' => Hid (Kp ((w.alloc (.cells #[.int .i64 2, rv, mv] 26)).alloc (.cells #[.slice none 0 0, .int .i64 0, .slice none 0 0] 44)) (w.heap.size + 2) u10 (tellsTo 2 es further q k) y z w')) [0, 1, 2, 3, 4, 5, 6, 7, 8, 9, 10, 11, 12, 13, 14] none
        · kernel_rfl
        · kernel_rfl
        · kernel_rfl
        · exact ⟨rfl, rfl, rfl, rfl, rfl, rfl, rfl, rfl, rfl, rfl, rfl, rfl, rfl, rfl, rfl, trivial⟩
        · rfl
        · decide
        · exact HK
        · intro z
          dsimp only [pickL, nthO]
          repeat (first | go_big_quiet_skip | (go_big_quiet_want; go_big_quiet_op; first | go_big_quiet_on | (refine ⟨_, fun _ _ => rfl, ?_⟩; go_big_quiet_on)))
          go_big_quiet_want
          go_big_quiet_op
          refine ⟨.int .i64 (nth es k), fun w' hw' => ?_, ?_⟩
          · have q := HK1.out w' (HBX.out _ (HBY.out _ _ hw'.out)).2.2
            try simp at q
            simp [go_sem, q]
          go_big_quiet_on
          repeat (first | go_big_quiet_skip | (go_big_quiet_want; go_big_quiet_op; first | go_big_quiet_on | (refine ⟨_, fun _ _ => rfl, ?_⟩; go_big_quiet_on)))
          go_big_quiet_want
          go_big_quiet_op
          refine ⟨.int .i64 2, fun w' hw' => ?_, ?_⟩
          · have q := (HBX.out _ (HBY.out _ _ hw'.out)).1.cell 0
            try simp at q
            simp [go_sem, q]
          go_big_quiet_on
          repeat (first | go_big_quiet_skip | (go_big_quiet_want; go_big_quiet_op; first | go_big_quiet_on | (refine ⟨_, fun _ _ => rfl, ?_⟩; go_big_quiet_on)))
          go_big_quiet_want
          go_big_quiet_op
          refine ⟨.int .i64 11, fun w' hw' => ?_, ?_⟩
          · have q := HGC.out _ (HBY.out _ _ hw'.out)
            have q1 := q.c7
            simp [go_sem, q1]
          go_big_quiet_on
          repeat (first | go_big_quiet_skip | (go_big_quiet_want; go_big_quiet_op; first | go_big_quiet_on | (refine ⟨_, fun _ _ => rfl, ?_⟩; go_big_quiet_on)))
          go_big_quiet_want
          go_big_quiet_op
          go_big_quiet_call ((intro hw; exact (HRE.out _).mono fun _ _ ⟨he, hb⟩ => ⟨he, Lib.hid (hw.out.on hb)⟩))
          exact wpQuiet_nil rfl
        · refine wpAnyH_special (i := 15) (d := some 53) rfl (by kernel_rfl) rfl rfl (by kernel_rfl) fun wa hc => ⟨.slice (some ⟨wa.heap.size, 0, none⟩) 1 1, wa.alloc (.cells #[.int .i64 y] 3), some (.inl wa.heap.size), .inl (by kernel_rfl), Lib.hid (Kp.build hc.out), ?_⟩
          clear hc
          refine wpAnyH_app (i := 16) (d := some 54) (v := u10) (xs := tellsTo 2 es further q k) (y := y) (B := w.heap.size + 2) (N := wa.heap.size) (.tmp 38) (.tmp 53) rfl (by kernel_rfl) rfl rfl (by kernel_rfl) rfl rfl rfl fun wb hc => ⟨hc.out.2.2.1, by omega, hc.out.2.1, hc.out.2.2.2, fun v' wc o4 g4 => ⟨some (.inr v'), Lib.hid (hc.out.app o4 g4), ?_⟩⟩
          clear hc o4 g4
          refine wpAnyH_assign (i := 17) (d := some 10) _ rfl (by kernel_rfl) rfl rfl (by kernel_rfl) rfl ?_
          refine ⟨by kernel_rfl, fun w2 hw2 => ?_⟩
          simp only [Act.put, Act.eval]
          have I2 : Hid (InW ((w.alloc (.cells #[.int .i64 2, rv, mv] 26)).alloc (.cells #[.slice none 0 0, .int .i64 0, .slice none 0 0] 44)) (w.heap.size + 2) w2) := Lib.hid (HBY.out _ _ hw2.out)
          have O2 : Hid (Own w2 (w.heap.size + 2) v' (tellsTo 2 es further q (k + 1))) := Lib.hid (by rw [HS.out, HQQ.out, HY.out]; exact hw2.out.2.2)
          clear hw2 HK HBY HGC
          go_wp2
          go_roundw
          case rel => exact ⟨k + 1, by omega, by go_num, I2, O2⟩
          case measure => simp [intOf]; omega
      · obtain rfl : k = u := by omega
        have I4 := hI
        have O4 := ho
        clear hI ho
        have p0 := (HBX.out _ I4.out).1.cell 0
        have p1 := (HBX.out _ I4.out).1.cell 1
        have p2 := (HBX.out _ I4.out).1.cell 2
        simp at p0 p1 p2
        go_wp2_with fail
        refine (irmk_any 2 rv mv _ rows makes further _ (HG.out.on (HBX.out _ I4.out).2.2) (HH.out.on (HBX.out _ I4.out).2.2) (HF.out.below (HBX.out _ I4.out).2.2)).mono ?_
        rintro e w5 ⟨sv, rfl, om, hb⟩
        rw [HRM.out] at om
        have I5 := Lib.hid (I4.out.on hb)
        have OT := Lib.hid (own_below O4.out hb)
        have OM := Lib.hid (own_mono om I4.out.2)
        have HAP := Lib.hid (show ∀ j, sv.ownBlock = some j → u10.ownBlock = some j → False from fun j h1 h2 => by have := (om.lt j h1).1; have := (O4.out.lt j h2).2; omega)
        obtain ⟨sa, sc, hsv⟩ := Own.form om
        obtain ⟨ta, tc, htv⟩ := Own.form O4.out
        rw [HLN.out] at htv
        subst hsv htv
        clear hb om O4 p0 p1 p2
        have r0 := (HBX.out _ I5.out).2.1.cell 0
        have r1 := (HBX.out _ I5.out).2.1.cell 1
        have r2 := (HBX.out _ I5.out).2.1.cell 2
        have f0 := (HBX.out _ I5.out).2.1.frozen 0
        have f1 := (HBX.out _ I5.out).2.1.frozen 1
        have f2 := (HBX.out _ I5.out).2.1.frozen 2
        simp at r0 r1 r2
        have HFF : Hid (Below w.heap.size w w5) := Lib.hid (HBX.out _ I5.out).2.2
        go_wp2
        refine bodyPost_ret (v := .tuple #[.agg #[.slice sa (mkAll 2 rows further).length sc, .int .i64 q, .slice ta k tc], .bool true]) ?_ rfl ⟨_, _, by rw [HX.out]; rfl, ?_, below_set3 HFF.out (by omega)⟩
        · simp [results, Tryd.results30, go_sem, r0, r1, r2]
        · rw [HX.out]; unfold wdL; rw [if_pos rfl, if_pos rfl, HTA.out]; exact words_fin OM.out OT.out (by omega) (by omega) HAP.out (by omega)
  · have hqv := HQQ.out
    simp [ord] at hqv
    go_enter Tryd.func30, Tryd.ntmps30
    go_wp2_with fail
    refine (isolv_any 3 rv mv _ rows makes es _ (HG.out.on (HBX.out _ I0.out).2.2) (HH.out.on (HBX.out _ I0.out).2.2) (HE.out.below (HBX.out _ I0.out).2.2)).mono ?_
    rintro e w1 ⟨rfl, hb⟩
    rw [h1]
    have I1 := Lib.hid (I0.out.on hb)
    clear hb
    have p0 := (HBX.out _ I1.out).1.cell 0
    have p1 := (HBX.out _ I1.out).1.cell 1
    have p2 := (HBX.out _ I1.out).1.cell 2
    simp at p0 p1 p2 
    go_wp2_with fail
    refine (ilot_any 3 rv mv _ rows makes further _ (HG.out.on (HBX.out _ I1.out).2.2) (HH.out.on (HBX.out _ I1.out).2.2) (HF.out.below (HBX.out _ I1.out).2.2)).mono ?_
    rintro e w2 ⟨rfl, hb⟩
    rw [h2]
    have I2 := Lib.hid (I1.out.on hb)
    clear hb p0 p1 p2
    have p0 := (HBX.out _ I2.out).1.cell 0
    have p1 := (HBX.out _ I2.out).1.cell 1
    have p2 := (HBX.out _ I2.out).1.cell 2
    simp at p0 p1 p2 
    go_wp2_with fail
    refine (iex_l 3 q _ (HG.out.on (HBX.out _ I2.out).2.2)).mono ?_
    rintro e w3 ⟨rfl, hb⟩
    rw [h3]
    have I3 := Lib.hid (I2.out.on hb)
    clear hb p0 p1 p2
    go_wp2
    go_loopw [10, 33] (fun v i wr => ∃ k : Nat, k ≤ u ∧ i = .int .i64 k ∧ Hid (InW ((w.alloc (.cells #[.int .i64 3, rv, mv] 26)).alloc (.cells #[.slice none 0 0, .int .i64 0, .slice none 0 0] 44)) (w.heap.size + 2) wr) ∧ Hid (Own wr (w.heap.size + 2) v (tellsTo 3 es further q k))) (fun _ i _ => u - (intOf i).toNat)
    case atStart => exact ⟨0, by omega, rfl, I3, Lib.hid (World.ownsRow_nil _ _ _ _)⟩
    case round =>
      obtain ⟨k, hk, rfl, hI, ho⟩ := hrel
      obtain ⟨wo, rfl⟩ : ∃ wo : World, wo = wr := ⟨_, rfl⟩
      by_cases hlt : k < u
      · obtain ⟨M1, rfl, hc1⟩ := HC1.out k hlt
        obtain ⟨M2, rfl, hc2⟩ := HC2.out k hlt
        have HK1 := Lib.hid hc1
        have x0 := hc2 _ (HBX.out _ hI.out).2.2
        have hlt1 : (k : Int) < (u : Int) := by omega
        obtain ⟨_, c0, c1⟩ := exB_true.1 (HX1.out k hlt)
        obtain ⟨_, d0, d1⟩ := exB_true.1 (HX2.out k hlt)
        rw [HQQ.out] at c1 d1
        have m0 : 0 ≤ q * nth es k := Int.mul_nonneg a0 c0
        have m1 : q * nth es k ≤ 23 * 23 := Int.mul_le_mul (by omega) (by omega) c0 (by omega)
        have d2 : nth further k ≤ 22 := by omega
        have s0 : 0 ≤ nth further k + q * nth es k := by omega
        have s1 : nth further k + q * nth es k ≤ 600 := by omega
        obtain ⟨y, hy⟩ : ∃ y, (nth further k + q * nth es k) % qq = y := ⟨_, rfl⟩
        have HY := Lib.hid hy
        have HRE := Lib.hid (show ∀ w', Calls Tryd.prog 62 #[.int .i64 (nth further k + q * nth es k), .int .i64 qq] w' fun e w'' => e = .returned (.int .i64 y) ∧ Below w'.heap.size w' w'' from fun w' => by rw [← hy]; exact irem_l _ _ w' (by omega) (by omega) (by omega) (by omega))
        rw [← hqv] at HRE
        have HQV := Lib.hid hqv
        clear hqv
        have hll := HLN.out k
        have HK : Hid (Kp ((w.alloc (.cells #[.int .i64 3, rv, mv] 26)).alloc (.cells #[.slice none 0 0, .int .i64 0, .slice none 0 0] 44)) (w.heap.size + 2) u10 (tellsTo 3 es further q k) y none wo.drew) := Lib.hid (Kp.on (w1 := wo) ⟨hI.out.1, hI.out.2, ho.out⟩ (Below.refl _ _).drew)
        have HBY : Hid (∀ z w', Kp ((w.alloc (.cells #[.int .i64 3, rv, mv] 26)).alloc (.cells #[.slice none 0 0, .int .i64 0, .slice none 0 0] 44)) (w.heap.size + 2) u10 (tellsTo 3 es further q k) y z w' → InW ((w.alloc (.cells #[.int .i64 3, rv, mv] 26)).alloc (.cells #[.slice none 0 0, .int .i64 0, .slice none 0 0] 44)) (w.heap.size + 2) w') := Lib.hid fun z w' h => h.below
        have HGC : Hid (∀ w', InW ((w.alloc (.cells #[.int .i64 3, rv, mv] 26)).alloc (.cells #[.slice none 0 0, .int .i64 0, .slice none 0 0] 44)) (w.heap.size + 2) w' → Gr w') := Lib.hid fun w' h => HG.out.on (HBX.out _ h).2.2
        clear hc1 hc2 hI ho hy c1 d1
        go_wp2_with fail
        clear x0
        apply wp_region_H (S := fun k => k == 15 || k == 16) (C := fun z w' => Hid (Kp ((w.alloc (.cells #[.int .i64 3, rv, mv] 26)).alloc (.cells #[.slice none 0 0, .int .i64 0, .slice none 0 0] 44)) (w.heap.size + 2) u10 (tellsTo 3 es further q k) y z w')) [0, 1, 2, 3, 4, 5, 6, 7, 8, 9, 10, 11, 12, 13, 14] none
        · kernel_rfl
        · kernel_rfl
        · kernel_rfl
        · exact ⟨rfl, rfl, rfl, rfl, rfl, rfl, rfl, rfl, rfl, rfl, rfl, rfl, rfl, rfl, rfl, trivial⟩
        · rfl
        · decide
        · exact HK
        · intro z
          dsimp only [pickL, nthO]
          repeat (first | go_big_quiet_skip | (go_big_quiet_want; go_big_quiet_op; first | go_big_quiet_on | (refine ⟨_, fun _ _ => rfl, ?_⟩; go_big_quiet_on)))
          go_big_quiet_want
          go_big_quiet_op
          refine ⟨.int .i64 (nth es k), fun w' hw' => ?_, ?_⟩
          · have q := HK1.out w' (HBX.out _ (HBY.out _ _ hw'.out)).2.2
            try simp at q
            simp [go_sem, q]
          go_big_quiet_on
          repeat (first | go_big_quiet_skip | (go_big_quiet_want; go_big_quiet_op; first | go_big_quiet_on | (refine ⟨_, fun _ _ => rfl, ?_⟩; go_big_quiet_on)))
          go_big_quiet_want
          go_big_quiet_op
          refine ⟨.int .i64 3, fun w' hw' => ?_, ?_⟩
          · have q := (HBX.out _ (HBY.out _ _ hw'.out)).1.cell 0
            try simp at q
            simp [go_sem, q]
          go_big_quiet_on
          repeat (first | go_big_quiet_skip | (go_big_quiet_want; go_big_quiet_op; first | go_big_quiet_on | (refine ⟨_, fun _ _ => rfl, ?_⟩; go_big_quiet_on)))
          go_big_quiet_want
          go_big_quiet_op
          refine ⟨.int .i64 23, fun w' hw' => ?_, ?_⟩
          · have q := HGC.out _ (HBY.out _ _ hw'.out)
            have q1 := q.c10
            simp [go_sem, q1]
          go_big_quiet_on
          repeat (first | go_big_quiet_skip | (go_big_quiet_want; go_big_quiet_op; first | go_big_quiet_on | (refine ⟨_, fun _ _ => rfl, ?_⟩; go_big_quiet_on)))
          go_big_quiet_want
          go_big_quiet_op
          go_big_quiet_call ((intro hw; exact (HRE.out _).mono fun _ _ ⟨he, hb⟩ => ⟨he, Lib.hid (hw.out.on hb)⟩))
          exact wpQuiet_nil rfl
        · refine wpAnyH_special (i := 15) (d := some 53) rfl (by kernel_rfl) rfl rfl (by kernel_rfl) fun wa hc => ⟨.slice (some ⟨wa.heap.size, 0, none⟩) 1 1, wa.alloc (.cells #[.int .i64 y] 3), some (.inl wa.heap.size), .inl (by kernel_rfl), Lib.hid (Kp.build hc.out), ?_⟩
          clear hc
          refine wpAnyH_app (i := 16) (d := some 54) (v := u10) (xs := tellsTo 3 es further q k) (y := y) (B := w.heap.size + 2) (N := wa.heap.size) (.tmp 38) (.tmp 53) rfl (by kernel_rfl) rfl rfl (by kernel_rfl) rfl rfl rfl fun wb hc => ⟨hc.out.2.2.1, by omega, hc.out.2.1, hc.out.2.2.2, fun v' wc o4 g4 => ⟨some (.inr v'), Lib.hid (hc.out.app o4 g4), ?_⟩⟩
          clear hc o4 g4
          refine wpAnyH_assign (i := 17) (d := some 10) _ rfl (by kernel_rfl) rfl rfl (by kernel_rfl) rfl ?_
          refine ⟨by kernel_rfl, fun w2 hw2 => ?_⟩
          simp only [Act.put, Act.eval]
          have I2 : Hid (InW ((w.alloc (.cells #[.int .i64 3, rv, mv] 26)).alloc (.cells #[.slice none 0 0, .int .i64 0, .slice none 0 0] 44)) (w.heap.size + 2) w2) := Lib.hid (HBY.out _ _ hw2.out)
          have O2 : Hid (Own w2 (w.heap.size + 2) v' (tellsTo 3 es further q (k + 1))) := Lib.hid (by rw [HS.out, HQQ.out, HY.out]; exact hw2.out.2.2)
          clear hw2 HK HBY HGC
          go_wp2
          go_roundw
          case rel => exact ⟨k + 1, by omega, by go_num, I2, O2⟩
          case measure => simp [intOf]; omega
      · obtain rfl : k = u := by omega
        have I4 := hI
        have O4 := ho
        clear hI ho
        have p0 := (HBX.out _ I4.out).1.cell 0
        have p1 := (HBX.out _ I4.out).1.cell 1
        have p2 := (HBX.out _ I4.out).1.cell 2
        simp at p0 p1 p2
        go_wp2_with fail
        refine (irmk_any 3 rv mv _ rows makes further _ (HG.out.on (HBX.out _ I4.out).2.2) (HH.out.on (HBX.out _ I4.out).2.2) (HF.out.below (HBX.out _ I4.out).2.2)).mono ?_
        rintro e w5 ⟨sv, rfl, om, hb⟩
        rw [HRM.out] at om
        have I5 := Lib.hid (I4.out.on hb)
        have OT := Lib.hid (own_below O4.out hb)
        have OM := Lib.hid (own_mono om I4.out.2)
        have HAP := Lib.hid (show ∀ j, sv.ownBlock = some j → u10.ownBlock = some j → False from fun j h1 h2 => by have := (om.lt j h1).1; have := (O4.out.lt j h2).2; omega)
        obtain ⟨sa, sc, hsv⟩ := Own.form om
        obtain ⟨ta, tc, htv⟩ := Own.form O4.out
        rw [HLN.out] at htv
        subst hsv htv
        clear hb om O4 p0 p1 p2
        have r0 := (HBX.out _ I5.out).2.1.cell 0
        have r1 := (HBX.out _ I5.out).2.1.cell 1
        have r2 := (HBX.out _ I5.out).2.1.cell 2
        have f0 := (HBX.out _ I5.out).2.1.frozen 0
        have f1 := (HBX.out _ I5.out).2.1.frozen 1
        have f2 := (HBX.out _ I5.out).2.1.frozen 2
        simp at r0 r1 r2
        have HFF : Hid (Below w.heap.size w w5) := Lib.hid (HBX.out _ I5.out).2.2
        go_wp2
        refine bodyPost_ret (v := .tuple #[.agg #[.slice sa (mkAll 3 rows further).length sc, .int .i64 q, .slice ta k tc], .bool true]) ?_ rfl ⟨_, _, by rw [HX.out]; rfl, ?_, below_set3 HFF.out (by omega)⟩
        · simp [results, Tryd.results30, go_sem, r0, r1, r2]
        · rw [HX.out]; unfold wdL; rw [if_pos rfl, if_pos rfl, HTA.out]; exact words_fin OM.out OT.out (by omega) (by omega) HAP.out (by omega)
end Go.Proofs.YtkcikhjobgackabDoor
