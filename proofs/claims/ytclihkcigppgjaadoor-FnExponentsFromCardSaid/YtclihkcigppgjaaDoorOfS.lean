/- spec.WordsOf. -/
import Derived.Test.YtclihkcigppgjaaDoorMadS
namespace Go.Proofs.YtclihkcigppgjaaDoor
open Go.RowKit

set_option maxHeartbeats 6400000 in
theorem sof_any (g : Int) (rv mv : Value) (ev fv : Value) (q : Int) (rows : List (List Int)) (makes es further : List Int) (w : World) (h : Cw w rv mv rows makes) (he : Ints w ev es) (hf : Ints w fv further) :
    Calls Tryd.prog 88 #[.agg #[.int .i64 g, rv, mv], ev, fv, .int .i64 q] w fun e w' => ∃ sv tv, e = .returned (.tuple #[.agg #[sv, .int .i64 (wdQ (ofB g rows makes es further q) q), tv], .bool (ofB g rows makes es further q)]) ∧ OwnW w' w.heap.size w'.heap.size sv tv (wdL (ofB g rows makes es further q) (mkAll g rows further)) (wdL (ofB g rows makes es further q) (tellsAll g es further q)) ∧ Below w.heap.size w w' := by
  have HH := Lib.hid h
  have HE := Lib.hid he
  have HF := Lib.hid hf
  have HBX := Lib.hid (head2 w [.int .i64 g, rv, mv] [.slice none 0 0, .int .i64 0, .slice none 0 0] 26 28)
  have I0 : Hid (InW ((w.alloc (.cells #[.int .i64 g, rv, mv] 26)).alloc (.cells #[.slice none 0 0, .int .i64 0, .slice none 0 0] 28)) (w.heap.size + 2) ((w.alloc (.cells #[.int .i64 g, rv, mv] 26)).alloc (.cells #[.slice none 0 0, .int .i64 0, .slice none 0 0] 28))) := Lib.hid (InW.start (by simp) (Below.refl _ _))
  clear h he hf
  cases h1 : solvB g rows makes es
  · have HX := Lib.hid (show ofB g rows makes es further q = false by unfold ofB; rw [h1]; rfl)
    go_enter Tryd.func88, Tryd.ntmps88
    go_wp2_with fail
    refine (ssolv_any g rv mv ev rows makes es _ (HH.out.on (HBX.out _ I0.out).2.2) (HE.out.below (HBX.out _ I0.out).2.2)).mono ?_
    rintro e w1 ⟨rfl, hb⟩
    rw [h1]
    have I1 := Lib.hid (I0.out.on hb)
    clear hb
    have r0 := (HBX.out _ I1.out).2.1.cell 0
    have r1 := (HBX.out _ I1.out).2.1.cell 1
    have r2 := (HBX.out _ I1.out).2.1.cell 2
    have f0 := (HBX.out _ I1.out).2.1.frozen 0
    have f1 := (HBX.out _ I1.out).2.1.frozen 1
    have f2 := (HBX.out _ I1.out).2.1.frozen 2
    simp at r0 r1 r2
    have HFF : Hid (Below w.heap.size w w1) := Lib.hid (HBX.out _ I1.out).2.2
    go_wp2
    refine bodyPost_ret (v := .tuple #[.agg #[.slice none 0 0, .int .i64 0, .slice none 0 0], .bool false]) ?_ rfl ⟨_, _, by rw [HX.out]; rfl, ?_, ?_⟩
    · simp [results, Tryd.results88, go_sem, r0, r1, r2]
    · rw [HX.out]; exact OwnW.nil _ _ _
    · first | exact below_set3 HFF.out (by omega) | exact HFF.out
  cases h2 : lotB g rows makes further
  · have HX := Lib.hid (show ofB g rows makes es further q = false by unfold ofB; rw [h1, h2]; rfl)
    go_enter Tryd.func88, Tryd.ntmps88
    go_wp2_with fail
    refine (ssolv_any g rv mv ev rows makes es _ (HH.out.on (HBX.out _ I0.out).2.2) (HE.out.below (HBX.out _ I0.out).2.2)).mono ?_
    rintro e w1 ⟨rfl, hb⟩
    rw [h1]
    have I1 := Lib.hid (I0.out.on hb)
    clear hb
    have p0 := (HBX.out _ I1.out).1.cell 0
    have p1 := (HBX.out _ I1.out).1.cell 1
    have p2 := (HBX.out _ I1.out).1.cell 2
    simp at p0 p1 p2 
    go_wp2_with fail
    refine (sexps_any g rv mv fv rows makes further _ (HH.out.on (HBX.out _ I1.out).2.2) (HF.out.below (HBX.out _ I1.out).2.2)).mono ?_
    rintro e w2 ⟨rfl, hb⟩
    rw [h2]
    have I2 := Lib.hid (I1.out.on hb)
    clear hb p0 p1 p2
    have r0 := (HBX.out _ I2.out).2.1.cell 0
    have r1 := (HBX.out _ I2.out).2.1.cell 1
    have r2 := (HBX.out _ I2.out).2.1.cell 2
    have f0 := (HBX.out _ I2.out).2.1.frozen 0
    have f1 := (HBX.out _ I2.out).2.1.frozen 1
    have f2 := (HBX.out _ I2.out).2.1.frozen 2
    simp at r0 r1 r2
    have HFF : Hid (Below w.heap.size w w2) := Lib.hid (HBX.out _ I2.out).2.2
    go_wp2
    refine bodyPost_ret (v := .tuple #[.agg #[.slice none 0 0, .int .i64 0, .slice none 0 0], .bool false]) ?_ rfl ⟨_, _, by rw [HX.out]; rfl, ?_, ?_⟩
    · simp [results, Tryd.results88, go_sem, r0, r1, r2]
    · rw [HX.out]; exact OwnW.nil _ _ _
    · first | exact below_set3 HFF.out (by omega) | exact HFF.out
  cases h3 : exB g q
  · have HX := Lib.hid (show ofB g rows makes es further q = false by unfold ofB; rw [h1, h2, h3]; rfl)
    go_enter Tryd.func88, Tryd.ntmps88
    go_wp2_with fail
    refine (ssolv_any g rv mv ev rows makes es _ (HH.out.on (HBX.out _ I0.out).2.2) (HE.out.below (HBX.out _ I0.out).2.2)).mono ?_
    rintro e w1 ⟨rfl, hb⟩
    rw [h1]
    have I1 := Lib.hid (I0.out.on hb)
    clear hb
    have p0 := (HBX.out _ I1.out).1.cell 0
    have p1 := (HBX.out _ I1.out).1.cell 1
    have p2 := (HBX.out _ I1.out).1.cell 2
    simp at p0 p1 p2 
    go_wp2_with fail
    refine (sexps_any g rv mv fv rows makes further _ (HH.out.on (HBX.out _ I1.out).2.2) (HF.out.below (HBX.out _ I1.out).2.2)).mono ?_
    rintro e w2 ⟨rfl, hb⟩
    rw [h2]
    have I2 := Lib.hid (I1.out.on hb)
    clear hb p0 p1 p2
    have p0 := (HBX.out _ I2.out).1.cell 0
    have p1 := (HBX.out _ I2.out).1.cell 1
    have p2 := (HBX.out _ I2.out).1.cell 2
    simp at p0 p1 p2 
    go_wp2_with fail
    refine (sex_any g q _).mono ?_
    rintro e w3 ⟨rfl, hb⟩
    rw [h3]
    have I3 := Lib.hid (I2.out.on hb)
    clear hb p0 p1 p2
    have r0 := (HBX.out _ I3.out).2.1.cell 0
    have r1 := (HBX.out _ I3.out).2.1.cell 1
    have r2 := (HBX.out _ I3.out).2.1.cell 2
    have f0 := (HBX.out _ I3.out).2.1.frozen 0
    have f1 := (HBX.out _ I3.out).2.1.frozen 1
    have f2 := (HBX.out _ I3.out).2.1.frozen 2
    simp at r0 r1 r2
    have HFF : Hid (Below w.heap.size w w3) := Lib.hid (HBX.out _ I3.out).2.2
    go_wp2
    refine bodyPost_ret (v := .tuple #[.agg #[.slice none 0 0, .int .i64 0, .slice none 0 0], .bool false]) ?_ rfl ⟨_, _, by rw [HX.out]; rfl, ?_, ?_⟩
    · simp [results, Tryd.results88, go_sem, r0, r1, r2]
    · rw [HX.out]; exact OwnW.nil _ _ _
    · first | exact below_set3 HFF.out (by omega) | exact HFF.out
  have hB : ofB g rows makes es further q = true := by unfold ofB; rw [h1, h2, h3]; rfl
  have HX := Lib.hid hB
  obtain ⟨k1, k2, _⟩ := ofB_parts hB
  obtain ⟨ea, ec, ee, j1⟩ := HE.out.opened
  obtain ⟨fa, fc, ef, j2⟩ := HF.out.opened
  obtain ⟨u, hu⟩ : ∃ u, es.length = u := ⟨_, rfl⟩
  have hu' : further.length = u := by rw [← hu, k1.len, k2.len]
  have hu2 : u ≤ 2 := by rw [← hu, k1.len]; exact k1.cl.u2
  rw [hu] at ee
  rw [hu'] at ef
  have HC1 := Lib.hid (show ∀ k, k < u → ∃ M, ea = some ⟨M, 0, none⟩ ∧ ∀ w', Below w.heap.size w w' → w'.cell? ⟨M, k, none⟩ = some (.int .i64 (nth es k)) from fun k hk => by
    obtain ⟨M, e1, hl, e2⟩ := j1.get k (by rw [hu]; exact hk)
    exact ⟨M, e1, fun w' hb => (hb.cell (p := ⟨M, k, none⟩) hl).trans e2⟩)
  have HC2 := Lib.hid (show ∀ k, k < u → ∃ M, fa = some ⟨M, 0, none⟩ ∧ ∀ w', Below w.heap.size w w' → w'.cell? ⟨M, k, none⟩ = some (.int .i64 (nth further k)) from fun k hk => by
    obtain ⟨M, e1, hl, e2⟩ := j2.get k (by rw [hu']; exact hk)
    exact ⟨M, e1, fun w' hb => (hb.cell (p := ⟨M, k, none⟩) hl).trans e2⟩)
  have HX1 := Lib.hid (show ∀ k, k < u → exB g (nth es k) = true from fun k hk => allEx_at k1.ex (by rw [hu]; exact hk))
  have HX2 := Lib.hid (show ∀ k, k < u → exB g (nth further k) = true from fun k hk => allEx_at k2.ex (by rw [hu']; exact hk))
  obtain ⟨⟨g0, g4⟩, a0, a1⟩ := exB_true.1 h3
  obtain ⟨o1, o2⟩ := ord_bd g0 g4
  have a2 : q ≤ 22 := by omega
  have HS := Lib.hid (tellsTo_succ g es further q)
  have HLN := Lib.hid (tellsTo_len g es further q)
  have HTA : Hid (tellsAll g es further q = tellsTo g es further q u) := Lib.hid (by unfold tellsAll; rw [hu])
  have HML : Hid ((mkAll g rows further).length ≤ 3) := Lib.hid (by rw [mkAll_len]; exact k1.cl.r3)
  have HMK := Lib.hid k2.mkd
  obtain ⟨qq, hqq⟩ : ∃ qq, ord g = qq := ⟨_, rfl⟩
  rw [hqq] at o1 o2 a1
  have HQQ := Lib.hid hqq
  clear hB k1 k2 j1 j2 hu hu' hqq
  subst ee ef
  clear HBX I0
  have HBX := Lib.hid (head2 w [.int .i64 g, rv, mv] [.slice none 0 0, .int .i64 0, .slice none 0 0] 26 28)
  have I0 : Hid (InW ((w.alloc (.cells #[.int .i64 g, rv, mv] 26)).alloc (.cells #[.slice none 0 0, .int .i64 0, .slice none 0 0] 28)) (w.heap.size + 2) ((w.alloc (.cells #[.int .i64 g, rv, mv] 26)).alloc (.cells #[.slice none 0 0, .int .i64 0, .slice none 0 0] 28))) := Lib.hid (InW.start (by simp) (Below.refl _ _))
  go_enter Tryd.func88, Tryd.ntmps88
  go_wp2_with fail
  refine (ssolv_any g rv mv _ rows makes es _ (HH.out.on (HBX.out _ I0.out).2.2) (HE.out.below (HBX.out _ I0.out).2.2)).mono ?_
  rintro e w1 ⟨rfl, hb⟩
  rw [h1]
  have I1 := Lib.hid (I0.out.on hb)
  clear hb
  have p0 := (HBX.out _ I1.out).1.cell 0
  have p1 := (HBX.out _ I1.out).1.cell 1
  have p2 := (HBX.out _ I1.out).1.cell 2
  simp at p0 p1 p2 
  go_wp2_with fail
  refine (sexps_any g rv mv _ rows makes further _ (HH.out.on (HBX.out _ I1.out).2.2) (HF.out.below (HBX.out _ I1.out).2.2)).mono ?_
  rintro e w2 ⟨rfl, hb⟩
  rw [h2]
  have I2 := Lib.hid (I1.out.on hb)
  clear hb p0 p1 p2
  have p0 := (HBX.out _ I2.out).1.cell 0
  have p1 := (HBX.out _ I2.out).1.cell 1
  have p2 := (HBX.out _ I2.out).1.cell 2
  simp at p0 p1 p2 
  go_wp2_with fail
  refine (sex_any g q _).mono ?_
  rintro e w3 ⟨rfl, hb⟩
  rw [h3]
  have I3 := Lib.hid (I2.out.on hb)
  clear hb p0 p1 p2
  have p0 := (HBX.out _ I3.out).1.cell 0
  have p1 := (HBX.out _ I3.out).1.cell 1
  have p2 := (HBX.out _ I3.out).1.cell 2
  simp at p0 p1 p2
  go_wp2_with fail
  refine (smake_any g rv mv _ rows further _ (HH.out.on (HBX.out _ I3.out).2.2).rows (HF.out.below (HBX.out _ I3.out).2.2) HMK.out).mono ?_
  rintro e w4 ⟨sv, rfl, om, hb⟩
  obtain ⟨sa, sc, hsv⟩ := Own.form om
  subst hsv
  have I4 := Lib.hid (I3.out.on hb)
  have OM := Lib.hid om
  have HOM : Hid (w.heap.size + 2 ≤ w3.heap.size) := Lib.hid I3.out.2
  obtain ⟨sl, hsl⟩ : ∃ sl, (mkAll g rows further).length = sl := ⟨_, rfl⟩
  have HSL := Lib.hid hsl
  rw [hsl] at OM
  rw [hsl]
  clear hb om p0 p1 p2 hsl
  obtain ⟨w5, hw5⟩ : ∃ w5, w5 = w4.alloc (.cells #[.slice sa sl sc, .int .i64 q, .slice none 0 0] 28) := ⟨_, rfl⟩
  have B5 : Hid (Below w4.heap.size w4 w5) := Lib.hid (by rw [hw5]; exact below_grow _ _)
  have I5 := Lib.hid (I4.out.on B5.out)
  have BO5 : Hid (Box w5 w4.heap.size [.slice sa sl sc, .int .i64 q, .slice none 0 0]) := Lib.hid (by rw [hw5]; exact Box.made w4 _ _)
  have OM5 := Lib.hid (own_below OM.out B5.out)
  have HNO : Hid (∀ k, (Value.slice sa sl sc).ownBlock = some k → k < w4.heap.size) := Lib.hid fun k h => (OM.out.lt k h).2
  have HNB : Hid (w4.heap.size < w5.heap.size) := Lib.hid BO5.out.lt
  have HS3 : Hid (w.heap.size + 2 ≤ w4.heap.size) := Lib.hid I4.out.2
  have HF5 : Hid (Below w.heap.size w w5) := Lib.hid (HBX.out _ I5.out).2.2
  have HW5 := Lib.hid hw5
  go_wp2
  rw [← hw5]
  clear hw5
  go_loopw [11] (fun i wr => ∃ (k : Nat) (v : Value), k ≤ u ∧ i = .int .i64 k ∧ Hid (Kx w5 w5.heap.size w4.heap.size (fun x => [.slice sa sl sc, .int .i64 q, x]) v (tellsTo g es further q k) 0 none wr)) (fun i _ => u - (intOf i).toNat)
  case atStart => exact ⟨0, _, by omega, rfl, Lib.hid ⟨InX.start w5 w4.heap.size, BO5.out, World.ownsRow_nil _ _ _ _⟩⟩
  case round =>
    obtain ⟨k, v, hk, rfl, hI⟩ := hrel
    obtain ⟨wo, rfl⟩ : ∃ wo : World, wo = wr := ⟨_, rfl⟩
    by_cases hlt : k < u
    · obtain ⟨M1, rfl, hc1⟩ := HC1.out k hlt
      obtain ⟨M2, rfl, hc2⟩ := HC2.out k hlt
      have HK1 := Lib.hid hc1
      have HK2 := Lib.hid hc2
      have hlt1 : (k : Int) < (u : Int) := by omega
      obtain ⟨_, c0, c1⟩ := exB_true.1 (HX1.out k hlt)
      obtain ⟨_, d0, d1⟩ := exB_true.1 (HX2.out k hlt)
      rw [HQQ.out] at c1 d1
      have m0 : 0 ≤ q * nth es k := Int.mul_nonneg a0 c0
      have m1 : q * nth es k ≤ 23 * 23 := Int.mul_le_mul (by omega) (by omega) c0 (by omega)
      have d2 : nth further k ≤ 22 := by omega
      have s0 : 0 ≤ nth further k + q * nth es k := by omega
      have s1 : nth further k + q * nth es k ≤ 600 := by omega
      obtain ⟨y, hy⟩ : ∃ y, (nth further k + q * nth es k) % qq = y := ⟨_, rfl⟩
      have HY := Lib.hid hy
      have hqz : (qq == 0) = false := by rw [beq_eq_false_iff_ne]; omega
      have hqz2 : ¬ qq = 0 := by omega
      have etm : (nth further k + q * nth es k).tmod qq = y := by rw [Int.tmod_eq_emod_of_nonneg (by omega)]; exact hy
      have HOR := Lib.hid (show ∀ w', Calls Tryd.prog 59 #[.int .i64 g] w' fun e w'' => e = .returned (.int .i64 qq) ∧ Below w'.heap.size w' w'' from fun w' => by rw [← HQQ.out]; exact sord_any g w')
      have hll := HLN.out k
      have HCB : Hid (∀ w', InX w5 w5.heap.size w4.heap.size w' → Box w' w.heap.size [.int .i64 g, rv, mv] ∧ Below w.heap.size w w') := Lib.hid fun w' hx => by
        have s3 := HS3.out
        have s5 := HNB.out
        exact ⟨hx.box (HBX.out _ I5.out).1 (by omega) (by omega), hx.below HF5.out (by omega) (by omega)⟩
      have HK : Hid (Kx w5 w5.heap.size w4.heap.size (fun x => [.slice sa sl sc, .int .i64 q, x]) v (tellsTo g es further q k) y none wo.drew) := Lib.hid (Kx.on (w1 := wo) (z := none) (y := y) hI.out (Below.refl _ _).drew)
      clear hc1 hc2 hI c1 d1
      go_wp2_with fail
      apply wp_region_H (Z := Option (Nat ⊕ (Value ⊕ Value))) (S := fun k => k == 1 || k == 17 || k == 18 || k == 19 || k == 20) (C := fun z w' => Hid (Kx w5 w5.heap.size w4.heap.size (fun x => [.slice sa sl sc, .int .i64 q, x]) v (tellsTo g es further q k) y z w')) [0, 2, 3, 4, 5, 6, 7, 8, 9, 10, 11, 12, 13, 14, 15, 16] none
      · kernel_rfl
      · kernel_rfl
      · kernel_rfl
      · exact ⟨rfl, rfl, rfl, rfl, rfl, rfl, rfl, rfl, rfl, rfl, rfl, rfl, rfl, rfl, rfl, rfl, trivial⟩
      · rfl
      · decide
      · exact HK
      · intro z
        dsimp only [pickL, nthO]
        repeat (first | go_big_quiet_skip | (go_big_quiet_want; go_big_quiet_op; first | go_big_quiet_on | (refine ⟨_, fun _ _ => rfl, ?_⟩; go_big_quiet_on)))
        go_big_quiet_want
        go_big_quiet_op
        refine ⟨.int .i64 (nth further k), fun w' hw' => ?_, ?_⟩
        · have q := HK2.out w' (HCB.out _ hw'.out.inx).2
          try simp at q
          simp [go_sem, q]
        go_big_quiet_on
        repeat (first | go_big_quiet_skip | (go_big_quiet_want; go_big_quiet_op; first | go_big_quiet_on | (refine ⟨_, fun _ _ => rfl, ?_⟩; go_big_quiet_on)))
        go_big_quiet_want
        go_big_quiet_op
        refine ⟨.int .i64 (nth es k), fun w' hw' => ?_, ?_⟩
        · have q := HK1.out w' (HCB.out _ hw'.out.inx).2
          try simp at q
          simp [go_sem, q]
        go_big_quiet_on
        repeat (first | go_big_quiet_skip | (go_big_quiet_want; go_big_quiet_op; first | go_big_quiet_on | (refine ⟨_, fun _ _ => rfl, ?_⟩; go_big_quiet_on)))
        go_big_quiet_want
        go_big_quiet_op
        refine ⟨.int .i64 g, fun w' hw' => ?_, ?_⟩
        · have q := (HCB.out _ hw'.out.inx).1.cell 0
          try simp at q
          simp [go_sem, q]
        go_big_quiet_on
        repeat (first | go_big_quiet_skip | (go_big_quiet_want; go_big_quiet_op; first | go_big_quiet_on | (refine ⟨_, fun _ _ => rfl, ?_⟩; go_big_quiet_on)))
        go_big_quiet_want
        go_big_quiet_op
        go_big_quiet_call ((intro hw; exact (HOR.out _).mono fun _ _ ⟨he, hb⟩ => ⟨he, Lib.hid (hw.out.on hb)⟩))
        repeat (first | go_big_quiet_skip | (go_big_quiet_want; go_big_quiet_op; first | go_big_quiet_on | (refine ⟨_, fun _ _ => rfl, ?_⟩; go_big_quiet_on)))
        exact wpQuiet_nil rfl
      · refine wpAnyH_two 1 17 (by kernel_rfl) ?_ ?_
        · refine hOp_special (d := some 42) rfl rfl rfl (by kernel_rfl) fun wl hl => ⟨v, wl, none, by have q := hl.out.2.1.cell 2; simp at q; simp [go_sem, q], hl, ?_⟩
          clear hl
          refine wpAnyH_special (i := 17) (d := some 58) rfl (by kernel_rfl) rfl rfl (by kernel_rfl) fun wa hc => ⟨.slice (some ⟨wa.heap.size, 0, none⟩) 1 1, wa.alloc (.cells #[.int .i64 y] 3), some (.inl wa.heap.size), .inl (by kernel_rfl), Lib.hid (Kx.build hc.out), ?_⟩
          clear hc
          refine wpAnyH_app (i := 18) (d := some 59) (v := v) (xs := tellsTo g es further q k) (y := y) (B := w5.heap.size) (N := wa.heap.size) (.tmp 42) (.tmp 58) rfl (by kernel_rfl) rfl rfl (by kernel_rfl) rfl rfl rfl fun wb hc => ⟨hc.out.2.2.1, by omega, hc.out.1.low, hc.out.2.2.2, fun v' wc o4 g4 => ⟨some (.inr (.inl v')), Lib.hid (hc.out.app HNB.out o4 g4), ?_⟩⟩
          obtain ⟨va, vc, hv'⟩ := Own.form o4
          subst hv'
          clear hc o4 g4
          refine wpAnyH_special (i := 19) (d := some 60) rfl (by kernel_rfl) rfl rfl (by kernel_rfl) fun wd hd => ⟨.pointer (some ⟨w4.heap.size, 2, none⟩), wd, some (.inr (.inl (.slice va (tellsTo g es further q k ++ [y]).length vc))), .inl (by kernel_rfl), hd, ?_⟩
          clear hd
          refine wpAnyH_special (i := 20) (d := none) rfl (by kernel_rfl) rfl rfl (by kernel_rfl) fun we he => ?_
          have k0 := he.out.2.1.cell 2
          have f0 := he.out.2.1.frozen 2
          simp at k0
          refine ⟨undef, we.setCell ⟨w4.heap.size, 2, none⟩ (.slice va (tellsTo g es further q k ++ [y]).length vc), some (.inr (.inr (.slice va (tellsTo g es further q k ++ [y]).length vc))), .inr ⟨by simp [go_sem, Act.put, k0, f0], rfl⟩, Lib.hid (he.out.put HNB.out rfl), ?_⟩
          clear he k0 f0
          refine ⟨by kernel_rfl, fun w7 hw7 => ?_⟩
          simp only [Act.put]
          clear hy etm
          have K7 : Hid (Kx w5 w5.heap.size w4.heap.size (fun x => [.slice sa sl sc, .int .i64 q, x]) (.slice va (tellsTo g es further q k ++ [y]).length vc) (tellsTo g es further q (k + 1)) 0 none w7) := Lib.hid (by rw [HS.out, HQQ.out, HY.out]; exact ⟨hw7.out.1, hw7.out.2.1, hw7.out.2.2⟩)
          clear hw7 HK HCB
          go_wp2
          go_roundw
          case rel => exact ⟨k + 1, _, by omega, by go_num, K7⟩
          case measure => simp [intOf]; omega
        · refine hOp_special (d := some 58) rfl rfl rfl (by kernel_rfl) fun wa hc => ⟨.slice (some ⟨wa.heap.size, 0, none⟩) 1 1, wa.alloc (.cells #[.int .i64 y] 3), some (.inl wa.heap.size), by kernel_rfl, Lib.hid (Kx.build hc.out), ?_⟩
          clear hc
          refine wpAnyH_special (i := 1) (d := some 42) rfl (by kernel_rfl) rfl rfl (by kernel_rfl) fun wl hl => ⟨v, wl, some (.inl wa.heap.size), .inl (by have q := hl.out.2.1.cell 2; simp at q; simp [go_sem, q]), hl, ?_⟩
          clear hl
          refine wpAnyH_app (i := 18) (d := some 59) (v := v) (xs := tellsTo g es further q k) (y := y) (B := w5.heap.size) (N := wa.heap.size) (.tmp 42) (.tmp 58) rfl (by kernel_rfl) rfl rfl (by kernel_rfl) rfl rfl rfl fun wb hc => ⟨hc.out.2.2.1, by omega, hc.out.1.low, hc.out.2.2.2, fun v' wc o4 g4 => ⟨some (.inr (.inl v')), Lib.hid (hc.out.app HNB.out o4 g4), ?_⟩⟩
          obtain ⟨va, vc, hv'⟩ := Own.form o4
          subst hv'
          clear hc o4 g4
          refine wpAnyH_special (i := 19) (d := some 60) rfl (by kernel_rfl) rfl rfl (by kernel_rfl) fun wd hd => ⟨.pointer (some ⟨w4.heap.size, 2, none⟩), wd, some (.inr (.inl (.slice va (tellsTo g es further q k ++ [y]).length vc))), .inl (by kernel_rfl), hd, ?_⟩
          clear hd
          refine wpAnyH_special (i := 20) (d := none) rfl (by kernel_rfl) rfl rfl (by kernel_rfl) fun we he => ?_
          have k0 := he.out.2.1.cell 2
          have f0 := he.out.2.1.frozen 2
          simp at k0
          refine ⟨undef, we.setCell ⟨w4.heap.size, 2, none⟩ (.slice va (tellsTo g es further q k ++ [y]).length vc), some (.inr (.inr (.slice va (tellsTo g es further q k ++ [y]).length vc))), .inr ⟨by simp [go_sem, Act.put, k0, f0], rfl⟩, Lib.hid (he.out.put HNB.out rfl), ?_⟩
          clear he k0 f0
          refine ⟨by kernel_rfl, fun w7 hw7 => ?_⟩
          simp only [Act.put]
          clear hy etm
          have K7 : Hid (Kx w5 w5.heap.size w4.heap.size (fun x => [.slice sa sl sc, .int .i64 q, x]) (.slice va (tellsTo g es further q k ++ [y]).length vc) (tellsTo g es further q (k + 1)) 0 none w7) := Lib.hid (by rw [HS.out, HQQ.out, HY.out]; exact ⟨hw7.out.1, hw7.out.2.1, hw7.out.2.2⟩)
          clear hw7 HK HCB
          go_wp2
          go_roundw
          case rel => exact ⟨k + 1, _, by omega, by go_num, K7⟩
          case measure => simp [intOf]; omega
    · obtain rfl : k = u := by omega
      obtain ⟨va, vc, hv⟩ := Own.form hI.out.2.2
      subst hv
      have OV := Lib.hid hI.out.2.2
      have HFF : Hid (Below w.heap.size w wo) := Lib.hid (hI.out.1.below HF5.out (by have := HS3.out; omega) (by have := HS3.out; have := HNB.out; omega))
      have OMM := Lib.hid (hI.out.1.own OM5.out (Nat.le_refl _) (fun k h => by have := HNO.out k h; omega))
      have b := hI.out.2.1
      have c0 := b.cell 0
      have c1 := b.cell 1
      have c2 := b.cell 2
      simp at c0 c1 c2
      have hr : Box wo (w.heap.size + 1) [.slice none 0 0, .int .i64 0, .slice none 0 0] := hI.out.1.box (HBX.out _ I5.out).2.1 (by have := HS3.out; have := HNB.out; omega) (by have := HS3.out; omega)
      have r0 := hr.cell 0
      have r1 := hr.cell 1
      have r2 := hr.cell 2
      have f0 := hr.frozen 0
      have f1 := hr.frozen 1
      have f2 := hr.frozen 2
      simp at r0 r1 r2
      have HAP := Lib.hid (show ∀ j, (Value.slice sa sl sc).ownBlock = some j → (Value.slice va (tellsTo g es further q k).length vc).ownBlock = some j → False from fun j h1 h2 => by have := (OV.out.lt j h2).1; have := HNO.out j h1; have := HNB.out; omega)
      have HN5 : Hid (w.heap.size + 1 < w5.heap.size) := Lib.hid (by have := HS3.out; have := HNB.out; omega)
      have HN3 : Hid (w.heap.size + 1 < w3.heap.size) := Lib.hid (by have := HOM.out; omega)
      have hNo : w4.heap.size ≠ w.heap.size + 1 := by have := HS3.out; omega
      clear b hr hI
      go_wp2
      refine bodyPost_ret (v := .tuple #[.agg #[.slice sa sl sc, .int .i64 q, .slice va (tellsTo g es further q k).length vc], .bool true]) ?_ rfl ⟨_, _, by rw [HX.out]; rfl, ?_, below_set3 HFF.out (by omega)⟩
      · simp [results, Tryd.results88, go_sem, r0, r1, r2]
      · rw [HX.out]; unfold wdL; rw [if_pos rfl, if_pos rfl, HTA.out]; exact words_fin OMM.out OV.out HN3.out HN5.out HAP.out (by omega)
end Go.Proofs.YtclihkcigppgjaaDoor
