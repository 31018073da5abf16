/- spec: l3Exps, l3Make, l3Same, RowsMake, Solves. -/
import Derived.Test.YtclihkcigppgjaaDoorClS
import Derived.Test.YtclihkcigppgjaaDoorSolI
namespace Go.Proofs.YtclihkcigppgjaaDoor
open Go.RowKit

theorem sex_is {g n : Int} {r : Bool} (h : exB g n = r) (w : World) : Calls Tryd.prog 49 #[.int .i64 g, .int .i64 n] w fun e w' => e = .returned (.bool r) ∧ Below w.heap.size w w' := by rw [← h]; exact sex_any g n w

set_option maxHeartbeats 1600000 in
theorem sexps_any (g : Int) (rv mv ev : Value) (rows : List (List Int)) (makes es : List Int) (w : World) (h : Cw w rv mv rows makes) (he : Ints w ev es) :
    Calls Tryd.prog 48 #[.agg #[.int .i64 g, rv, mv], ev] w fun e w' => e = .returned (.bool (lotB g rows makes es)) ∧ Below w.heap.size w w' := by
  obtain ⟨ea, ec, rfl, k3⟩ := he.opened
  obtain ⟨n, hn⟩ : ∃ n, es.length = n := ⟨_, rfl⟩
  have hem := k3.max
  have HH := Lib.hid h
  have HC := Lib.hid (show ∀ k, k < n → ∃ M, ea = some ⟨M, 0, none⟩ ∧ ∀ w', Below w.heap.size w w' → w'.cell? ⟨M, k, none⟩ = some (.int .i64 (nth es k)) from fun k hk => by
    obtain ⟨M, e1, hl, e2⟩ := k3.get k (by rw [hn]; exact hk)
    exact ⟨M, e1, fun w' hb => (hb.cell (p := ⟨M, k, none⟩) hl).trans e2⟩)
  have HNO := Lib.hid (show ∀ k, k < n → exB g (nth es k) = false → lotB g rows makes es = false from fun k hk hx => lotB_false fun hl => by
    have := allEx_at hl.ex (show k < es.length by rw [hn]; exact hk)
    rw [hx] at this; cases this)
  have HX0 := Lib.hid (show clB g rows makes = false → lotB g rows makes es = false from fun hc => by unfold lotB; rw [hc]; rfl)
  have HX1 := Lib.hid (show n ≠ unk rows → lotB g rows makes es = false from fun hc => lotB_false fun hl => hc (by rw [← hn]; exact hl.len))
  have HX2 := Lib.hid (show clB g rows makes = true → n = unk rows → (∀ j, j < n → exB g (nth es j) = true) → lotB g rows makes es = true from fun hc hl hx => lotB_true.2 ⟨clB_true.1 hc, by rw [hn]; exact hl, allEx_yes fun j hj => hx j (by rw [← hn]; exact hj)⟩)
  rw [hn] at hem ⊢
  unfold maxLen at hem
  clear h he k3 hn
  go_enter Tryd.func48, Tryd.ntmps48
  go_wp2
  go_loopw [5] (fun i wr => ∃ k : Nat, k ≤ n ∧ i = .int .i64 k ∧ Hid (∀ j, j < k → exB g (nth es j) = true) ∧ Hid (InB w [.int .i64 g, rv, mv] 26 wr)) (fun i _ => n - (intOf i).toNat)
  case atStart => exact ⟨0, by omega, rfl, Lib.hid (fun j hj => by omega), Lib.hid (InB.start _ _ _)⟩
  case round =>
    obtain ⟨k, hk, rfl, hj, hI⟩ := hrel
    obtain ⟨wo, rfl⟩ : ∃ wo : World, wo = wr := ⟨_, rfl⟩
    by_cases hlt : k < n
    · obtain ⟨M, rfl, hce⟩ := HC.out k hlt
      have HCE := Lib.hid hce
      have HD : Hid (InB w [.int .i64 g, rv, mv] 26 wo.drew) := Lib.hid (hI.out.on (Below.refl _ _).drew)
      have hlt1 : (k : Int) < (n : Int) := by omega
      clear hce
      cases hx : exB g (nth es k)
      · have HX := Lib.hid (HNO.out k hlt hx)
        go_wp2_with fail
        refine wp_region_class (C := fun w' => Hid (InB w [.int .i64 g, rv, mv] 26 w')) (by kernel_rfl) (by kernel_rfl) HD ?_
        repeat (first | go_big_quiet_skip | (go_big_quiet_want; go_big_quiet_op; first | go_big_quiet_on | (refine ⟨_, fun _ _ => rfl, ?_⟩; go_big_quiet_on)))
        go_big_quiet_want
        go_big_quiet_op
        refine ⟨.int .i64 g, fun w' hw' => ?_, ?_⟩
        · have q := hw'.out.box.cell 0
          try simp at q
          simp [go_sem, q]
        go_big_quiet_on
        repeat (first | go_big_quiet_skip | (go_big_quiet_want; go_big_quiet_op; first | go_big_quiet_on | (refine ⟨_, fun _ _ => rfl, ?_⟩; go_big_quiet_on)))
        go_big_quiet_want
        go_big_quiet_op
        refine ⟨.int .i64 (nth es k), fun w' hw' => ?_, ?_⟩
        · have q := HCE.out w' hw'.out.fin
          try simp at q
          simp [go_sem, q]
        go_big_quiet_on
        repeat (first | go_big_quiet_skip | (go_big_quiet_want; go_big_quiet_op; first | go_big_quiet_on | (refine ⟨_, fun _ _ => rfl, ?_⟩; go_big_quiet_on)))
        go_big_quiet_want
        go_big_quiet_op
        go_big_quiet_call ((intro hw; exact (sex_is hx _).mono fun _ _ ⟨he, hb⟩ => ⟨he, Lib.hid (hw.out.on hb)⟩))
        repeat (first | go_big_quiet_skip | (go_big_quiet_want; go_big_quiet_op; first | go_big_quiet_on | (refine ⟨_, fun _ _ => rfl, ?_⟩; go_big_quiet_on)))
        refine wpQuiet_nil ?_
        intro w2 hw2
        clear HD hI
        go_wp2
        go_ret
        exact ⟨by rw [HX.out]; rfl, hw2.out.fin⟩
      · have HJ : Hid (∀ j, j < k + 1 → exB g (nth es j) = true) := Lib.hid (fun j hj' => by
          by_cases e : j < k
          · exact hj.out j e
          · obtain rfl : j = k := by omega
            exact hx)
        go_wp2_with fail
        refine wp_region_class (C := fun w' => Hid (InB w [.int .i64 g, rv, mv] 26 w')) (by kernel_rfl) (by kernel_rfl) HD ?_
        repeat (first | go_big_quiet_skip | (go_big_quiet_want; go_big_quiet_op; first | go_big_quiet_on | (refine ⟨_, fun _ _ => rfl, ?_⟩; go_big_quiet_on)))
        go_big_quiet_want
        go_big_quiet_op
        refine ⟨.int .i64 g, fun w' hw' => ?_, ?_⟩
        · have q := hw'.out.box.cell 0
          try simp at q
          simp [go_sem, q]
        go_big_quiet_on
        repeat (first | go_big_quiet_skip | (go_big_quiet_want; go_big_quiet_op; first | go_big_quiet_on | (refine ⟨_, fun _ _ => rfl, ?_⟩; go_big_quiet_on)))
        go_big_quiet_want
        go_big_quiet_op
        refine ⟨.int .i64 (nth es k), fun w' hw' => ?_, ?_⟩
        · have q := HCE.out w' hw'.out.fin
          try simp at q
          simp [go_sem, q]
        go_big_quiet_on
        repeat (first | go_big_quiet_skip | (go_big_quiet_want; go_big_quiet_op; first | go_big_quiet_on | (refine ⟨_, fun _ _ => rfl, ?_⟩; go_big_quiet_on)))
        go_big_quiet_want
        go_big_quiet_op
        go_big_quiet_call ((intro hw; exact (sex_is hx _).mono fun _ _ ⟨he, hb⟩ => ⟨he, Lib.hid (hw.out.on hb)⟩))
        repeat (first | go_big_quiet_skip | (go_big_quiet_want; go_big_quiet_op; first | go_big_quiet_on | (refine ⟨_, fun _ _ => rfl, ?_⟩; go_big_quiet_on)))
        refine wpQuiet_nil ?_
        intro w2 HW2
        clear HD hI hx
        go_wp2
        go_roundw
        case rel => exact ⟨k + 1, by omega, by go_num, HJ, HW2⟩
        case measure => simp [intOf]; omega
    · obtain rfl : k = n := by omega
      have b0 := hI.out.box.cell 0
      have b1 := hI.out.box.cell 1
      have b2 := hI.out.box.cell 2
      simp at b0 b1 b2
      cases hc : clB g rows makes
      · have HX := Lib.hid (HX0.out hc)
        go_wp2_with fail
        refine (sclaim_any g rv mv rows makes _ (HH.out.on hI.out.fin)).mono ?_
        rintro e w2 ⟨rfl, hb2⟩
        rw [hc]
        have I2 := Lib.hid (hI.out.on hb2)
        clear hb2 b0 b1 b2
        go_wp2
        go_ret
        exact ⟨by rw [HX.out]; rfl, I2.out.fin⟩
      · obtain ⟨G0, c, a0, c0, rfl, hcell⟩ := HH.out.row0 (clB_true.1 hc)
        have HCL := Lib.hid hcell
        have hr1 := (clB_true.1 hc).r1
        have hu2 := (clB_true.1 hc).u2
        clear hcell
        have HXX := Lib.hid (HX2.out hc)
        obtain ⟨u, hu⟩ : ∃ u, unk rows = u := ⟨_, rfl⟩
        rw [hu] at HCL HX1 HXX hu2
        clear hu
        by_cases hlu : k = u
        · have hq : ((k : Int) == (u : Int)) = true := by rw [hlu]; simp
          have HX := Lib.hid (HXX.out hlu hj.out)
          clear hlu
          go_wp2_with fail
          refine (sclaim_any g _ mv rows makes _ (HH.out.on hI.out.fin)).mono ?_
          rintro e w2 ⟨rfl, hb2⟩
          rw [hc]
          have I2 := Lib.hid (hI.out.on hb2)
          have d1 := I2.out.box.cell 1
          have d2 := HCL.out _ I2.out.fin
          simp at d1
          clear hb2 b0 b1 b2
          go_wp2
          go_ret
          exact ⟨by rw [HX.out]; rfl, I2.out.fin⟩
        · have hq : ((k : Int) == (u : Int)) = false := by rw [beq_eq_false_iff_ne]; omega
          have HX := Lib.hid (HX1.out hlu)
          go_wp2_with fail
          refine (sclaim_any g _ mv rows makes _ (HH.out.on hI.out.fin)).mono ?_
          rintro e w2 ⟨rfl, hb2⟩
          rw [hc]
          have I2 := Lib.hid (hI.out.on hb2)
          have d1 := I2.out.box.cell 1
          have d2 := HCL.out _ I2.out.fin
          simp at d1
          clear hb2 b0 b1 b2
          go_wp2
          go_ret
          exact ⟨by rw [HX.out]; rfl, I2.out.fin⟩

/-- What spec.l3Make is asked only of. -/
structure Mk (g : Int) (rows : List (List Int)) (es : List Int) : Prop where
  g0 : 0 ≤ g
  g4 : g < 4
  r3 : rows.length ≤ 3
  u2 : es.length ≤ 2
  row : ∀ j, j < rows.length → (row rows j).length = es.length ∧ allEl g (row rows j) = true
  ex : allEx g es = true
theorem Lot.mkd {g : Int} {rows : List (List Int)} {makes es : List Int} (h : Lot g rows makes es) : Mk g rows es :=
  ⟨h.cl.g0, h.cl.g4, h.cl.r3, by rw [h.len]; exact h.cl.u2, fun j hj => by rw [h.len]; exact h.cl.row j hj, h.ex⟩

set_option maxHeartbeats 3200000 in
theorem smake_any (g : Int) (rv mv ev : Value) (rows : List (List Int)) (es : List Int) (w : World) (h : IntSS w rv rows) (he : Ints w ev es) (hM : Mk g rows es) :
    Calls Tryd.prog 50 #[.agg #[.int .i64 g, rv, mv], ev] w fun e w' => ∃ v, e = .returned v ∧ Own w' w.heap.size v (mkAll g rows es) ∧ Below w.heap.size w w' := by
  obtain ⟨a, c, rfl, k1⟩ := h.opened
  obtain ⟨ea, ec, rfl, k3⟩ := he.opened
  obtain ⟨n, hn⟩ : ∃ n, rows.length = n := ⟨_, rfl⟩
  obtain ⟨u, hu⟩ : ∃ u, es.length = u := ⟨_, rfl⟩
  have hu2 : u ≤ 2 := by rw [← hu]; exact hM.u2
  have hn3 : n ≤ 3 := by rw [← hn]; exact hM.r3
  have HC := Lib.hid (show ∀ k, k < n → ∃ G x, a = some ⟨G, 0, none⟩ ∧ (∀ w', Below w.heap.size w w' → w'.cell? ⟨G, k, none⟩ = some x) ∧ ∃ ax cx, x = .slice ax u cx ∧ ∀ j, j < u → ∃ X, ax = some ⟨X, 0, none⟩ ∧ ∀ w', Below w.heap.size w w' → w'.cell? ⟨X, j, none⟩ = some (.int .i64 (nth (row rows k) j)) from fun k hk => by
    have hk' : k < rows.length := by rw [hn]; exact hk
    obtain ⟨G, x, e1, hl, e2, e3⟩ := k1.get k hk'
    obtain ⟨ax, cx, e4, e5⟩ := e3.opened
    rw [(hM.row k hk').1, hu] at e4
    refine ⟨G, x, e1, fun w' hb => (hb.cell (p := ⟨G, k, none⟩) hl).trans e2, ax, cx, e4, fun j hj => ?_⟩
    obtain ⟨X, f1, f2, f3⟩ := e5.get j (by rw [(hM.row k hk').1, hu]; exact hj)
    exact ⟨X, f1, fun w' hb => (hb.cell (p := ⟨X, j, none⟩) f2).trans f3⟩)
  have HE := Lib.hid (show ∀ j, j < u → ∃ X, ea = some ⟨X, 0, none⟩ ∧ ∀ w', Below w.heap.size w w' → w'.cell? ⟨X, j, none⟩ = some (.int .i64 (nth es j)) from fun j hj => by
    obtain ⟨X, f1, f2, f3⟩ := k3.get j (by rw [hu]; exact hj)
    exact ⟨X, f1, fun w' hb => (hb.cell (p := ⟨X, j, none⟩) f2).trans f3⟩)
  have HS := Lib.hid (show ∀ k, mkTo g rows es (k + 1) = mkTo g rows es k ++ [prodTo g (row rows k) es u] from fun k => by rw [mkTo_succ, hu])
  have HP := Lib.hid (show ∀ k j, k < n → j < u → prodTo g (row rows k) es (j + 1) = prodTo g (row rows k) es j * gp g (nth (row rows k) j) (nth es j) % prm g from fun k j hk hj => by
    have hk' : k < rows.length := by rw [hn]; exact hk
    have hr := hM.row k hk'
    have e1 := allEl_at hr.2 (show j < (row rows k).length by rw [hr.1, hu]; exact hj)
    have e2 := allEx_at hM.ex (show j < es.length by rw [hu]; exact hj)
    rw [prodTo_succ, gpow_ex e1 e2, tim_yes (prodTo_el hM.g0 hM.g4 hr.2 hM.ex j (by rw [hr.1, hu]; omega) (by omega)) (gp_el e1 _)])
  have HPW' := Lib.hid (show ∀ k j, k < n → j < u → ∀ w', Calls Tryd.prog 53 #[.int .i64 g, .int .i64 (nth (row rows k) j), .int .i64 (nth es j)] w' fun e w'' => e = .returned (.int .i64 (gp g (nth (row rows k) j) (nth es j))) ∧ Below w'.heap.size w' w'' from fun k j hk hj w' => by
    have hk' : k < rows.length := by rw [hn]; exact hk
    have hr := hM.row k hk'
    have e1 := elB_bound (allEl_at hr.2 (show j < (row rows k).length by rw [hr.1, hu]; exact hj))
    have e2 := ex_pow (allEx_at hM.ex (show j < es.length by rw [hu]; exact hj))
    exact spow_any g _ _ w' hM.g0 hM.g4 (by omega) (by omega) e2.1 e2.2)
  have HTM' := Lib.hid (show ∀ k j, k < n → j < u → ∀ w', Calls Tryd.prog 52 #[.int .i64 g, .int .i64 (prodTo g (row rows k) es j), .int .i64 (gp g (nth (row rows k) j) (nth es j))] w' fun e w'' => e = .returned (.int .i64 (prodTo g (row rows k) es (j + 1))) ∧ Below w'.heap.size w' w'' from fun k j hk hj w' => by
    have hk' : k < rows.length := by rw [hn]; exact hk
    have hr := hM.row k hk'
    have e0 := elB_bound (prodTo_el hM.g0 hM.g4 hr.2 hM.ex j (by rw [hr.1, hu]; omega) (by omega))
    have e1 := elB_bound (gp_el (allEl_at hr.2 (show j < (row rows k).length by rw [hr.1, hu]; exact hj)) (nth es j))
    rw [HP.out k j hk hj]
    exact stms_any g _ _ w' hM.g0 hM.g4 (by omega) (by omega) (by omega) (by omega))
  have HML := Lib.hid (show ∀ k, (mkTo g rows es k).length = k from fun k => mkTo_len _ _ _ k)
  have HA : Hid (mkAll g rows es = mkTo g rows es n) := Lib.hid (by unfold mkAll; rw [hn])
  rw [hn, hu]
  clear h he hM k3 k1 hn hu HP
  have O0 : Hid (Own ((w.alloc (.cells #[.int .i64 g, .slice a n c, mv] 26)).alloc (.cells #[] 3)) (w.heap.size + 1) (.slice (some ⟨w.heap.size + 1, 0, none⟩) 0 0) (mkTo g rows es 0)) := Lib.hid (by
    have := own_made (w.alloc (.cells #[.int .i64 g, .slice a n c, mv] 26)) 3 rfl
    rw [show mkTo g rows es 0 = [] from rfl]
    simpa using this)
  go_enter Tryd.func50, Tryd.ntmps50
  go_wp2
  go_loopw [5, 6] (fun v i wr => ∃ k : Nat, k ≤ n ∧ i = .int .i64 k ∧ Hid (Kv w [.int .i64 g, .slice a n c, mv] 26 (mkTo g rows es k) (some v) wr)) (fun _ i _ => n - (intOf i).toNat)
  case atStart => exact ⟨0, by omega, rfl, Lib.hid ⟨(InB.start w _ _).on (below_grow _ _), fun v hv => by cases hv; exact O0.out⟩⟩
  case round =>
    obtain ⟨k, hk, rfl, hI⟩ := hrel
    obtain ⟨wo, rfl⟩ : ∃ wo : World, wo = wr := ⟨_, rfl⟩
    clear O0
    have b1 := hI.out.1.box.cell 1
    simp at b1
    by_cases hlt : k < n
    · obtain ⟨G0, x, rfl, hc, ax, cx, rfl, hrow⟩ := HC.out k hlt
      have HROW' := Lib.hid hc
      have HRW := Lib.hid hrow
      have HPW'' := Lib.hid (fun j hj => HPW'.out k j hlt hj)
      have HTM'' := Lib.hid (fun j hj => HTM'.out k j hlt hj)
      clear hrow hc
      go_wp2
      clear b1
      go_loopw [7, 8] (fun x i wi => ∃ j : Nat, j ≤ u ∧ i = .int .i64 j ∧ x = .int .i64 (prodTo g (row rows k) es j) ∧ Hid (Kv w [.int .i64 g, .slice (some ⟨G0, 0, none⟩) n c, mv] 26 (mkTo g rows es k) (some u5) wi)) (fun _ i _ => u - (intOf i).toNat)
      case atStart => exact ⟨0, by omega, rfl, rfl, hI⟩
      case round =>
        obtain ⟨j, hj, rfl, rfl, hI⟩ := hrel
        obtain ⟨wi, rfl⟩ : ∃ wi : World, wi = wr := ⟨_, rfl⟩
        by_cases hjl : j < u
        · obtain ⟨X, rfl, hcx⟩ := HRW.out j hjl
          obtain ⟨Y, rfl, hce⟩ := HE.out j hjl
          have HCX := Lib.hid hcx
          have HCE := Lib.hid hce
          have HROW := Lib.hid HROW'.out
          have HPW := Lib.hid (HPW''.out j hjl)
          have HTM := Lib.hid (HTM''.out j hjl)
          have hjl1 : (j : Int) < (u : Int) := by omega
          have hlt1 : (k : Int) < (n : Int) := by omega
          have HD : Hid (Kv w [.int .i64 g, .slice (some ⟨G0, 0, none⟩) n c, mv] 26 (mkTo g rows es k) (some u5) wi.drew) := Lib.hid (hI.out.on (Below.refl _ _).drew)
          clear hcx hce
          go_wp2_with fail
          refine wp_region_class (C := fun w' => Hid (Kv w [.int .i64 g, .slice (some ⟨G0, 0, none⟩) n c, mv] 26 (mkTo g rows es k) (some u5) w')) (by kernel_rfl) (by kernel_rfl) HD ?_
          repeat (first | go_big_quiet_skip | (go_big_quiet_want; go_big_quiet_op; first | go_big_quiet_on | (refine ⟨_, fun _ _ => rfl, ?_⟩; go_big_quiet_on)))
          go_big_quiet_want
          go_big_quiet_op
          refine ⟨.int .i64 g, fun w' hw' => ?_, ?_⟩
          · have q := hw'.out.1.box.cell 0
            try simp at q
            simp [go_sem, q]
          go_big_quiet_on
          repeat (first | go_big_quiet_skip | (go_big_quiet_want; go_big_quiet_op; first | go_big_quiet_on | (refine ⟨_, fun _ _ => rfl, ?_⟩; go_big_quiet_on)))
          go_big_quiet_want
          go_big_quiet_op
          refine ⟨.int .i64 g, fun w' hw' => ?_, ?_⟩
          · have q := hw'.out.1.box.cell 0
            try simp at q
            simp [go_sem, q]
          go_big_quiet_on
          repeat (first | go_big_quiet_skip | (go_big_quiet_want; go_big_quiet_op; first | go_big_quiet_on | (refine ⟨_, fun _ _ => rfl, ?_⟩; go_big_quiet_on)))
          go_big_quiet_want
          go_big_quiet_op
          refine ⟨.slice (some ⟨G0, 0, none⟩) n c, fun w' hw' => ?_, ?_⟩
          · have q := hw'.out.1.box.cell 1
            try simp at q
            simp [go_sem, q]
          go_big_quiet_on
          repeat (first | go_big_quiet_skip | (go_big_quiet_want; go_big_quiet_op; first | go_big_quiet_on | (refine ⟨_, fun _ _ => rfl, ?_⟩; go_big_quiet_on)))
          go_big_quiet_want
          go_big_quiet_op
          refine ⟨.slice (some ⟨X, 0, none⟩) u cx, fun w' hw' => ?_, ?_⟩
          · have q := HROW.out w' hw'.out.1.fin
            try simp at q
            simp [go_sem, q]
          go_big_quiet_on
          repeat (first | go_big_quiet_skip | (go_big_quiet_want; go_big_quiet_op; first | go_big_quiet_on | (refine ⟨_, fun _ _ => rfl, ?_⟩; go_big_quiet_on)))
          go_big_quiet_want
          go_big_quiet_op
          refine ⟨.int .i64 (nth (row rows k) j), fun w' hw' => ?_, ?_⟩
          · have q := HCX.out w' hw'.out.1.fin
            try simp at q
            simp [go_sem, q]
          go_big_quiet_on
          repeat (first | go_big_quiet_skip | (go_big_quiet_want; go_big_quiet_op; first | go_big_quiet_on | (refine ⟨_, fun _ _ => rfl, ?_⟩; go_big_quiet_on)))
          go_big_quiet_want
          go_big_quiet_op
          refine ⟨.int .i64 (nth es j), fun w' hw' => ?_, ?_⟩
          · have q := HCE.out w' hw'.out.1.fin
            try simp at q
            simp [go_sem, q]
          go_big_quiet_on
          repeat (first | go_big_quiet_skip | (go_big_quiet_want; go_big_quiet_op; first | go_big_quiet_on | (refine ⟨_, fun _ _ => rfl, ?_⟩; go_big_quiet_on)))
          go_big_quiet_want
          go_big_quiet_op
          go_big_quiet_call ((intro hw; exact (HPW.out _).mono fun _ _ ⟨he, hb⟩ => ⟨he, Lib.hid (hw.out.on hb)⟩))
          repeat (first | go_big_quiet_skip | (go_big_quiet_want; go_big_quiet_op; first | go_big_quiet_on | (refine ⟨_, fun _ _ => rfl, ?_⟩; go_big_quiet_on)))
          go_big_quiet_want
          go_big_quiet_op
          go_big_quiet_call ((intro hw; exact (HTM.out _).mono fun _ _ ⟨he, hb⟩ => ⟨he, Lib.hid (hw.out.on hb)⟩))
          repeat (first | go_big_quiet_skip | (go_big_quiet_want; go_big_quiet_op; first | go_big_quiet_on | (refine ⟨_, fun _ _ => rfl, ?_⟩; go_big_quiet_on)))
          refine wpQuiet_nil ?_
          intro w2 hw2
          clear HD hI
          go_wp2
          go_roundw
          case rel => exact ⟨j + 1, by omega, by go_num, rfl, hw2⟩
          case measure => simp [intOf]; omega
        · obtain rfl : j = u := by omega
          have O1 := hI.out.2 _ rfl
          have I1 := hI.out.1
          have hll := HML.out k
          clear hI
          go_wp2_with (at_builtin; refine wpAppInt rfl _ _ rfl rfl O1 (by omega) I1.size rfl ?_)
          intro v' w4 o4 g4 _
          have K4 : Hid (Kv w [.int .i64 g, .slice (some ⟨G0, 0, none⟩) n c, mv] 26 (mkTo g rows es (k + 1)) (some v') w4) := Lib.hid ⟨I1.grown g4 fun q hq => (O1.lt q hq).1, fun v hv => by cases hv; rw [HS.out]; exact o4⟩
          clear o4 g4 O1 I1
          go_wp2
          go_roundw
          case rel => exact ⟨k + 1, by omega, by go_num, K4⟩
          case measure => simp [intOf]; omega
    · obtain rfl : k = n := by omega
      go_wp2
      go_ret
      exact ⟨_, rfl, by rw [HA.out]; exact own_mono (hI.out.2 _ rfl) (Nat.le_succ _), hI.out.1.fin⟩

theorem ssame_any (v u : Value) (xs ys : List Int) (w : World) (h : Ints w v xs) (h' : Ints w u ys) : Calls Tryd.prog 58 #[v, u] w fun e w' => e = .returned (.bool (sameB xs ys)) ∧ Below w.heap.size w w' := by
  obtain ⟨a, c, rfl, k1⟩ := h.opened
  obtain ⟨a', c', rfl, k2⟩ := h'.opened
  have m1 := k1.max
  have m2 := k2.max
  obtain ⟨n, hn⟩ : ∃ n, xs.length = n := ⟨_, rfl⟩
  obtain ⟨m, hm⟩ : ∃ m, ys.length = m := ⟨_, rfl⟩
  have HC := Lib.hid (show ∀ k, k < n → _ from fun k hk => k1.get k (by rw [hn]; exact hk))
  have HC' := Lib.hid (show ∀ k, k < m → _ from fun k hk => k2.get k (by rw [hm]; exact hk))
  have HY := Lib.hid (show n = m → SameTo xs ys n → sameB xs ys = true from fun e h => same_yes (by rw [hn, hm, e]) (by rw [hn]; exact h))
  have HL := Lib.hid (show n ≠ m → sameB xs ys = false from fun e => same_len (by rw [hn, hm]; exact e))
  rw [hn] at m1 ⊢
  rw [hm] at m2 ⊢
  unfold maxLen at m1 m2
  clear h h' k1 k2 hn hm
  go_enter Tryd.func58, Tryd.ntmps58
  go_wp2
  go_loopw [5] (fun i wr => ∃ k : Nat, k ≤ n ∧ k ≤ m ∧ i = .int .i64 k ∧ Hid (SameTo xs ys k) ∧ ∃ q, wr = w.drewN q) (fun i _ => n - (intOf i).toNat)
  case atStart => exact ⟨0, by omega, by omega, rfl, Lib.hid (SameTo.zero _ _), 0, rfl⟩
  case round =>
    obtain ⟨k, hk, hk', rfl, hs, q, rfl⟩ := hrel
    by_cases hlt : k < n
    · by_cases hlt' : k < m
      · obtain ⟨A, rfl, _, hc⟩ := HC.out k hlt
        obtain ⟨A', rfl, _, hc'⟩ := HC'.out k hlt'
        have hlt1 : (k : Int) < (n : Int) := by omega
        have hlt2 : (k : Int) < (m : Int) := by omega
        by_cases he : nth xs k = nth ys k
        · have HS := Lib.hid (hs.out.succ he)
          have hq : (nth xs k != nth ys k) = false := by simpa using he
          clear he hs
          go_wp2_with fail
          go_quiet (fail)
          go_wp2
          go_roundw
          case rel => exact ⟨k + 1, by omega, by omega, by go_num, HS, _, rfl⟩
          case measure => simp [intOf]; omega
        · have HT := Lib.hid (same_no he)
          have hq : (nth xs k != nth ys k) = true := by simpa using he
          clear he hs
          go_wp2_with fail
          go_quiet (fail)
          go_wp2
          go_ret
          exact ⟨by rw [HT.out]; rfl, below_of_drew (World.drewN_drewN _ _ _)⟩
      · obtain rfl : k = m := by omega
        have HX := Lib.hid (HL.out (by omega))
        have hq : ((n : Int) == (k : Int)) = false := by rw [beq_eq_false_iff_ne]; omega
        go_wp2
        go_ret
        exact ⟨by rw [HX.out]; rfl, below_of_drew rfl⟩
    · obtain rfl : k = n := by omega
      by_cases hkm : k = m
      · subst hkm
        have HX := Lib.hid (HY.out (by simp) hs.out)
        have hq : ((k : Int) == (k : Int)) = true := by simp
        go_wp2
        go_ret
        exact ⟨by rw [HX.out]; rfl, below_of_drew rfl⟩
      · have HX := Lib.hid (HL.out hkm)
        have hq : ((k : Int) == (m : Int)) = false := by rw [beq_eq_false_iff_ne]; omega
        go_wp2
        go_ret
        exact ⟨by rw [HX.out]; rfl, below_of_drew rfl⟩

set_option maxHeartbeats 1600000 in
theorem ssolv_any (g : Int) (rv mv ev : Value) (rows : List (List Int)) (makes es : List Int) (w : World) (h : Cw w rv mv rows makes) (he : Ints w ev es) :
    Calls Tryd.prog 110 #[.agg #[.int .i64 g, rv, mv], ev] w fun e w' => e = .returned (.bool (solvB g rows makes es)) ∧ Below w.heap.size w w' := by
  have HH := Lib.hid h
  have HE := Lib.hid he
  have I0 : Hid (Kv w [.int .i64 g, rv, mv] 26 (mkAll g rows es) none (w.alloc (.cells #[.int .i64 g, rv, mv] 26)).drew) := Lib.hid ⟨(InB.start w _ _).on (Below.refl _ _).drew, fun v hv => by cases hv⟩
  have HLOT : Hid (∀ w', InB w [.int .i64 g, rv, mv] 26 w' → Calls Tryd.prog 48 #[.agg #[.int .i64 g, rv, mv], ev] w' fun e w'' => e = .returned (.bool (lotB g rows makes es)) ∧ Below w'.heap.size w' w'') := Lib.hid fun w' hI => sexps_any g rv mv ev rows makes es w' (HH.out.on hI.fin) (HE.out.below hI.fin)
  cases hl : lotB g rows makes es
  · rw [hl] at HLOT
    have HX := Lib.hid (solv_no hl)
    clear h he
    go_enter Tryd.func110, Tryd.ntmps110
    go_wp2_with fail
    refine wp_region_class (C := fun w' => Hid (Kv w [.int .i64 g, rv, mv] 26 (mkAll g rows es) none w')) (by kernel_rfl) (by kernel_rfl) I0 ?_
    repeat (first | go_big_quiet_skip | (go_big_quiet_want; go_big_quiet_op; first | go_big_quiet_on | (refine ⟨_, fun _ _ => rfl, ?_⟩; go_big_quiet_on)))
    go_big_quiet_want
    go_big_quiet_op
    refine ⟨.agg #[.int .i64 g, rv, mv], fun w' hw' => ?_, ?_⟩
    · have q := hw'.out.1.box
      have q0 := q.cell 0; have q1 := q.cell 1; have q2 := q.cell 2
      simp at q0 q1 q2
      simp [go_sem, q0, q1, q2]
    go_big_quiet_on
    repeat (first | go_big_quiet_skip | (go_big_quiet_want; go_big_quiet_op; first | go_big_quiet_on | (refine ⟨_, fun _ _ => rfl, ?_⟩; go_big_quiet_on)))
    go_big_quiet_want
    go_big_quiet_op
    go_big_quiet_call ((intro hw; exact (HLOT.out _ hw.out.1).mono fun _ _ ⟨he, hb⟩ => ⟨he, Lib.hid (hw.out.on hb)⟩))
    repeat (first | go_big_quiet_skip | (go_big_quiet_want; go_big_quiet_op; first | go_big_quiet_on | (refine ⟨_, fun _ _ => rfl, ?_⟩; go_big_quiet_on)))
    refine wpQuiet_nil ?_
    intro w' hw'
    go_wp2
    go_ret
    exact ⟨by rw [HX.out]; rfl, hw'.out.1.fin⟩
  · rw [hl] at HLOT
    have HM := Lib.hid (show rows.length ≤ maxLen from by have := (lotB_true.1 hl).cl.r3; unfold maxLen; omega)
    have HX := Lib.hid (solv_yes hl)
    have HMK := Lib.hid (lotB_true.1 hl).mkd
    clear h he
    go_enter Tryd.func110, Tryd.ntmps110
    go_wp2_with fail
    apply wp_region_H (S := fun k => k == 6 || k == 9 || k == 10) (C := fun z w' => Hid (Kv w [.int .i64 g, rv, mv] 26 (mkAll g rows es) z w')) [0, 1, 2, 3, 4, 5, 7, 8] none
    · kernel_rfl
    · kernel_rfl
    · kernel_rfl
    · exact ⟨rfl, rfl, rfl, rfl, rfl, rfl, rfl, rfl, trivial⟩
    · rfl
    · decide
    · exact I0
    · intro z
      dsimp only [pickL, nthO]
      repeat (first | go_big_quiet_skip | (go_big_quiet_want; go_big_quiet_op; first | go_big_quiet_on | (refine ⟨_, fun _ _ => rfl, ?_⟩; go_big_quiet_on)))
      go_big_quiet_want
      go_big_quiet_op
      refine ⟨.agg #[.int .i64 g, rv, mv], fun w' hw' => ?_, ?_⟩
      · have q := hw'.out.1.box
        have q0 := q.cell 0; have q1 := q.cell 1; have q2 := q.cell 2
        simp at q0 q1 q2
        simp [go_sem, q0, q1, q2]
      go_big_quiet_on
      repeat (first | go_big_quiet_skip | (go_big_quiet_want; go_big_quiet_op; first | go_big_quiet_on | (refine ⟨_, fun _ _ => rfl, ?_⟩; go_big_quiet_on)))
      go_big_quiet_want
      go_big_quiet_op
      go_big_quiet_call ((intro hw; exact (HLOT.out _ hw.out.1).mono fun _ _ ⟨he, hb⟩ => ⟨he, Lib.hid (hw.out.on hb)⟩))
      repeat (first | go_big_quiet_skip | (go_big_quiet_want; go_big_quiet_op; first | go_big_quiet_on | (refine ⟨_, fun _ _ => rfl, ?_⟩; go_big_quiet_on)))
      go_big_quiet_want
      go_big_quiet_op
      refine ⟨.agg #[.int .i64 g, rv, mv], fun w' hw' => ?_, ?_⟩
      · have q := hw'.out.1.box
        have q0 := q.cell 0; have q1 := q.cell 1; have q2 := q.cell 2
        simp at q0 q1 q2
        simp [go_sem, q0, q1, q2]
      go_big_quiet_on
      repeat (first | go_big_quiet_skip | (go_big_quiet_want; go_big_quiet_op; first | go_big_quiet_on | (refine ⟨_, fun _ _ => rfl, ?_⟩; go_big_quiet_on)))
      go_big_quiet_want
      go_big_quiet_op
      refine ⟨mv, fun w' hw' => ?_, ?_⟩
      · have q2 := hw'.out.1.box.cell 2
        simp at q2
        simp [go_sem, q2]
      go_big_quiet_on
      exact wpQuiet_nil rfl
    · refine wpAnyH_call (i := 6) (d := some 11) 50 #[.agg #[.int .i64 g, rv, mv], ev] rfl (by kernel_rfl) rfl rfl (by kernel_rfl) (fun _ => by kernel_rfl) fun w1 hc => ?_
      have c := smake_any g rv mv ev rows es w1 (HH.out.on hc.out.1.fin).rows (HE.out.below hc.out.1.fin) HMK.out
      refine c.mono ?_
      rintro e w2 ⟨v, rfl, ho, hb⟩
      refine ⟨v, rfl, some v, Lib.hid ⟨hc.out.1.on hb, fun v' hv => by cases hv; exact own_mono ho hc.out.1.size⟩, ?_⟩
      obtain ⟨b, hbb⟩ : ∃ b, sameB (mkAll g rows es) makes = b := ⟨_, rfl⟩
      rw [hbb] at HX
      refine wpAnyH_call (i := 9) (d := some 14) 58 #[v, mv] rfl (by kernel_rfl) rfl rfl (by kernel_rfl) (fun _ => by kernel_rfl) fun w3 hc3 => ?_
      have c := ssame_any v mv (mkAll g rows es) makes w3 (Ints.of_own (hc3.out.2 v rfl) (by rw [mkAll_len]; exact HM.out)) (HH.out.makes.below hc3.out.1.fin)
      refine c.mono ?_
      rintro e w4 ⟨rfl, hb4⟩
      rw [hbb]
      refine ⟨_, rfl, some v, Lib.hid (hc3.out.on hb4), ?_⟩
      refine wpAnyH_special (i := 10) (d := some 15) rfl (by kernel_rfl) rfl rfl (by kernel_rfl) fun w5 hc5 => ⟨.bool b, w5, some v, .inl (by kernel_rfl), hc5, ?_⟩
      refine wpAnyH_assign (i := 11) (d := some 4) _ rfl (by kernel_rfl) rfl rfl (by kernel_rfl) rfl ?_
      refine ⟨by kernel_rfl, fun wz hz => ?_⟩
      simp only [Act.put, Act.eval]
      go_wp2
      go_ret
      exact ⟨by rw [HX.out]; rfl, hz.out.1.fin⟩
end Go.Proofs.YtclihkcigppgjaaDoor
