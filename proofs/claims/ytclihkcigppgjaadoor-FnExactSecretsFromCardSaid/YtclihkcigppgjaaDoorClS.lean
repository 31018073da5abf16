/- spec: ClaimOk. -/
import Derived.Test.YtclihkcigppgjaaDoorClJ
namespace Go.Proofs.YtclihkcigppgjaaDoor
open Go.RowKit

theorem l1In_is {n a b : Int} {r : Bool} (h : (decide (a ≤ n) && decide (n ≤ b)) = r) (w : World) : Calls Tryd.prog 62 #[.int .i64 n, .int .i64 a, .int .i64 b] w fun e w' => e = .returned (.bool r) ∧ w = w' := by rw [← h]; exact l1In_any n a b w
theorem sel_is {g a : Int} {r : Bool} (h : elB g a = r) (w : World) : Calls Tryd.prog 51 #[.int .i64 g, .int .i64 a] w fun e w' => e = .returned (.bool r) ∧ Below w.heap.size w w' := by rw [← h]; exact sel_any g a w
/-- What the first k rounds of spec.ClaimOk have shown. -/
structure ClTo (g : Int) (rows : List (List Int)) (makes : List Int) (k : Nat) : Prop where
  row : RowsTo g rows k
  u : 0 < k → 1 ≤ unk rows ∧ unk rows ≤ 2
  makes : ∀ j, j < k → elB g (nth makes j) = true

set_option maxHeartbeats 6400000 in
theorem sclaim_any (g : Int) (rv mv : Value) (rows : List (List Int)) (makes : List Int) (w : World) (h : Cw w rv mv rows makes) :
    Calls Tryd.prog 96 #[.agg #[.int .i64 g, rv, mv]] w fun e w' => e = .returned (.bool (clB g rows makes)) ∧ Below w.heap.size w w' := by
  obtain ⟨a, c, rfl, k1⟩ := h.rows.opened
  obtain ⟨b, d, rfl, k2⟩ := h.makes.opened
  have hm1 := k1.max
  have hm2 := k2.max
  have HC := Lib.hid (show ∀ k, k < rows.length → ∃ G x, a = some ⟨G, 0, none⟩ ∧ (∀ w', Below w.heap.size w w' → w'.cell? ⟨G, k, none⟩ = some x) ∧ ∃ ax cx, x = .slice ax (row rows k).length cx ∧ (row rows k).length ≤ maxLen ∧ ∀ j, j < (row rows k).length → ∃ X, ax = some ⟨X, 0, none⟩ ∧ ∀ w', Below w.heap.size w w' → w'.cell? ⟨X, j, none⟩ = some (.int .i64 (nth (row rows k) j)) from fun k hk => by
    obtain ⟨G, x, e1, hl, e2, e3⟩ := k1.get k hk
    obtain ⟨ax, cx, e4, e5⟩ := e3.opened
    refine ⟨G, x, e1, fun w' hb => (hb.cell (p := ⟨G, k, none⟩) hl).trans e2, ax, cx, e4, e5.max, fun j hj => ?_⟩
    obtain ⟨X, f1, f2, f3⟩ := e5.get j hj
    exact ⟨X, f1, fun w' hb => (hb.cell (p := ⟨X, j, none⟩) f2).trans f3⟩)
  have HM := Lib.hid (show ∀ k, k < makes.length → ∃ M, b = some ⟨M, 0, none⟩ ∧ ∀ w', Below w.heap.size w w' → w'.cell? ⟨M, k, none⟩ = some (.int .i64 (nth makes k)) from fun k hk => by
    obtain ⟨M, e1, hl, e2⟩ := k2.get k hk
    exact ⟨M, e1, fun w' hb => (hb.cell (p := ⟨M, k, none⟩) hl).trans e2⟩)
  obtain ⟨n, hn⟩ : ∃ n, rows.length = n := ⟨_, rfl⟩
  obtain ⟨m, hm⟩ : ∃ m, makes.length = m := ⟨_, rfl⟩
  have HN := Lib.hid (show ∀ p : Prop, (Cl g rows makes → p) → ¬ p → clB g rows makes = false from fun p h1 h2 => clB_false fun hc => h2 (h1 hc))
  have HY := Lib.hid (show 0 ≤ g → g < 4 → 1 ≤ n → n ≤ 3 → m = n → ClTo g rows makes n → clB g rows makes = true from by
    subst hn hm
    intro h1 h2 h3 h4 h5 h6
    exact clB_true.2 ⟨h1, h2, h3, h4, h5, (h6.u h3).1, (h6.u h3).2, h6.row, allEl_yes fun j hj => h6.makes j (by omega)⟩)
  have Hg := Lib.hid (show Cl g rows makes → 0 ≤ g ∧ g < 4 from fun h => ⟨h.g0, h.g4⟩)
  have H1 := Lib.hid (show Cl g rows makes → 1 ≤ n ∧ n ≤ 3 from fun h => by rw [← hn]; exact ⟨h.r1, h.r3⟩)
  have HE := Lib.hid (show Cl g rows makes → m = n from fun h => by rw [← hn, ← hm]; exact h.m)
  have HU := Lib.hid (show Cl g rows makes → 1 ≤ unk rows ∧ unk rows ≤ 2 from fun h => ⟨h.u1, h.u2⟩)
  have UR := Lib.hid (show Cl g rows makes → ∀ j, j < n → (row rows j).length = unk rows ∧ ∀ i, i < (row rows j).length → elB g (nth (row rows j) i) = true from fun h j hj => ⟨(h.row j (by rw [hn]; exact hj)).1, fun i hi => allEl_at (h.row j (by rw [hn]; exact hj)).2 hi⟩)
  have UM := Lib.hid (show Cl g rows makes → ∀ j, j < m → elB g (nth makes j) = true from fun h j hj => allEl_at h.makes (by rw [hm]; exact hj))
  rw [hn] at HC hm1 ⊢
  rw [hm] at hm2 ⊢
  rw [hm] at HM
  unfold maxLen at hm1 hm2
  clear h k1 k2 hn hm
  have B0 := Lib.hid (below_grow w (.cells #[.int .i64 g, .slice a n c, .slice b m d] 26))
  by_cases hg : 0 ≤ g ∧ g < 4
  case neg =>
    have HX := Lib.hid (HN.out _ Hg.out hg)
    have hd : (decide (0 ≤ g) && decide (g ≤ 3)) = false := by simp; omega
    go_enter Tryd.func96, Tryd.ntmps96
    go_wp2_with fail
    refine (l1In_is hd _).mono ?_
    rintro e w1 ⟨rfl, rfl⟩
    go_wp2
    go_ret
    exact ⟨by rw [HX.out]; rfl, B0.out⟩
  obtain ⟨g0, g4⟩ := hg
  have hdg : (decide (0 ≤ g) && decide (g ≤ 3)) = true := by simp; omega
  by_cases c1 : 1 ≤ n ∧ n ≤ 3
  case neg =>
    have HX := Lib.hid (HN.out _ H1.out c1)
    have hd : (decide (1 ≤ (n : Int)) && decide ((n : Int) ≤ 3)) = false := by simp; omega
    go_enter Tryd.func96, Tryd.ntmps96
    go_wp2_with fail
    refine (l1In_is hdg _).mono ?_
    rintro e w1 ⟨rfl, rfl⟩
    go_wp2_with fail
    refine (l1In_is hd _).mono ?_
    rintro e w1 ⟨rfl, rfl⟩
    go_wp2
    go_ret
    exact ⟨by rw [HX.out]; rfl, B0.out⟩
  obtain ⟨n1, n3⟩ := c1
  have hdn : (decide (1 ≤ (n : Int)) && decide ((n : Int) ≤ 3)) = true := by simp; omega
  by_cases c3 : m = n
  case neg =>
    have HX := Lib.hid (HN.out _ HE.out c3)
    have hd : ((m : Int) != (n : Int)) = true := by rw [bne_iff_ne]; omega
    go_enter Tryd.func96, Tryd.ntmps96
    go_wp2_with fail
    refine (l1In_is hdg _).mono ?_
    rintro e w1 ⟨rfl, rfl⟩
    go_wp2_with fail
    refine (l1In_is hdn _).mono ?_
    rintro e w1 ⟨rfl, rfl⟩
    go_wp2
    go_ret
    exact ⟨by rw [HX.out]; rfl, B0.out⟩
  subst c3
  have hd : ((m : Int) != (m : Int)) = false := by simp
  obtain ⟨G0, u0, rfl, hc0, a0, c0, rfl, _, _⟩ := HC.out 0 (by omega)
  obtain ⟨u, hu⟩ : ∃ u, (row rows 0).length = u := ⟨_, rfl⟩
  have HUu : Hid (unk rows = u) := Lib.hid hu
  rw [hu] at hc0
  have H0 := Lib.hid hc0
  clear hc0 hu
  go_enter Tryd.func96, Tryd.ntmps96
  go_wp2_with fail
  refine (l1In_is hdg _).mono ?_
  rintro e w1 ⟨rfl, rfl⟩
  go_wp2_with fail
  refine (l1In_is hdn _).mono ?_
  rintro e w1 ⟨rfl, rfl⟩
  go_wp2
  clear hd hdg hdn
  go_loopw [3] (fun i wr => ∃ k : Nat, k ≤ m ∧ i = .int .i64 k ∧ Hid (ClTo g rows makes k) ∧ Hid (InB w [.int .i64 g, .slice (some ⟨G0, 0, none⟩) m c, .slice b m d] 26 wr)) (fun i _ => m - (intOf i).toNat)
  case atStart => exact ⟨0, by omega, rfl, Lib.hid ⟨fun j hj => by omega, fun h => by omega, fun j hj => by omega⟩, Lib.hid (InB.start _ _ _)⟩
  case round =>
    obtain ⟨k, hk, rfl, hj, hI⟩ := hrel
    obtain ⟨wo, rfl⟩ : ∃ wo : World, wo = wr := ⟨_, rfl⟩
    have b1 := hI.out.box.cell 1
    simp at b1
    by_cases hlt : k < m
    · obtain ⟨G1, x, e1, hcx, ax, cx, rfl, hlm, hcell⟩ := HC.out k hlt
      obtain rfl : G0 = G1 := by cases e1; rfl
      obtain ⟨M, rfl, hmk⟩ := HM.out k hlt
      obtain ⟨l, hl⟩ : ∃ l, (row rows k).length = l := ⟨_, rfl⟩
      have HLL := Lib.hid hl
      rw [hl] at hcx hlm hcell
      unfold maxLen at hlm
      have HROW := Lib.hid hcx
      have HMK := Lib.hid hmk
      have HCELL := Lib.hid hcell
      have hlt1 : (k : Int) < (m : Int) := by omega
      have hm0 : (0 : Int) < (m : Int) := by omega
      have HD : Hid (InB w [.int .i64 g, .slice (some ⟨G0, 0, none⟩) m c, .slice (some ⟨M, 0, none⟩) m d] 26 wo.drew) := Lib.hid (hI.out.on (Below.refl _ _).drew)
      clear e1 hcx hmk hl hcell
      by_cases hlu : l = u
      case neg =>
        have HX := Lib.hid (HN.out _ UR.out (fun h => hlu (by rw [← HLL.out, ← HUu.out]; exact (h k hlt).1)))
        have hd : ((l : Int) != (u : Int)) = true := by rw [bne_iff_ne]; omega
        go_wp2_with fail
        refine wp_region_class (C := fun w' => Hid (InB w [.int .i64 g, .slice (some ⟨G0, 0, none⟩) m c, .slice (some ⟨M, 0, none⟩) m d] 26 w')) (by kernel_rfl) (by kernel_rfl) HD ?_
        repeat (first | go_big_quiet_skip | (go_big_quiet_want; go_big_quiet_op; first | go_big_quiet_on | (refine ⟨_, fun _ _ => rfl, ?_⟩; go_big_quiet_on)))
        go_big_quiet_want
        go_big_quiet_op
        refine ⟨.slice (some ⟨G0, 0, none⟩) m c, fun w' hw' => ?_, ?_⟩
        · have q := hw'.out.box.cell 1
          try simp at q
          simp [go_sem, q]
        go_big_quiet_on
        repeat (first | go_big_quiet_skip | (go_big_quiet_want; go_big_quiet_op; first | go_big_quiet_on | (refine ⟨_, fun _ _ => rfl, ?_⟩; go_big_quiet_on)))
        go_big_quiet_want
        go_big_quiet_op
        refine ⟨.slice ax l cx, fun w' hw' => ?_, ?_⟩
        · have q := HROW.out w' hw'.out.fin
          try simp at q
          simp [go_sem, q]
        go_big_quiet_on
        repeat (first | go_big_quiet_skip | (go_big_quiet_want; go_big_quiet_op; first | go_big_quiet_on | (refine ⟨_, fun _ _ => rfl, ?_⟩; go_big_quiet_on)))
        go_big_quiet_want
        go_big_quiet_op
        refine ⟨.slice (some ⟨G0, 0, none⟩) m c, fun w' hw' => ?_, ?_⟩
        · have q := hw'.out.box.cell 1
          try simp at q
          simp [go_sem, q]
        go_big_quiet_on
        repeat (first | go_big_quiet_skip | (go_big_quiet_want; go_big_quiet_op; first | go_big_quiet_on | (refine ⟨_, fun _ _ => rfl, ?_⟩; go_big_quiet_on)))
        go_big_quiet_want
        go_big_quiet_op
        refine ⟨.slice a0 u c0, fun w' hw' => ?_, ?_⟩
        · have q := H0.out w' hw'.out.fin
          try simp at q
          simp [go_sem, q]
        go_big_quiet_on
        repeat (first | go_big_quiet_skip | (go_big_quiet_want; go_big_quiet_op; first | go_big_quiet_on | (refine ⟨_, fun _ _ => rfl, ?_⟩; go_big_quiet_on)))
        refine wpQuiet_nil ?_
        intro w2 hw2
        clear HD hI b1
        go_wp2
        go_ret
        exact ⟨by rw [HX.out]; rfl, hw2.out.fin⟩
      subst hlu
      have hd : ((l : Int) != (l : Int)) = false := by simp
      by_cases hl12 : 1 ≤ l ∧ l ≤ 2
      case neg =>
        have HX := Lib.hid (HN.out _ HU.out (fun h => hl12 (by rw [← HUu.out]; exact h)))
        have hd1 : (decide (1 ≤ (l : Int)) && decide ((l : Int) ≤ 2)) = false := by simp; omega
        go_wp2_with fail
        refine wp_region_class (C := fun w' => Hid (InB w [.int .i64 g, .slice (some ⟨G0, 0, none⟩) m c, .slice (some ⟨M, 0, none⟩) m d] 26 w')) (by kernel_rfl) (by kernel_rfl) HD ?_
        repeat (first | go_big_quiet_skip | (go_big_quiet_want; go_big_quiet_op; first | go_big_quiet_on | (refine ⟨_, fun _ _ => rfl, ?_⟩; go_big_quiet_on)))
        go_big_quiet_want
        go_big_quiet_op
        refine ⟨.slice (some ⟨G0, 0, none⟩) m c, fun w' hw' => ?_, ?_⟩
        · have q := hw'.out.box.cell 1
          try simp at q
          simp [go_sem, q]
        go_big_quiet_on
        repeat (first | go_big_quiet_skip | (go_big_quiet_want; go_big_quiet_op; first | go_big_quiet_on | (refine ⟨_, fun _ _ => rfl, ?_⟩; go_big_quiet_on)))
        go_big_quiet_want
        go_big_quiet_op
        refine ⟨.slice ax l cx, fun w' hw' => ?_, ?_⟩
        · have q := HROW.out w' hw'.out.fin
          try simp at q
          simp [go_sem, q]
        go_big_quiet_on
        repeat (first | go_big_quiet_skip | (go_big_quiet_want; go_big_quiet_op; first | go_big_quiet_on | (refine ⟨_, fun _ _ => rfl, ?_⟩; go_big_quiet_on)))
        go_big_quiet_want
        go_big_quiet_op
        refine ⟨.slice (some ⟨G0, 0, none⟩) m c, fun w' hw' => ?_, ?_⟩
        · have q := hw'.out.box.cell 1
          try simp at q
          simp [go_sem, q]
        go_big_quiet_on
        repeat (first | go_big_quiet_skip | (go_big_quiet_want; go_big_quiet_op; first | go_big_quiet_on | (refine ⟨_, fun _ _ => rfl, ?_⟩; go_big_quiet_on)))
        go_big_quiet_want
        go_big_quiet_op
        refine ⟨.slice a0 l c0, fun w' hw' => ?_, ?_⟩
        · have q := H0.out w' hw'.out.fin
          try simp at q
          simp [go_sem, q]
        go_big_quiet_on
        repeat (first | go_big_quiet_skip | (go_big_quiet_want; go_big_quiet_op; first | go_big_quiet_on | (refine ⟨_, fun _ _ => rfl, ?_⟩; go_big_quiet_on)))
        go_big_quiet_want
        go_big_quiet_op
        refine ⟨.slice (some ⟨G0, 0, none⟩) m c, fun w' hw' => ?_, ?_⟩
        · have q := hw'.out.box.cell 1
          try simp at q
          simp [go_sem, q]
        go_big_quiet_on
        repeat (first | go_big_quiet_skip | (go_big_quiet_want; go_big_quiet_op; first | go_big_quiet_on | (refine ⟨_, fun _ _ => rfl, ?_⟩; go_big_quiet_on)))
        go_big_quiet_want
        go_big_quiet_op
        refine ⟨.slice ax l cx, fun w' hw' => ?_, ?_⟩
        · have q := HROW.out w' hw'.out.fin
          try simp at q
          simp [go_sem, q]
        go_big_quiet_on
        repeat (first | go_big_quiet_skip | (go_big_quiet_want; go_big_quiet_op; first | go_big_quiet_on | (refine ⟨_, fun _ _ => rfl, ?_⟩; go_big_quiet_on)))
        go_big_quiet_want
        go_big_quiet_op
        go_big_quiet_call ((intro hw; exact (l1In_is hd1 _).mono fun _ _ ⟨he, hb⟩ => ⟨he, by rw [← hb]; exact hw⟩))
        repeat (first | go_big_quiet_skip | (go_big_quiet_want; go_big_quiet_op; first | go_big_quiet_on | (refine ⟨_, fun _ _ => rfl, ?_⟩; go_big_quiet_on)))
        refine wpQuiet_nil ?_
        intro w2 hw2
        clear HD hI b1
        go_wp2
        go_ret
        exact ⟨by rw [HX.out]; rfl, hw2.out.fin⟩
      obtain ⟨l1, l2⟩ := hl12
      have hd1 : (decide (1 ≤ (l : Int)) && decide ((l : Int) ≤ 2)) = true := by simp; omega
      cases he1 : elB g (nth makes k)
      · have HX := Lib.hid (HN.out _ UM.out (fun h => by have := h k hlt; rw [he1] at this; cases this))
        go_wp2_with fail
        refine wp_region_class (C := fun w' => Hid (InB w [.int .i64 g, .slice (some ⟨G0, 0, none⟩) m c, .slice (some ⟨M, 0, none⟩) m d] 26 w')) (by kernel_rfl) (by kernel_rfl) HD ?_
        repeat (first | go_big_quiet_skip | (go_big_quiet_want; go_big_quiet_op; first | go_big_quiet_on | (refine ⟨_, fun _ _ => rfl, ?_⟩; go_big_quiet_on)))
        go_big_quiet_want
        go_big_quiet_op
        refine ⟨.slice (some ⟨G0, 0, none⟩) m c, fun w' hw' => ?_, ?_⟩
        · have q := hw'.out.box.cell 1
          try simp at q
          simp [go_sem, q]
        go_big_quiet_on
        repeat (first | go_big_quiet_skip | (go_big_quiet_want; go_big_quiet_op; first | go_big_quiet_on | (refine ⟨_, fun _ _ => rfl, ?_⟩; go_big_quiet_on)))
        go_big_quiet_want
        go_big_quiet_op
        refine ⟨.slice ax l cx, fun w' hw' => ?_, ?_⟩
        · have q := HROW.out w' hw'.out.fin
          try simp at q
          simp [go_sem, q]
        go_big_quiet_on
        repeat (first | go_big_quiet_skip | (go_big_quiet_want; go_big_quiet_op; first | go_big_quiet_on | (refine ⟨_, fun _ _ => rfl, ?_⟩; go_big_quiet_on)))
        go_big_quiet_want
        go_big_quiet_op
        refine ⟨.slice (some ⟨G0, 0, none⟩) m c, fun w' hw' => ?_, ?_⟩
        · have q := hw'.out.box.cell 1
          try simp at q
          simp [go_sem, q]
        go_big_quiet_on
        repeat (first | go_big_quiet_skip | (go_big_quiet_want; go_big_quiet_op; first | go_big_quiet_on | (refine ⟨_, fun _ _ => rfl, ?_⟩; go_big_quiet_on)))
        go_big_quiet_want
        go_big_quiet_op
        refine ⟨.slice a0 l c0, fun w' hw' => ?_, ?_⟩
        · have q := H0.out w' hw'.out.fin
          try simp at q
          simp [go_sem, q]
        go_big_quiet_on
        repeat (first | go_big_quiet_skip | (go_big_quiet_want; go_big_quiet_op; first | go_big_quiet_on | (refine ⟨_, fun _ _ => rfl, ?_⟩; go_big_quiet_on)))
        go_big_quiet_want
        go_big_quiet_op
        refine ⟨.slice (some ⟨G0, 0, none⟩) m c, fun w' hw' => ?_, ?_⟩
        · have q := hw'.out.box.cell 1
          try simp at q
          simp [go_sem, q]
        go_big_quiet_on
        repeat (first | go_big_quiet_skip | (go_big_quiet_want; go_big_quiet_op; first | go_big_quiet_on | (refine ⟨_, fun _ _ => rfl, ?_⟩; go_big_quiet_on)))
        go_big_quiet_want
        go_big_quiet_op
        refine ⟨.slice ax l cx, fun w' hw' => ?_, ?_⟩
        · have q := HROW.out w' hw'.out.fin
          try simp at q
          simp [go_sem, q]
        go_big_quiet_on
        repeat (first | go_big_quiet_skip | (go_big_quiet_want; go_big_quiet_op; first | go_big_quiet_on | (refine ⟨_, fun _ _ => rfl, ?_⟩; go_big_quiet_on)))
        go_big_quiet_want
        go_big_quiet_op
        go_big_quiet_call ((intro hw; exact (l1In_is hd1 _).mono fun _ _ ⟨he, hb⟩ => ⟨he, by rw [← hb]; exact hw⟩))
        repeat (first | go_big_quiet_skip | (go_big_quiet_want; go_big_quiet_op; first | go_big_quiet_on | (refine ⟨_, fun _ _ => rfl, ?_⟩; go_big_quiet_on)))
        go_big_quiet_want
        go_big_quiet_op
        refine ⟨.int .i64 g, fun w' hw' => ?_, ?_⟩
        · have q := hw'.out.box.cell 0
          try simp at q
          simp [go_sem, q]
        go_big_quiet_on
        repeat (first | go_big_quiet_skip | (go_big_quiet_want; go_big_quiet_op; first | go_big_quiet_on | (refine ⟨_, fun _ _ => rfl, ?_⟩; go_big_quiet_on)))
        go_big_quiet_want
        go_big_quiet_op
        refine ⟨.slice (some ⟨M, 0, none⟩) m d, fun w' hw' => ?_, ?_⟩
        · have q := hw'.out.box.cell 2
          try simp at q
          simp [go_sem, q]
        go_big_quiet_on
        repeat (first | go_big_quiet_skip | (go_big_quiet_want; go_big_quiet_op; first | go_big_quiet_on | (refine ⟨_, fun _ _ => rfl, ?_⟩; go_big_quiet_on)))
        go_big_quiet_want
        go_big_quiet_op
        refine ⟨.int .i64 (nth makes k), fun w' hw' => ?_, ?_⟩
        · have q := HMK.out w' hw'.out.fin
          try simp at q
          simp [go_sem, q]
        go_big_quiet_on
        repeat (first | go_big_quiet_skip | (go_big_quiet_want; go_big_quiet_op; first | go_big_quiet_on | (refine ⟨_, fun _ _ => rfl, ?_⟩; go_big_quiet_on)))
        go_big_quiet_want
        go_big_quiet_op
        go_big_quiet_call ((intro hw; exact (sel_is he1 _).mono fun _ _ ⟨he, hb⟩ => ⟨he, Lib.hid (hw.out.on hb)⟩))
        repeat (first | go_big_quiet_skip | (go_big_quiet_want; go_big_quiet_op; first | go_big_quiet_on | (refine ⟨_, fun _ _ => rfl, ?_⟩; go_big_quiet_on)))
        refine wpQuiet_nil ?_
        intro w2 hw2
        clear HD hI b1
        go_wp2
        go_ret
        exact ⟨by rw [HX.out]; rfl, hw2.out.fin⟩
      · go_wp2_with fail
        refine wp_region_class (C := fun w' => Hid (InB w [.int .i64 g, .slice (some ⟨G0, 0, none⟩) m c, .slice (some ⟨M, 0, none⟩) m d] 26 w')) (by kernel_rfl) (by kernel_rfl) HD ?_
        repeat (first | go_big_quiet_skip | (go_big_quiet_want; go_big_quiet_op; first | go_big_quiet_on | (refine ⟨_, fun _ _ => rfl, ?_⟩; go_big_quiet_on)))
        go_big_quiet_want
        go_big_quiet_op
        refine ⟨.slice (some ⟨G0, 0, none⟩) m c, fun w' hw' => ?_, ?_⟩
        · have q := hw'.out.box.cell 1
          try simp at q
          simp [go_sem, q]
        go_big_quiet_on
        repeat (first | go_big_quiet_skip | (go_big_quiet_want; go_big_quiet_op; first | go_big_quiet_on | (refine ⟨_, fun _ _ => rfl, ?_⟩; go_big_quiet_on)))
        go_big_quiet_want
        go_big_quiet_op
        refine ⟨.slice ax l cx, fun w' hw' => ?_, ?_⟩
        · have q := HROW.out w' hw'.out.fin
          try simp at q
          simp [go_sem, q]
        go_big_quiet_on
        repeat (first | go_big_quiet_skip | (go_big_quiet_want; go_big_quiet_op; first | go_big_quiet_on | (refine ⟨_, fun _ _ => rfl, ?_⟩; go_big_quiet_on)))
        go_big_quiet_want
        go_big_quiet_op
        refine ⟨.slice (some ⟨G0, 0, none⟩) m c, fun w' hw' => ?_, ?_⟩
        · have q := hw'.out.box.cell 1
          try simp at q
          simp [go_sem, q]
        go_big_quiet_on
        repeat (first | go_big_quiet_skip | (go_big_quiet_want; go_big_quiet_op; first | go_big_quiet_on | (refine ⟨_, fun _ _ => rfl, ?_⟩; go_big_quiet_on)))
        go_big_quiet_want
        go_big_quiet_op
        refine ⟨.slice a0 l c0, fun w' hw' => ?_, ?_⟩
        · have q := H0.out w' hw'.out.fin
          try simp at q
          simp [go_sem, q]
        go_big_quiet_on
        repeat (first | go_big_quiet_skip | (go_big_quiet_want; go_big_quiet_op; first | go_big_quiet_on | (refine ⟨_, fun _ _ => rfl, ?_⟩; go_big_quiet_on)))
        go_big_quiet_want
        go_big_quiet_op
        refine ⟨.slice (some ⟨G0, 0, none⟩) m c, fun w' hw' => ?_, ?_⟩
        · have q := hw'.out.box.cell 1
          try simp at q
          simp [go_sem, q]
        go_big_quiet_on
        repeat (first | go_big_quiet_skip | (go_big_quiet_want; go_big_quiet_op; first | go_big_quiet_on | (refine ⟨_, fun _ _ => rfl, ?_⟩; go_big_quiet_on)))
        go_big_quiet_want
        go_big_quiet_op
        refine ⟨.slice ax l cx, fun w' hw' => ?_, ?_⟩
        · have q := HROW.out w' hw'.out.fin
          try simp at q
          simp [go_sem, q]
        go_big_quiet_on
        repeat (first | go_big_quiet_skip | (go_big_quiet_want; go_big_quiet_op; first | go_big_quiet_on | (refine ⟨_, fun _ _ => rfl, ?_⟩; go_big_quiet_on)))
        go_big_quiet_want
        go_big_quiet_op
        go_big_quiet_call ((intro hw; exact (l1In_is hd1 _).mono fun _ _ ⟨he, hb⟩ => ⟨he, by rw [← hb]; exact hw⟩))
        repeat (first | go_big_quiet_skip | (go_big_quiet_want; go_big_quiet_op; first | go_big_quiet_on | (refine ⟨_, fun _ _ => rfl, ?_⟩; go_big_quiet_on)))
        go_big_quiet_want
        go_big_quiet_op
        refine ⟨.int .i64 g, fun w' hw' => ?_, ?_⟩
        · have q := hw'.out.box.cell 0
          try simp at q
          simp [go_sem, q]
        go_big_quiet_on
        repeat (first | go_big_quiet_skip | (go_big_quiet_want; go_big_quiet_op; first | go_big_quiet_on | (refine ⟨_, fun _ _ => rfl, ?_⟩; go_big_quiet_on)))
        go_big_quiet_want
        go_big_quiet_op
        refine ⟨.slice (some ⟨M, 0, none⟩) m d, fun w' hw' => ?_, ?_⟩
        · have q := hw'.out.box.cell 2
          try simp at q
          simp [go_sem, q]
        go_big_quiet_on
        repeat (first | go_big_quiet_skip | (go_big_quiet_want; go_big_quiet_op; first | go_big_quiet_on | (refine ⟨_, fun _ _ => rfl, ?_⟩; go_big_quiet_on)))
        go_big_quiet_want
        go_big_quiet_op
        refine ⟨.int .i64 (nth makes k), fun w' hw' => ?_, ?_⟩
        · have q := HMK.out w' hw'.out.fin
          try simp at q
          simp [go_sem, q]
        go_big_quiet_on
        repeat (first | go_big_quiet_skip | (go_big_quiet_want; go_big_quiet_op; first | go_big_quiet_on | (refine ⟨_, fun _ _ => rfl, ?_⟩; go_big_quiet_on)))
        go_big_quiet_want
        go_big_quiet_op
        go_big_quiet_call ((intro hw; exact (sel_is he1 _).mono fun _ _ ⟨he, hb⟩ => ⟨he, Lib.hid (hw.out.on hb)⟩))
        repeat (first | go_big_quiet_skip | (go_big_quiet_want; go_big_quiet_op; first | go_big_quiet_on | (refine ⟨_, fun _ _ => rfl, ?_⟩; go_big_quiet_on)))
        refine wpQuiet_nil ?_
        intro w2 hw2
        have HE1 := Lib.hid he1
        clear HD hI b1 he1 hd hd1
        have b2 := hw2.out.box.cell 1
        simp at b2
        have b3 := HROW.out _ hw2.out.fin
        go_wp2
        clear b2 b3
        go_loopw [4] (fun i wi => ∃ j : Nat, j ≤ l ∧ i = .int .i64 j ∧ Hid (∀ i, i < j → elB g (nth (row rows k) i) = true) ∧ Hid (InB w [.int .i64 g, .slice (some ⟨G0, 0, none⟩) m c, .slice (some ⟨M, 0, none⟩) m d] 26 wi)) (fun i _ => l - (intOf i).toNat)
        case atStart => exact ⟨0, by omega, rfl, Lib.hid (fun i hi => by omega), hw2⟩
        case round =>
          obtain ⟨j, hjl, rfl, hjj, hI⟩ := hrel
          obtain ⟨wi, rfl⟩ : ∃ wi : World, wi = wr := ⟨_, rfl⟩
          have b2 := hI.out.box.cell 1
          simp at b2
          have b3 := HROW.out _ hI.out.fin
          by_cases hlj : j < l
          · obtain ⟨X, rfl, hce⟩ := HCELL.out j hlj
            have HCE := Lib.hid hce
            have HD2 : Hid (InB w [.int .i64 g, .slice (some ⟨G0, 0, none⟩) m c, .slice (some ⟨M, 0, none⟩) m d] 26 wi.drew) := Lib.hid (hI.out.on (Below.refl _ _).drew)
            have hlj1 : (j : Int) < (l : Int) := by omega
            clear hce
            cases he1 : elB g (nth (row rows k) j)
            · have HX := Lib.hid (HN.out _ UR.out (fun h => by have := (h k hlt).2 j (by rw [HLL.out]; exact hlj); rw [he1] at this; cases this))
              go_wp2_with fail
              refine wp_region_class (C := fun w' => Hid (InB w [.int .i64 g, .slice (some ⟨G0, 0, none⟩) m c, .slice (some ⟨M, 0, none⟩) m d] 26 w')) (by kernel_rfl) (by kernel_rfl) HD2 ?_
              repeat (first | go_big_quiet_skip | (go_big_quiet_want; go_big_quiet_op; first | go_big_quiet_on | (refine ⟨_, fun _ _ => rfl, ?_⟩; go_big_quiet_on)))
              go_big_quiet_want
              go_big_quiet_op
              refine ⟨.int .i64 g, fun w' hw' => ?_, ?_⟩
              · have q := hw'.out.box.cell 0
                try simp at q
                simp [go_sem, q]
              go_big_quiet_on
              repeat (first | go_big_quiet_skip | (go_big_quiet_want; go_big_quiet_op; first | go_big_quiet_on | (refine ⟨_, fun _ _ => rfl, ?_⟩; go_big_quiet_on)))
              go_big_quiet_want
              go_big_quiet_op
              refine ⟨.slice (some ⟨G0, 0, none⟩) m c, fun w' hw' => ?_, ?_⟩
              · have q := hw'.out.box.cell 1
                try simp at q
                simp [go_sem, q]
              go_big_quiet_on
              repeat (first | go_big_quiet_skip | (go_big_quiet_want; go_big_quiet_op; first | go_big_quiet_on | (refine ⟨_, fun _ _ => rfl, ?_⟩; go_big_quiet_on)))
              go_big_quiet_want
              go_big_quiet_op
              refine ⟨.slice (some ⟨X, 0, none⟩) l cx, fun w' hw' => ?_, ?_⟩
              · have q := HROW.out w' hw'.out.fin
                try simp at q
                simp [go_sem, q]
              go_big_quiet_on
              repeat (first | go_big_quiet_skip | (go_big_quiet_want; go_big_quiet_op; first | go_big_quiet_on | (refine ⟨_, fun _ _ => rfl, ?_⟩; go_big_quiet_on)))
              go_big_quiet_want
              go_big_quiet_op
              refine ⟨.int .i64 (nth (row rows k) j), fun w' hw' => ?_, ?_⟩
              · have q := HCE.out w' hw'.out.fin
                try simp at q
                simp [go_sem, q]
              go_big_quiet_on
              repeat (first | go_big_quiet_skip | (go_big_quiet_want; go_big_quiet_op; first | go_big_quiet_on | (refine ⟨_, fun _ _ => rfl, ?_⟩; go_big_quiet_on)))
              go_big_quiet_want
              go_big_quiet_op
              go_big_quiet_call ((intro hw; exact (sel_is he1 _).mono fun _ _ ⟨he, hb⟩ => ⟨he, Lib.hid (hw.out.on hb)⟩))
              repeat (first | go_big_quiet_skip | (go_big_quiet_want; go_big_quiet_op; first | go_big_quiet_on | (refine ⟨_, fun _ _ => rfl, ?_⟩; go_big_quiet_on)))
              refine wpQuiet_nil ?_
              intro w3 hw3
              clear HD2 hI b2 b3 hw2
              go_wp2
              go_ret
              exact ⟨by rw [HX.out]; rfl, hw3.out.fin⟩
            · have HJ : Hid (∀ i, i < j + 1 → elB g (nth (row rows k) i) = true) := Lib.hid (fun i hi => by
                by_cases e : i < j
                · exact hjj.out i e
                · obtain rfl : i = j := by omega
                  exact he1)
              go_wp2_with fail
              refine wp_region_class (C := fun w' => Hid (InB w [.int .i64 g, .slice (some ⟨G0, 0, none⟩) m c, .slice (some ⟨M, 0, none⟩) m d] 26 w')) (by kernel_rfl) (by kernel_rfl) HD2 ?_
              repeat (first | go_big_quiet_skip | (go_big_quiet_want; go_big_quiet_op; first | go_big_quiet_on | (refine ⟨_, fun _ _ => rfl, ?_⟩; go_big_quiet_on)))
              go_big_quiet_want
              go_big_quiet_op
              refine ⟨.int .i64 g, fun w' hw' => ?_, ?_⟩
              · have q := hw'.out.box.cell 0
                try simp at q
                simp [go_sem, q]
              go_big_quiet_on
              repeat (first | go_big_quiet_skip | (go_big_quiet_want; go_big_quiet_op; first | go_big_quiet_on | (refine ⟨_, fun _ _ => rfl, ?_⟩; go_big_quiet_on)))
              go_big_quiet_want
              go_big_quiet_op
              refine ⟨.slice (some ⟨G0, 0, none⟩) m c, fun w' hw' => ?_, ?_⟩
              · have q := hw'.out.box.cell 1
                try simp at q
                simp [go_sem, q]
              go_big_quiet_on
              repeat (first | go_big_quiet_skip | (go_big_quiet_want; go_big_quiet_op; first | go_big_quiet_on | (refine ⟨_, fun _ _ => rfl, ?_⟩; go_big_quiet_on)))
              go_big_quiet_want
              go_big_quiet_op
              refine ⟨.slice (some ⟨X, 0, none⟩) l cx, fun w' hw' => ?_, ?_⟩
              · have q := HROW.out w' hw'.out.fin
                try simp at q
                simp [go_sem, q]
              go_big_quiet_on
              repeat (first | go_big_quiet_skip | (go_big_quiet_want; go_big_quiet_op; first | go_big_quiet_on | (refine ⟨_, fun _ _ => rfl, ?_⟩; go_big_quiet_on)))
              go_big_quiet_want
              go_big_quiet_op
              refine ⟨.int .i64 (nth (row rows k) j), fun w' hw' => ?_, ?_⟩
              · have q := HCE.out w' hw'.out.fin
                try simp at q
                simp [go_sem, q]
              go_big_quiet_on
              repeat (first | go_big_quiet_skip | (go_big_quiet_want; go_big_quiet_op; first | go_big_quiet_on | (refine ⟨_, fun _ _ => rfl, ?_⟩; go_big_quiet_on)))
              go_big_quiet_want
              go_big_quiet_op
              go_big_quiet_call ((intro hw; exact (sel_is he1 _).mono fun _ _ ⟨he, hb⟩ => ⟨he, Lib.hid (hw.out.on hb)⟩))
              repeat (first | go_big_quiet_skip | (go_big_quiet_want; go_big_quiet_op; first | go_big_quiet_on | (refine ⟨_, fun _ _ => rfl, ?_⟩; go_big_quiet_on)))
              refine wpQuiet_nil ?_
              intro w3 HW3
              clear HD2 hI b2 b3 he1
              go_wp2
              go_roundw
              case rel => exact ⟨j + 1, by omega, by go_num, HJ, HW3⟩
              case measure => simp [intOf]; omega
          · obtain rfl : j = l := by omega
            have HJ : Hid (ClTo g rows makes (k + 1)) := Lib.hid ⟨fun i hi => by
              by_cases e : i < k
              · exact hj.out.row i e
              · obtain rfl : i = k := by omega
                exact ⟨by rw [HLL.out, HUu.out], allEl_yes fun i' hi' => hjj.out i' (by rw [← HLL.out]; exact hi')⟩, fun _ => by rw [HUu.out]; exact ⟨l1, l2⟩, fun i hi => by
              by_cases e : i < k
              · exact hj.out.makes i e
              · obtain rfl : i = k := by omega
                exact HE1.out⟩
            clear hj
            go_wp2
            go_roundw
            case rel => exact ⟨k + 1, by omega, by go_num, HJ, hI⟩
            case measure => simp [intOf]; omega
    · obtain rfl : k = m := by omega
      have HX := Lib.hid (HY.out g0 g4 n1 n3 (by simp) hj.out)
      go_wp2
      go_ret
      exact ⟨by rw [HX.out]; rfl, hI.out.fin⟩
end Go.Proofs.YtclihkcigppgjaaDoor
