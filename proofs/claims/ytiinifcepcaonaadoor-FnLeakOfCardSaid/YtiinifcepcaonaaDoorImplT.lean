/- Contracts of impl's chapter 2: keys, talks, made up ones, secrets, how many. -/
import Derived.Test.YtiinifcepcaonaaDoorBTalk
import Derived.Test.YtiinifcepcaonaaDoorBWalk
import Derived.Test.YtiinifcepcaonaaDoorBPure
namespace Go.Proofs.YtiinifcepcaonaaDoor
open Go.RowKit

theorem iel_b (g a : Int) (w : World) (G : Gr w) : Calls Tryd.prog 32 #[.int .i64 g, .int .i64 a] w fun e w' => e = .returned (.bool (elB g a)) ∧ Below w.heap.size w w' := (iel_any g a w G).mono fun _ _ ⟨he, m, hw⟩ => ⟨he, by rw [hw]; exact below_drewN (Below.refl _ _) m⟩
theorem iex_b (g n : Int) (w : World) (G : Gr w) : Calls Tryd.prog 56 #[.int .i64 g, .int .i64 n] w fun e w' => e = .returned (.bool (exB g n)) ∧ Below w.heap.size w w' := (iex_any g n w G).mono fun _ _ ⟨he, hw⟩ => ⟨he, by rw [← hw]; exact Below.refl _ _⟩
theorem ipow_b (g a n : Int) (w : World) (G : Gr w) : Calls Tryd.prog 57 #[.int .i64 g, .int .i64 a, .int .i64 n] w fun e w' => e = .returned (.int .i64 (gpow g a n)) ∧ Below w.heap.size w w' := (ipow_any g a n w G).mono fun _ _ ⟨he, m, hw⟩ => ⟨he, by rw [hw]; exact below_drewN (Below.refl _ _) m⟩
theorem itim_b (g a b : Int) (w : World) (G : Gr w) : Calls Tryd.prog 71 #[.int .i64 g, .int .i64 a, .int .i64 b] w fun e w' => e = .returned (.int .i64 (tim g a b)) ∧ Below w.heap.size w w' := (itim_any g a b w G).mono fun _ _ ⟨he, m, hw⟩ => ⟨he, by rw [hw]; exact below_drewN (Below.refl _ _) m⟩
theorem irem_b (n q : Int) (w : World) (h1 : -9999 ≤ n) (h2 : n ≤ 9999) (q1 : 1 ≤ q) (q2 : q ≤ 100) : Calls Tryd.prog 72 #[.int .i64 n, .int .i64 q] w fun e w' => e = .returned (.int .i64 (n % q)) ∧ Below w.heap.size w w' := (irem_any n q w h1 h2 q1 q2).mono fun _ _ ⟨he, hw⟩ => ⟨he, by rw [← hw]; exact Below.refl _ _⟩
theorem iback_b (g n : Int) (w : World) (G : Gr w) : Calls Tryd.prog 83 #[.int .i64 g, .int .i64 n] w fun e w' => e = .returned (.int .i64 (gback g n)) ∧ Below w.heap.size w w' := (iback_any g n w G).mono fun _ _ ⟨he, hw⟩ => ⟨he, by rw [← hw]; exact Below.refl _ _⟩

theorem key_pow {g s : Int} (h : exB g s = true) : keyOf g s = gpow g (bas g) s := by
  obtain ⟨⟨h0, h4⟩, n0, n1⟩ := exB_true.1 h
  obtain ⟨o1, o2⟩ := ord_bd h0 h4
  rw [key_yes h, gpow_yes (bas_el h0 h4) (by omega) (by omega)]; rfl

theorem ikey_any (g s : Int) (w : World) (G : Gr w) : Calls Tryd.prog 35 #[.int .i64 g, .int .i64 s] w fun e w' => e = .returned (.int .i64 (keyOf g s)) ∧ Below w.heap.size w w' := by
  cases hx : exB g s
  · have HX := Lib.hid (key_no hx)
    go_enter Tryd.func35, Tryd.ntmps35
    go_wp2_with fail
    refine (iex_b _ _ _ G).mono ?_
    rintro e w1 ⟨rfl, hb1⟩
    go_wp2
    go_ret
    exact ⟨by rw [HX.out]; rfl, hb1⟩
  · have HX := Lib.hid (key_pow hx)
    obtain ⟨⟨h0, h4⟩, _⟩ := exB_true.1 hx
    rcases g_cases h0 h4 with rfl | rfl | rfl | rfl <;> clear h0 h4
    all_goals
      go_enter Tryd.func35, Tryd.ntmps35
      go_wp2_with fail
      refine (iex_b _ _ _ G).mono ?_
      rintro e w1 ⟨rfl, hb1⟩
      obtain ⟨e0, e1, e2, e3, e4, e5, e6, e7, e8, e9, e10, e11⟩ := G.on hb1
      go_wp2_with fail
      refine (ipow_b _ _ _ _ (G.on hb1)).mono ?_
      rintro e w2 ⟨rfl, hb2⟩
      go_wp2
      go_ret
      exact ⟨by rw [HX.out]; rfl, Below.on hb1 hb2⟩

theorem imade_no (g key ask tell : Int) (w : World) (G : Gr w) (h : ¬ (elB g key = true ∧ exB g ask = true ∧ exB g tell = true)) :
    Calls Tryd.prog 54 #[.int .i64 g, .int .i64 key, .int .i64 ask, .int .i64 tell] w fun e w' => e = .returned (.tuple #[.agg #[.int .i64 0, .int .i64 0, .int .i64 0], .bool false]) ∧ Below w.heap.size w w' := by
  have HB0 := Lib.hid (Below.refl (w.heap.size + 1) (w.alloc (.cells #[.int .i64 0, .int .i64 0, .int .i64 0] 45)))
  cases h1 : elB g key
  · clear h
    go_enter Tryd.func54, Tryd.ntmps54
    go_wp2_with fail
    refine (iel_b _ _ _ (G.on (box_end HB0.out))).mono ?_
    rintro e w1 ⟨rfl, hb⟩
    have HB1 := Lib.hid (box_on HB0.out hb); clear hb
    obtain ⟨⟨c0, c1, c2⟩, k0, k1, k2, hz1⟩ := box3 HB1.out
    go_wp2
    refine bodyPost_ret (v := .tuple #[.agg #[.int .i64 0, .int .i64 0, .int .i64 0], .bool false]) ?_ rfl ⟨rfl, ?_⟩
    · simp [results, Tryd.results54, go_sem, c0, c1, c2]
    · first | exact (((box_end HB1.out).setCell (Nat.le_refl _) _).setCell (Nat.le_refl _) _).setCell (Nat.le_refl _) _ | exact box_end HB1.out
  · skip
    cases h2 : exB g ask
    · clear h
      go_enter Tryd.func54, Tryd.ntmps54
      go_wp2_with fail
      refine (iel_b _ _ _ (G.on (box_end HB0.out))).mono ?_
      rintro e w1 ⟨rfl, hb⟩
      have HB1 := Lib.hid (box_on HB0.out hb); clear hb
      go_wp2_with fail
      refine (iex_b _ _ _ (G.on (box_end HB1.out))).mono ?_
      rintro e w2 ⟨rfl, hb⟩
      have HB2 := Lib.hid (box_on HB1.out hb); clear hb
      obtain ⟨⟨c0, c1, c2⟩, k0, k1, k2, hz2⟩ := box3 HB2.out
      go_wp2
      refine bodyPost_ret (v := .tuple #[.agg #[.int .i64 0, .int .i64 0, .int .i64 0], .bool false]) ?_ rfl ⟨rfl, ?_⟩
      · simp [results, Tryd.results54, go_sem, c0, c1, c2]
      · first | exact (((box_end HB2.out).setCell (Nat.le_refl _) _).setCell (Nat.le_refl _) _).setCell (Nat.le_refl _) _ | exact box_end HB2.out
    · skip
      have h3 : exB g tell = false := by
        cases h3 : exB g tell
        · rfl
        · exact absurd ⟨h1, h2, h3⟩ h
      clear h
      go_enter Tryd.func54, Tryd.ntmps54
      go_wp2_with fail
      refine (iel_b _ _ _ (G.on (box_end HB0.out))).mono ?_
      rintro e w1 ⟨rfl, hb⟩
      have HB1 := Lib.hid (box_on HB0.out hb); clear hb
      go_wp2_with fail
      refine (iex_b _ _ _ (G.on (box_end HB1.out))).mono ?_
      rintro e w2 ⟨rfl, hb⟩
      have HB2 := Lib.hid (box_on HB1.out hb); clear hb
      go_wp2_with fail
      refine (iex_b _ _ _ (G.on (box_end HB2.out))).mono ?_
      rintro e w3 ⟨rfl, hb⟩
      have HB3 := Lib.hid (box_on HB2.out hb); clear hb
      obtain ⟨⟨c0, c1, c2⟩, k0, k1, k2, hz3⟩ := box3 HB3.out
      go_wp2
      refine bodyPost_ret (v := .tuple #[.agg #[.int .i64 0, .int .i64 0, .int .i64 0], .bool false]) ?_ rfl ⟨rfl, ?_⟩
      · simp [results, Tryd.results54, go_sem, c0, c1, c2]
      · first | exact (((box_end HB3.out).setCell (Nat.le_refl _) _).setCell (Nat.le_refl _) _).setCell (Nat.le_refl _) _ | exact box_end HB3.out

theorem imade_yes (g key ask tell : Int) (w : World) (G : Gr w) (h1 : elB g key = true) (h2 : exB g ask = true) (h3 : exB g tell = true) :
    Calls Tryd.prog 54 #[.int .i64 g, .int .i64 key, .int .i64 ask, .int .i64 tell] w fun e w' => e = .returned (.tuple #[.agg #[.int .i64 (sayUp g key ask tell), .int .i64 ask, .int .i64 tell], .bool true]) ∧ Below w.heap.size w w' := by
  have HB0 := Lib.hid (Below.refl (w.heap.size + 1) (w.alloc (.cells #[.int .i64 0, .int .i64 0, .int .i64 0] 45)))
  obtain ⟨g0, g4⟩ := elB_group h1
  obtain ⟨_, a0, a1⟩ := exB_true.1 h2
  obtain ⟨_, t0, t1⟩ := exB_true.1 h3
  obtain ⟨o1, o2⟩ := ord_bd g0 g4
  have HS := Lib.hid (show tim g (keyOf g tell) (gpow g key (-ask)) = sayUp g key ask tell by
    rw [key_yes h3, gpow_yes h1 (by omega) (by omega)]
    exact tim_yes (gp_el (bas_el g0 g4) _) (gp_el h1 _))
  go_enter Tryd.func54, Tryd.ntmps54
  go_wp2_with fail
  refine (iel_b _ _ _ (G.on (box_end HB0.out))).mono ?_
  rintro e w1 ⟨rfl, hb⟩
  have HB1 := Lib.hid (box_on HB0.out hb); clear hb
  go_wp2_with fail
  refine (iex_b _ _ _ (G.on (box_end HB1.out))).mono ?_
  rintro e w2 ⟨rfl, hb⟩
  have HB2 := Lib.hid (box_on HB1.out hb); clear hb
  go_wp2_with fail
  refine (iex_b _ _ _ (G.on (box_end HB2.out))).mono ?_
  rintro e w3 ⟨rfl, hb⟩
  have HB3 := Lib.hid (box_on HB2.out hb); clear hb
  go_wp2_with fail
  refine (ikey_any _ _ _ (G.on (box_end HB3.out))).mono ?_
  rintro e w4 ⟨rfl, hb⟩
  have HB4 := Lib.hid (box_on HB3.out hb); clear hb
  go_wp2_with fail
  refine (ipow_b _ _ _ _ (G.on (box_end HB4.out))).mono ?_
  rintro e w5 ⟨rfl, hb⟩
  have HB5 := Lib.hid (box_on HB4.out hb); clear hb
  go_wp2_with fail
  refine (itim_b _ _ _ _ (G.on (box_end HB5.out))).mono ?_
  rintro e w6 ⟨rfl, hb⟩
  have HB6 := Lib.hid (box_on HB5.out hb); clear hb
  rw [HS.out]
  obtain ⟨⟨c0, c1, c2⟩, k0, k1, k2, hz6⟩ := box3 HB6.out
  go_wp2
  refine bodyPost_ret (v := .tuple #[.agg #[.int .i64 (sayUp g key ask tell), .int .i64 ask, .int .i64 tell], .bool true]) ?_ rfl ⟨rfl, ?_⟩
  · simp [results, Tryd.results54, go_sem, c0, c1, c2]
  · exact (((box_end HB6.out).setCell (Nat.le_refl _) _).setCell (Nat.le_refl _) _).setCell (Nat.le_refl _) _

theorem tok_made {g key s a t : Int} (h1 : elB g key = true) (h2 : exB g a = true) (h3 : exB g t = true) : tokB g key s a t = talkB (sayUp g key a t) a t s a t := by
  cases hs : elB g s
  · have hn : sayUp g key a t ≠ s := fun h => by rw [← h, sayUp_el h1] at hs; cases hs
    simp [talkB, hn, tokB, hs]
  · rw [made_only h1 hs h2 h3]
    simp [talkB, eq_comm]
theorem tok_none {g key s a t : Int} (h : ¬ (elB g key = true ∧ exB g a = true ∧ exB g t = true)) : tokB g key s a t = false := by
  cases hb : tokB g key s a t
  · rfl
  · obtain ⟨x1, _, x2, x3, _⟩ := tok_yes.1 hb
    exact absurd ⟨x1, x2, x3⟩ h

theorem itok_any (g key s a t : Int) (w : World) (G : Gr w) : Calls Tryd.prog 25 #[.int .i64 g, .int .i64 key, .agg #[.int .i64 s, .int .i64 a, .int .i64 t]] w fun e w' => e = .returned (.bool (tokB g key s a t)) ∧ Below w.heap.size w w' := by
  have tg := talkGuard
  have te := run_equal_talk
  have HB0 := Lib.hid (Below.refl (w.heap.size + 1) (w.alloc (.cells #[.int .i64 (s), .int .i64 (a), .int .i64 (t)] 45)))
  obtain ⟨⟨c0, c1, c2⟩, _⟩ := box3 HB0.out
  by_cases hx : elB g key = true ∧ exB g a = true ∧ exB g t = true
  · obtain ⟨h1, h2, h3⟩ := hx
    have HX := Lib.hid (tok_made (s := s) h1 h2 h3)
    go_enter Tryd.func25, Tryd.ntmps25
    go_wp2_with fail
    refine (imade_yes _ _ _ _ _ (G.on (box_end HB0.out)) h1 h2 h3).mono ?_
    rintro e w1 ⟨rfl, hb⟩
    have HB1 := Lib.hid (box_on HB0.out hb); clear hb c0 c1 c2
    have HB2 := Lib.hid (box_on HB1.out (below_alloc w1 (.cells #[.int .i64 (sayUp g key a t), .int .i64 (a), .int .i64 (t)] 45)))
    obtain ⟨⟨c0, c1, c2⟩, _⟩ := box3 HB2.out
    obtain ⟨⟨d0, d1, d2⟩, _⟩ := box3 (Below.refl (w1.heap.size + 1) (w1.alloc (.cells #[.int .i64 (sayUp g key a t), .int .i64 (a), .int .i64 (t)] 45)))
    go_wp2
    go_ret
    exact ⟨ret_bool HX.out.symm, box_end HB2.out⟩
  · have HX := Lib.hid (tok_none (s := s) hx)
    go_enter Tryd.func25, Tryd.ntmps25
    go_wp2_with fail
    refine (imade_no _ _ _ _ _ (G.on (box_end HB0.out)) hx).mono ?_
    rintro e w1 ⟨rfl, hb⟩
    have HB1 := Lib.hid (box_on HB0.out hb); clear hb c0 c1 c2
    have HB2 := Lib.hid (box_on HB1.out (below_alloc w1 (.cells #[.int .i64 (0), .int .i64 (0), .int .i64 (0)] 45)))
    go_wp2
    go_ret
    exact ⟨by rw [HX.out]; rfl, box_end HB2.out⟩

theorem isec_no (g key s1 a1 t1 s2 a2 t2 : Int) (w : World) (G : Gr w) (h : secB g key s1 a1 t1 s2 a2 t2 = false) : Calls Tryd.prog 49 #[.int .i64 g, .int .i64 key, .agg #[.int .i64 s1, .int .i64 a1, .int .i64 t1], .agg #[.int .i64 s2, .int .i64 a2, .int .i64 t2]] w fun e w' => e = .returned (.tuple #[.int .i64 (-1), .bool false]) ∧ Below w.heap.size w w' := by
  have HB0 := B2x.start w s1 a1 t1 s2 a2 t2
  have hn : ¬ (tokB g key s1 a1 t1 = true ∧ tokB g key s2 a2 t2 = true ∧ s1 = s2 ∧ a1 ≠ a2) := fun k => by rw [secB_true.2 k] at h; cases h
  clear h
  cases h1 : tokB g key s1 a1 t1
  · clear hn
    obtain ⟨⟨c0, c1, c2⟩, d0, d1, d2⟩ := B2x.cells HB0
    go_enter Tryd.func49, Tryd.ntmps49
    go_wp2_with fail
    refine (itok_any _ _ _ _ _ _ (G.on (B2x.fin HB0))).mono ?_
    rintro e w1 ⟨rfl, hb⟩
    have HB1 := B2x.on HB0 hb; clear hb
    go_wp2
    go_ret2
    exact ⟨rfl, B2x.fin HB1⟩
  · cases h2 : tokB g key s2 a2 t2
    · clear hn
      obtain ⟨⟨c0, c1, c2⟩, d0, d1, d2⟩ := B2x.cells HB0
      go_enter Tryd.func49, Tryd.ntmps49
      go_wp2_with fail
      refine (itok_any _ _ _ _ _ _ (G.on (B2x.fin HB0))).mono ?_
      rintro e w1 ⟨rfl, hb⟩
      have HB1 := B2x.on HB0 hb; clear hb
      clear c0 c1 c2 d0 d1 d2
      obtain ⟨⟨c0, c1, c2⟩, d0, d1, d2⟩ := B2x.cells HB1
      go_wp2_with fail
      refine (itok_any _ _ _ _ _ _ (G.on (B2x.fin HB1))).mono ?_
      rintro e w2 ⟨rfl, hb⟩
      have HB2 := B2x.on HB1 hb; clear hb
      go_wp2
      go_ret2
      exact ⟨rfl, B2x.fin HB2⟩
    · by_cases h3 : s1 = s2
      · have h4 : (a1 == a2) = true := by
          by_cases h4 : a1 = a2
          · simpa using h4
          · exact absurd ⟨h1, h2, h3, h4⟩ hn
        have h3' : (s1 != s2) = false := by simpa using h3
        clear hn h3
        obtain ⟨⟨c0, c1, c2⟩, d0, d1, d2⟩ := B2x.cells HB0
        go_enter Tryd.func49, Tryd.ntmps49
        go_wp2_with fail
        refine (itok_any _ _ _ _ _ _ (G.on (B2x.fin HB0))).mono ?_
        rintro e w1 ⟨rfl, hb⟩
        have HB1 := B2x.on HB0 hb; clear hb
        clear c0 c1 c2 d0 d1 d2
        obtain ⟨⟨c0, c1, c2⟩, d0, d1, d2⟩ := B2x.cells HB1
        go_wp2_with fail
        refine (itok_any _ _ _ _ _ _ (G.on (B2x.fin HB1))).mono ?_
        rintro e w2 ⟨rfl, hb⟩
        have HB2 := B2x.on HB1 hb; clear hb
        clear c0 c1 c2 d0 d1 d2
        obtain ⟨⟨c0, c1, c2⟩, d0, d1, d2⟩ := B2x.cells HB2
        go_wp2
        go_ret2
        exact ⟨rfl, B2x.fin HB2⟩
      · have h3' : (s1 != s2) = true := by simpa using h3
        clear hn h3
        obtain ⟨⟨c0, c1, c2⟩, d0, d1, d2⟩ := B2x.cells HB0
        go_enter Tryd.func49, Tryd.ntmps49
        go_wp2_with fail
        refine (itok_any _ _ _ _ _ _ (G.on (B2x.fin HB0))).mono ?_
        rintro e w1 ⟨rfl, hb⟩
        have HB1 := B2x.on HB0 hb; clear hb
        clear c0 c1 c2 d0 d1 d2
        obtain ⟨⟨c0, c1, c2⟩, d0, d1, d2⟩ := B2x.cells HB1
        go_wp2_with fail
        refine (itok_any _ _ _ _ _ _ (G.on (B2x.fin HB1))).mono ?_
        rintro e w2 ⟨rfl, hb⟩
        have HB2 := B2x.on HB1 hb; clear hb
        clear c0 c1 c2 d0 d1 d2
        obtain ⟨⟨c0, c1, c2⟩, d0, d1, d2⟩ := B2x.cells HB2
        go_wp2
        go_ret2
        exact ⟨rfl, B2x.fin HB2⟩

theorem back_bd {g a1 a2 : Int} (e1 : exB g a1 = true) (e2 : exB g a2 = true) (hne : a1 ≠ a2) : 0 ≤ gback g ((a1 - a2) % ord g) ∧ gback g ((a1 - a2) % ord g) < ord g := by
  obtain ⟨⟨g0, g4⟩, b1, b2⟩ := exB_true.1 e1
  obtain ⟨_, b3, b4⟩ := exB_true.1 e2
  obtain ⟨o1, o2⟩ := ord_bd g0 g4
  rcases back_prod (ex_of_mod g0 g4 (a1 - a2)) with ⟨_, e⟩ | ⟨e, e', _⟩
  · exfalso
    obtain ⟨c, hc⟩ := Int.dvd_of_emod_eq_zero e
    by_cases c1 : 0 < c
    · have := Int.mul_le_mul_of_nonneg_left (show (1 : Int) ≤ c by omega) (show 0 ≤ ord g by omega); omega
    · by_cases c2 : c < 0
      · have := Int.mul_le_mul_of_nonneg_left (show (1 : Int) ≤ -c by omega) (show 0 ≤ ord g by omega)
        rw [Int.mul_neg] at this; omega
      · have : c = 0 := by omega
        rw [this] at hc; omega
  · exact ⟨e, e'⟩
theorem iquot_any (g a1 t1 a2 t2 : Int) (w : World) (G : Gr w) (ea : exB g a1 = true) (et : exB g t1 = true) (fa : exB g a2 = true) (ft : exB g t2 = true) (hne : a1 ≠ a2) : Calls Tryd.prog 66 #[.int .i64 g, .int .i64 (t1 - t2), .int .i64 (a1 - a2)] w fun e w' => e = .returned (.int .i64 (secretOf g a1 t1 a2 t2)) ∧ Below w.heap.size w w' := by
  obtain ⟨⟨g0, g4⟩, x0, x1⟩ := exB_true.1 ea
  obtain ⟨_, y0, y1⟩ := exB_true.1 et
  obtain ⟨_, z0, z1⟩ := exB_true.1 fa
  obtain ⟨_, v0, v1⟩ := exB_true.1 ft
  obtain ⟨o1, o2⟩ := ord_bd g0 g4
  obtain ⟨b1, b2⟩ := back_bd ea fa hne
  obtain ⟨D, hD⟩ : ∃ D, (a1 - a2) % ord g = D := ⟨_, rfl⟩
  obtain ⟨b, hb⟩ : ∃ b, gback g D = b := ⟨_, rfl⟩
  obtain ⟨n, hn⟩ : ∃ n, t1 - t2 = n := ⟨_, rfl⟩
  obtain ⟨y, hy⟩ : ∃ y, a1 - a2 = y := ⟨_, rfl⟩
  have HD := Lib.hid (show ∀ q, ord g = q → y % q = D from fun q hq => by rw [← hq, ← hy]; exact hD)
  have HK := Lib.hid hb
  have HS := Lib.hid (show ∀ q, ord g = q → (n * b) % q = secretOf g a1 t1 a2 t2 from fun q hq => by
    unfold secretOf; rw [← hq, hD, hb, modmul, hn])
  rw [hD, hb] at b1 b2
  have d1 := Int.mul_le_mul_of_nonneg_right (show n ≤ 23 by omega) b1
  have d2 := Int.mul_le_mul_of_nonneg_right (show -23 ≤ n by omega) b1
  have l1 : -9999 ≤ n * b := by omega
  have l2 : n * b ≤ 9999 := by omega
  have l3 : -9999 ≤ y := by omega
  have l4 : y ≤ 9999 := by omega
  rw [hn, hy]
  clear ea et fa ft hD hb d1 d2 x0 x1 y0 y1 z0 z1 v0 v1 b2 o1 o2 hn hy hne
  rcases g_cases g0 g4 with rfl | rfl | rfl | rfl <;> clear g0 g4
  all_goals
    obtain ⟨e0, e1, e2, e3, e4, e5, e6, e7, e8, e9, e10, e11⟩ := id G
    go_enter Tryd.func66, Tryd.ntmps66
    go_wp2_with fail
    refine (irem_b _ _ _ (by omega) (by omega) (by omega) (by omega)).mono ?_
    rintro e w3 ⟨rfl, hb3⟩
    clear e0 e1 e2 e3 e4 e5 e6 e7 e8 e9 e10 e11
    first | rw [HD.out 3 rfl] | rw [HD.out 5 rfl] | rw [HD.out 11 rfl] | rw [HD.out 23 rfl]
    go_wp2_with fail
    refine (iback_b _ _ _ (G.on hb3)).mono ?_
    rintro e w4 ⟨rfl, hb4⟩
    rw [HK.out]
    go_wp2_with fail
    refine (irem_b _ _ _ (by omega) (by omega) (by omega) (by omega)).mono ?_
    rintro e w5 ⟨rfl, hb5⟩
    first | rw [HS.out 3 rfl] | rw [HS.out 5 rfl] | rw [HS.out 11 rfl] | rw [HS.out 23 rfl]
    go_wp2
    go_ret
    exact ⟨rfl, Below.on hb3 (Below.on hb4 hb5)⟩
theorem isec_yes (g key s1 a1 t1 s2 a2 t2 : Int) (w : World) (G : Gr w) (h : secB g key s1 a1 t1 s2 a2 t2 = true) : Calls Tryd.prog 49 #[.int .i64 g, .int .i64 key, .agg #[.int .i64 s1, .int .i64 a1, .int .i64 t1], .agg #[.int .i64 s2, .int .i64 a2, .int .i64 t2]] w fun e w' => e = .returned (.tuple #[.int .i64 (secretOf g a1 t1 a2 t2), .bool true]) ∧ Below w.heap.size w w' := by
  have HB0 := B2x.start w s1 a1 t1 s2 a2 t2
  obtain ⟨h1, h2, h3, h4⟩ := secB_true.1 h
  obtain ⟨hk, _, ea, et, _⟩ := tok_yes.1 h1
  obtain ⟨_, _, fa, ft, _⟩ := tok_yes.1 h2
  obtain ⟨⟨g0, g4⟩, x0, x1⟩ := exB_true.1 ea
  obtain ⟨_, y0, y1⟩ := exB_true.1 et
  obtain ⟨_, z0, z1⟩ := exB_true.1 fa
  obtain ⟨_, v0, v1⟩ := exB_true.1 ft
  obtain ⟨o1, o2⟩ := ord_bd g0 g4
  have HQ := Lib.hid (fun (w' : World) (G' : Gr w') => iquot_any g a1 t1 a2 t2 w' G' ea et fa ft h4)
  have h3' : (s1 != s2) = false := by simpa using h3
  have h4' : (a1 == a2) = false := by simpa using h4
  have l3 : -9999 ≤ a1 - a2 := by omega
  have l4 : a1 - a2 ≤ 9999 := by omega
  have l5 : -9999 ≤ t1 - t2 := by omega
  have l6 : t1 - t2 ≤ 9999 := by omega
  clear h h3 h4 hk ea et fa ft x1 y1 z1 v1 o1 o2 g0 g4
  obtain ⟨⟨c0, c1, c2⟩, d0, d1, d2⟩ := B2x.cells HB0
  go_enter Tryd.func49, Tryd.ntmps49
  go_wp2_with fail
  refine (itok_any _ _ _ _ _ _ (G.on (B2x.fin HB0))).mono ?_
  rintro e w1 ⟨rfl, hb⟩
  have HB1 := B2x.on HB0 hb; clear hb
  clear c0 c1 c2 d0 d1 d2
  obtain ⟨⟨c0, c1, c2⟩, d0, d1, d2⟩ := B2x.cells HB1
  go_wp2_with fail
  refine (itok_any _ _ _ _ _ _ (G.on (B2x.fin HB1))).mono ?_
  rintro e w2 ⟨rfl, hb⟩
  have HB2 := B2x.on HB1 hb; clear hb
  clear c0 c1 c2 d0 d1 d2
  obtain ⟨⟨c0, c1, c2⟩, d0, d1, d2⟩ := B2x.cells HB2
  go_wp2_with fail
  refine (HQ.out _ (G.on (B2x.fin HB2))).mono ?_
  rintro e w3 ⟨rfl, hb⟩
  have HB3 := B2x.on HB2 hb; clear hb
  go_wp2
  go_ret2
  exact ⟨rfl, B2x.fin HB3⟩
theorem ord_of {g : Int} (h0 : 0 ≤ g) (h4 : g < 4) : ∃ q : Nat, ord g = q ∧ 3 ≤ q ∧ q ≤ 23 := by
  obtain ⟨o1, o2⟩ := ord_bd h0 h4
  exact ⟨(ord g).toNat, by omega, by omega, by omega⟩

end Go.Proofs.YtiinifcepcaonaaDoor
