/- Contracts of impl's chapter 2: keys, talks, made up ones, secrets, how many. -/
import Derived.Test.YtahegppdfcndkaaDoorBTalk
import Derived.Test.YtahegppdfcndkaaDoorBWalk
import Derived.Test.YtahegppdfcndkaaDoorBPure
namespace Go.Proofs.YtahegppdfcndkaaDoor
open Go.RowKit

theorem iel_b (g a : Int) (w : World) (G : Gr w) : Calls Tryd.prog 35 #[.int .i64 g, .int .i64 a] w fun e w' => e = .returned (.bool (elB g a)) ∧ Below w.heap.size w w' := (iel_any g a w G).mono fun _ _ ⟨he, m, hw⟩ => ⟨he, by rw [hw]; exact below_drewN (Below.refl _ _) m⟩
theorem iex_b (g n : Int) (w : World) (G : Gr w) : Calls Tryd.prog 21 #[.int .i64 g, .int .i64 n] w fun e w' => e = .returned (.bool (exB g n)) ∧ Below w.heap.size w w' := (iex_any g n w G).mono fun _ _ ⟨he, hw⟩ => ⟨he, by rw [← hw]; exact Below.refl _ _⟩
theorem ipow_b (g a n : Int) (w : World) (G : Gr w) : Calls Tryd.prog 37 #[.int .i64 g, .int .i64 a, .int .i64 n] w fun e w' => e = .returned (.int .i64 (gpow g a n)) ∧ Below w.heap.size w w' := (ipow_any g a n w G).mono fun _ _ ⟨he, m, hw⟩ => ⟨he, by rw [hw]; exact below_drewN (Below.refl _ _) m⟩
theorem itim_b (g a b : Int) (w : World) (G : Gr w) : Calls Tryd.prog 57 #[.int .i64 g, .int .i64 a, .int .i64 b] w fun e w' => e = .returned (.int .i64 (tim g a b)) ∧ Below w.heap.size w w' := (itim_any g a b w G).mono fun _ _ ⟨he, m, hw⟩ => ⟨he, by rw [hw]; exact below_drewN (Below.refl _ _) m⟩
theorem irem_b (n q : Int) (w : World) (h1 : -9999 ≤ n) (h2 : n ≤ 9999) (q1 : 1 ≤ q) (q2 : q ≤ 100) : Calls Tryd.prog 47 #[.int .i64 n, .int .i64 q] w fun e w' => e = .returned (.int .i64 (n % q)) ∧ Below w.heap.size w w' := (irem_any n q w h1 h2 q1 q2).mono fun _ _ ⟨he, hw⟩ => ⟨he, by rw [← hw]; exact Below.refl _ _⟩
theorem key_pow {g s : Int} (h : exB g s = true) : keyOf g s = gpow g (bas g) s := by
  obtain ⟨⟨h0, h4⟩, n0, n1⟩ := exB_true.1 h
  obtain ⟨o1, o2⟩ := ord_bd h0 h4
  rw [key_yes h, gpow_yes (bas_el h0 h4) (by omega) (by omega)]; rfl

theorem ikey_any (g s : Int) (w : World) (G : Gr w) : Calls Tryd.prog 11 #[.int .i64 g, .int .i64 s] w fun e w' => e = .returned (.int .i64 (keyOf g s)) ∧ Below w.heap.size w w' := by
  cases hx : exB g s
  · have HX := Lib.hid (key_no hx)
    go_enter Tryd.func11, Tryd.ntmps11
    go_wp2_with fail
    refine (iex_b _ _ _ G).mono ?_
    rintro e w1 ⟨rfl, hb1⟩
    go_wp2
    go_ret
    exact ⟨by rw [HX.out]; rfl, hb1⟩
  · have HX := Lib.hid (key_pow hx)
    obtain ⟨⟨h0, h4⟩, _⟩ := exB_true.1 hx
    rcases g_cases h0 h4 with rfl | rfl | rfl | rfl <;> clear h0 h4
    all_goals
      go_enter Tryd.func11, Tryd.ntmps11
      go_wp2_with fail
      refine (iex_b _ _ _ G).mono ?_
      rintro e w1 ⟨rfl, hb1⟩
      obtain ⟨e0, e1, e2, e3, e4, e5, e6, e7, e8, e9, e10, e11⟩ := G.on hb1
      go_wp2_with fail
      refine (ipow_b _ _ _ _ (G.on hb1)).mono ?_
      rintro e w2 ⟨rfl, hb2⟩
      go_wp2
      go_ret
      exact ⟨by rw [HX.out]; rfl, Below.on hb1 hb2⟩

theorem italk_no (g secret further ask : Int) (w : World) (G : Gr w) (h : ¬ (exB g secret = true ∧ exB g further = true ∧ exB g ask = true)) :
    Calls Tryd.prog 24 #[.int .i64 g, .int .i64 secret, .int .i64 further, .int .i64 ask] w fun e w' => e = .returned (.tuple #[.agg #[.int .i64 0, .int .i64 0, .int .i64 0], .bool false]) ∧ Below w.heap.size w w' := by
  have HB0 := Lib.hid (Below.refl (w.heap.size + 1) (w.alloc (.cells #[.int .i64 0, .int .i64 0, .int .i64 0] 37)))
  cases h1 : exB g secret
  · clear h
    go_enter Tryd.func24, Tryd.ntmps24
    go_wp2_with fail
    refine (iex_b _ _ _ (G.on (box_end HB0.out))).mono ?_
    rintro e w1 ⟨rfl, hb⟩
    have HB1 := Lib.hid (box_on HB0.out hb); clear hb
    obtain ⟨⟨c0, c1, c2⟩, k0, k1, k2, hz1⟩ := box3 HB1.out
    go_wp2
    refine bodyPost_ret (v := .tuple #[.agg #[.int .i64 0, .int .i64 0, .int .i64 0], .bool false]) ?_ rfl ⟨rfl, ?_⟩
    · simp [results, Tryd.results24, go_sem, c0, c1, c2]
    · first | exact (((box_end HB1.out).setCell (Nat.le_refl _) _).setCell (Nat.le_refl _) _).setCell (Nat.le_refl _) _ | exact box_end HB1.out
  · skip
    cases h2 : exB g further
    · clear h
      go_enter Tryd.func24, Tryd.ntmps24
      go_wp2_with fail
      refine (iex_b _ _ _ (G.on (box_end HB0.out))).mono ?_
      rintro e w1 ⟨rfl, hb⟩
      have HB1 := Lib.hid (box_on HB0.out hb); clear hb
      go_wp2_with fail
      refine (iex_b _ _ _ (G.on (box_end HB1.out))).mono ?_
      rintro e w2 ⟨rfl, hb⟩
      have HB2 := Lib.hid (box_on HB1.out hb); clear hb
      obtain ⟨⟨c0, c1, c2⟩, k0, k1, k2, hz2⟩ := box3 HB2.out
      go_wp2
      refine bodyPost_ret (v := .tuple #[.agg #[.int .i64 0, .int .i64 0, .int .i64 0], .bool false]) ?_ rfl ⟨rfl, ?_⟩
      · simp [results, Tryd.results24, go_sem, c0, c1, c2]
      · first | exact (((box_end HB2.out).setCell (Nat.le_refl _) _).setCell (Nat.le_refl _) _).setCell (Nat.le_refl _) _ | exact box_end HB2.out
    · skip
      have h3 : exB g ask = false := by
        cases h3 : exB g ask
        · rfl
        · exact absurd ⟨h1, h2, h3⟩ h
      clear h
      go_enter Tryd.func24, Tryd.ntmps24
      go_wp2_with fail
      refine (iex_b _ _ _ (G.on (box_end HB0.out))).mono ?_
      rintro e w1 ⟨rfl, hb⟩
      have HB1 := Lib.hid (box_on HB0.out hb); clear hb
      go_wp2_with fail
      refine (iex_b _ _ _ (G.on (box_end HB1.out))).mono ?_
      rintro e w2 ⟨rfl, hb⟩
      have HB2 := Lib.hid (box_on HB1.out hb); clear hb
      go_wp2_with fail
      refine (iex_b _ _ _ (G.on (box_end HB2.out))).mono ?_
      rintro e w3 ⟨rfl, hb⟩
      have HB3 := Lib.hid (box_on HB2.out hb); clear hb
      obtain ⟨⟨c0, c1, c2⟩, k0, k1, k2, hz3⟩ := box3 HB3.out
      go_wp2
      refine bodyPost_ret (v := .tuple #[.agg #[.int .i64 0, .int .i64 0, .int .i64 0], .bool false]) ?_ rfl ⟨rfl, ?_⟩
      · simp [results, Tryd.results24, go_sem, c0, c1, c2]
      · first | exact (((box_end HB3.out).setCell (Nat.le_refl _) _).setCell (Nat.le_refl _) _).setCell (Nat.le_refl _) _ | exact box_end HB3.out

theorem imade_no (g key ask tell : Int) (w : World) (G : Gr w) (h : ¬ (elB g key = true ∧ exB g ask = true ∧ exB g tell = true)) :
    Calls Tryd.prog 36 #[.int .i64 g, .int .i64 key, .int .i64 ask, .int .i64 tell] w fun e w' => e = .returned (.tuple #[.agg #[.int .i64 0, .int .i64 0, .int .i64 0], .bool false]) ∧ Below w.heap.size w w' := by
  have HB0 := Lib.hid (Below.refl (w.heap.size + 1) (w.alloc (.cells #[.int .i64 0, .int .i64 0, .int .i64 0] 37)))
  cases h1 : elB g key
  · clear h
    go_enter Tryd.func36, Tryd.ntmps36
    go_wp2_with fail
    refine (iel_b _ _ _ (G.on (box_end HB0.out))).mono ?_
    rintro e w1 ⟨rfl, hb⟩
    have HB1 := Lib.hid (box_on HB0.out hb); clear hb
    obtain ⟨⟨c0, c1, c2⟩, k0, k1, k2, hz1⟩ := box3 HB1.out
    go_wp2
    refine bodyPost_ret (v := .tuple #[.agg #[.int .i64 0, .int .i64 0, .int .i64 0], .bool false]) ?_ rfl ⟨rfl, ?_⟩
    · simp [results, Tryd.results36, go_sem, c0, c1, c2]
    · first | exact (((box_end HB1.out).setCell (Nat.le_refl _) _).setCell (Nat.le_refl _) _).setCell (Nat.le_refl _) _ | exact box_end HB1.out
  · skip
    cases h2 : exB g ask
    · clear h
      go_enter Tryd.func36, Tryd.ntmps36
      go_wp2_with fail
      refine (iel_b _ _ _ (G.on (box_end HB0.out))).mono ?_
      rintro e w1 ⟨rfl, hb⟩
      have HB1 := Lib.hid (box_on HB0.out hb); clear hb
      go_wp2_with fail
      refine (iex_b _ _ _ (G.on (box_end HB1.out))).mono ?_
      rintro e w2 ⟨rfl, hb⟩
      have HB2 := Lib.hid (box_on HB1.out hb); clear hb
      obtain ⟨⟨c0, c1, c2⟩, k0, k1, k2, hz2⟩ := box3 HB2.out
      go_wp2
      refine bodyPost_ret (v := .tuple #[.agg #[.int .i64 0, .int .i64 0, .int .i64 0], .bool false]) ?_ rfl ⟨rfl, ?_⟩
      · simp [results, Tryd.results36, go_sem, c0, c1, c2]
      · first | exact (((box_end HB2.out).setCell (Nat.le_refl _) _).setCell (Nat.le_refl _) _).setCell (Nat.le_refl _) _ | exact box_end HB2.out
    · skip
      have h3 : exB g tell = false := by
        cases h3 : exB g tell
        · rfl
        · exact absurd ⟨h1, h2, h3⟩ h
      clear h
      go_enter Tryd.func36, Tryd.ntmps36
      go_wp2_with fail
      refine (iel_b _ _ _ (G.on (box_end HB0.out))).mono ?_
      rintro e w1 ⟨rfl, hb⟩
      have HB1 := Lib.hid (box_on HB0.out hb); clear hb
      go_wp2_with fail
      refine (iex_b _ _ _ (G.on (box_end HB1.out))).mono ?_
      rintro e w2 ⟨rfl, hb⟩
      have HB2 := Lib.hid (box_on HB1.out hb); clear hb
      go_wp2_with fail
      refine (iex_b _ _ _ (G.on (box_end HB2.out))).mono ?_
      rintro e w3 ⟨rfl, hb⟩
      have HB3 := Lib.hid (box_on HB2.out hb); clear hb
      obtain ⟨⟨c0, c1, c2⟩, k0, k1, k2, hz3⟩ := box3 HB3.out
      go_wp2
      refine bodyPost_ret (v := .tuple #[.agg #[.int .i64 0, .int .i64 0, .int .i64 0], .bool false]) ?_ rfl ⟨rfl, ?_⟩
      · simp [results, Tryd.results36, go_sem, c0, c1, c2]
      · first | exact (((box_end HB3.out).setCell (Nat.le_refl _) _).setCell (Nat.le_refl _) _).setCell (Nat.le_refl _) _ | exact box_end HB3.out

theorem italk_yes (g secret further ask : Int) (w : World) (G : Gr w) (h1 : exB g secret = true) (h2 : exB g further = true) (h3 : exB g ask = true) :
    Calls Tryd.prog 24 #[.int .i64 g, .int .i64 secret, .int .i64 further, .int .i64 ask] w fun e w' => e = .returned (.tuple #[.agg #[.int .i64 (gp g (bas g) further), .int .i64 ask, .int .i64 (tellOf g secret further ask)], .bool true]) ∧ Below w.heap.size w w' := by
  have HB0 := Lib.hid (Below.refl (w.heap.size + 1) (w.alloc (.cells #[.int .i64 0, .int .i64 0, .int .i64 0] 37)))
  obtain ⟨⟨g0, g4⟩, s0, s1⟩ := exB_true.1 h1
  obtain ⟨_, f0, f1⟩ := exB_true.1 h2
  obtain ⟨_, a0, a1⟩ := exB_true.1 h3
  obtain ⟨o1, o2⟩ := ord_bd g0 g4
  have p0 : 0 ≤ ask * secret := Int.mul_nonneg (by omega) (by omega)
  have p1 : ask * secret ≤ 23 * 23 := Int.mul_le_mul (by omega) (by omega) (by omega) (by omega)
  have f2 : further < 24 := by omega
  have HK := Lib.hid (key_yes h2)
  have HT := Lib.hid (show ∀ q, ord g = q → (further + ask * secret) % q = tellOf g secret further ask from fun q hq => by rw [← hq]; rfl)
  rcases g_cases g0 g4 with rfl | rfl | rfl | rfl <;> clear g0 g4 s1 f1 a1
  all_goals
    simp [ord] at o1 o2
    go_enter Tryd.func24, Tryd.ntmps24
    go_wp2_with fail
    refine (iex_b _ _ _ (G.on (box_end HB0.out))).mono ?_
    rintro e w1 ⟨rfl, hb⟩
    have HB1 := Lib.hid (box_on HB0.out hb); clear hb
    go_wp2_with fail
    refine (iex_b _ _ _ (G.on (box_end HB1.out))).mono ?_
    rintro e w2 ⟨rfl, hb⟩
    have HB2 := Lib.hid (box_on HB1.out hb); clear hb
    go_wp2_with fail
    refine (iex_b _ _ _ (G.on (box_end HB2.out))).mono ?_
    rintro e w3 ⟨rfl, hb⟩
    have HB3 := Lib.hid (box_on HB2.out hb); clear hb
    obtain ⟨e0, e1, e2, e3, e4, e5, e6, e7, e8, e9, e10, e11⟩ := G.on (box_end HB3.out)
    go_wp2_with fail
    refine (irem_b _ _ _ (by omega) (by omega) (by omega) (by omega)).mono ?_
    rintro e w4 ⟨rfl, hb⟩
    have HB4 := Lib.hid (box_on HB3.out hb); clear hb
    first | rw [HT.out 3 rfl] | rw [HT.out 5 rfl] | rw [HT.out 11 rfl] | rw [HT.out 23 rfl]
    go_wp2_with fail
    refine (ikey_any _ _ _ (G.on (box_end HB4.out))).mono ?_
    rintro e w5 ⟨rfl, hb⟩
    have HB5 := Lib.hid (box_on HB4.out hb); clear hb
    rw [HK.out]
    obtain ⟨⟨c0, c1, c2⟩, k0, k1, k2, hz5⟩ := box3 HB5.out
    go_wp2
    refine bodyPost_ret (v := .tuple #[.agg #[.int .i64 (gp _ (bas _) further), .int .i64 ask, .int .i64 (tellOf _ secret further ask)], .bool true]) ?_ rfl ⟨rfl, ?_⟩
    · simp [results, Tryd.results24, go_sem, c0, c1, c2]
    · exact (((box_end HB5.out).setCell (Nat.le_refl _) _).setCell (Nat.le_refl _) _).setCell (Nat.le_refl _) _

theorem imade_yes (g key ask tell : Int) (w : World) (G : Gr w) (h1 : elB g key = true) (h2 : exB g ask = true) (h3 : exB g tell = true) :
    Calls Tryd.prog 36 #[.int .i64 g, .int .i64 key, .int .i64 ask, .int .i64 tell] w fun e w' => e = .returned (.tuple #[.agg #[.int .i64 (sayUp g key ask tell), .int .i64 ask, .int .i64 tell], .bool true]) ∧ Below w.heap.size w w' := by
  have HB0 := Lib.hid (Below.refl (w.heap.size + 1) (w.alloc (.cells #[.int .i64 0, .int .i64 0, .int .i64 0] 37)))
  obtain ⟨g0, g4⟩ := elB_group h1
  obtain ⟨_, a0, a1⟩ := exB_true.1 h2
  obtain ⟨_, t0, t1⟩ := exB_true.1 h3
  obtain ⟨o1, o2⟩ := ord_bd g0 g4
  have HS := Lib.hid (show tim g (keyOf g tell) (gpow g key (-ask)) = sayUp g key ask tell by
    rw [key_yes h3, gpow_yes h1 (by omega) (by omega)]
    exact tim_yes (gp_el (bas_el g0 g4) _) (gp_el h1 _))
  go_enter Tryd.func36, Tryd.ntmps36
  go_wp2_with fail
  refine (iel_b _ _ _ (G.on (box_end HB0.out))).mono ?_
  rintro e w1 ⟨rfl, hb⟩
  have HB1 := Lib.hid (box_on HB0.out hb); clear hb
  go_wp2_with fail
  refine (iex_b _ _ _ (G.on (box_end HB1.out))).mono ?_
  rintro e w2 ⟨rfl, hb⟩
  have HB2 := Lib.hid (box_on HB1.out hb); clear hb
  go_wp2_with fail
  refine (iex_b _ _ _ (G.on (box_end HB2.out))).mono ?_
  rintro e w3 ⟨rfl, hb⟩
  have HB3 := Lib.hid (box_on HB2.out hb); clear hb
  go_wp2_with fail
  refine (ikey_any _ _ _ (G.on (box_end HB3.out))).mono ?_
  rintro e w4 ⟨rfl, hb⟩
  have HB4 := Lib.hid (box_on HB3.out hb); clear hb
  go_wp2_with fail
  refine (ipow_b _ _ _ _ (G.on (box_end HB4.out))).mono ?_
  rintro e w5 ⟨rfl, hb⟩
  have HB5 := Lib.hid (box_on HB4.out hb); clear hb
  go_wp2_with fail
  refine (itim_b _ _ _ _ (G.on (box_end HB5.out))).mono ?_
  rintro e w6 ⟨rfl, hb⟩
  have HB6 := Lib.hid (box_on HB5.out hb); clear hb
  rw [HS.out]
  obtain ⟨⟨c0, c1, c2⟩, k0, k1, k2, hz6⟩ := box3 HB6.out
  go_wp2
  refine bodyPost_ret (v := .tuple #[.agg #[.int .i64 (sayUp g key ask tell), .int .i64 ask, .int .i64 tell], .bool true]) ?_ rfl ⟨rfl, ?_⟩
  · simp [results, Tryd.results36, go_sem, c0, c1, c2]
  · exact (((box_end HB6.out).setCell (Nat.le_refl _) _).setCell (Nat.le_refl _) _).setCell (Nat.le_refl _) _

theorem tok_made {g key s a t : Int} (h1 : elB g key = true) (h2 : exB g a = true) (h3 : exB g t = true) : tokB g key s a t = talkB (sayUp g key a t) a t s a t := by
  cases hs : elB g s
  · have hn : sayUp g key a t ≠ s := fun h => by rw [← h, sayUp_el h1] at hs; cases hs
    simp [talkB, hn, tokB, hs]
  · rw [made_only h1 hs h2 h3]
    simp [talkB, eq_comm]
theorem tok_none {g key s a t : Int} (h : ¬ (elB g key = true ∧ exB g a = true ∧ exB g t = true)) : tokB g key s a t = false := by
  cases hb : tokB g key s a t
  · rfl
  · obtain ⟨x1, _, x2, x3, _⟩ := tok_yes.1 hb
    exact absurd ⟨x1, x2, x3⟩ h

theorem itok_any (g key s a t : Int) (w : World) (G : Gr w) : Calls Tryd.prog 15 #[.int .i64 g, .int .i64 key, .agg #[.int .i64 s, .int .i64 a, .int .i64 t]] w fun e w' => e = .returned (.bool (tokB g key s a t)) ∧ Below w.heap.size w w' := by
  have tg := talkGuard
  have te := run_equal_talk
  have HB0 := Lib.hid (Below.refl (w.heap.size + 1) (w.alloc (.cells #[.int .i64 (s), .int .i64 (a), .int .i64 (t)] 37)))
  obtain ⟨⟨c0, c1, c2⟩, _⟩ := box3 HB0.out
  by_cases hx : elB g key = true ∧ exB g a = true ∧ exB g t = true
  · obtain ⟨h1, h2, h3⟩ := hx
    have HX := Lib.hid (tok_made (s := s) h1 h2 h3)
    go_enter Tryd.func15, Tryd.ntmps15
    go_wp2_with fail
    refine (imade_yes _ _ _ _ _ (G.on (box_end HB0.out)) h1 h2 h3).mono ?_
    rintro e w1 ⟨rfl, hb⟩
    have HB1 := Lib.hid (box_on HB0.out hb); clear hb c0 c1 c2
    have HB2 := Lib.hid (box_on HB1.out (below_alloc w1 (.cells #[.int .i64 (sayUp g key a t), .int .i64 (a), .int .i64 (t)] 37)))
    obtain ⟨⟨c0, c1, c2⟩, _⟩ := box3 HB2.out
    obtain ⟨⟨d0, d1, d2⟩, _⟩ := box3 (Below.refl (w1.heap.size + 1) (w1.alloc (.cells #[.int .i64 (sayUp g key a t), .int .i64 (a), .int .i64 (t)] 37)))
    go_wp2
    go_ret
    exact ⟨ret_bool HX.out.symm, box_end HB2.out⟩
  · have HX := Lib.hid (tok_none (s := s) hx)
    go_enter Tryd.func15, Tryd.ntmps15
    go_wp2_with fail
    refine (imade_no _ _ _ _ _ (G.on (box_end HB0.out)) hx).mono ?_
    rintro e w1 ⟨rfl, hb⟩
    have HB1 := Lib.hid (box_on HB0.out hb); clear hb c0 c1 c2
    have HB2 := Lib.hid (box_on HB1.out (below_alloc w1 (.cells #[.int .i64 (0), .int .i64 (0), .int .i64 (0)] 37)))
    go_wp2
    go_ret
    exact ⟨by rw [HX.out]; rfl, box_end HB2.out⟩

theorem back_bd {g a1 a2 : Int} (e1 : exB g a1 = true) (e2 : exB g a2 = true) (hne : a1 ≠ a2) : 0 ≤ gback g ((a1 - a2) % ord g) ∧ gback g ((a1 - a2) % ord g) < ord g := by
  obtain ⟨⟨g0, g4⟩, b1, b2⟩ := exB_true.1 e1
  obtain ⟨_, b3, b4⟩ := exB_true.1 e2
  obtain ⟨o1, o2⟩ := ord_bd g0 g4
  rcases back_prod (ex_of_mod g0 g4 (a1 - a2)) with ⟨_, e⟩ | ⟨e, e', _⟩
  · exfalso
    obtain ⟨c, hc⟩ := Int.dvd_of_emod_eq_zero e
    by_cases c1 : 0 < c
    · have := Int.mul_le_mul_of_nonneg_left (show (1 : Int) ≤ c by omega) (show 0 ≤ ord g by omega); omega
    · by_cases c2 : c < 0
      · have := Int.mul_le_mul_of_nonneg_left (show (1 : Int) ≤ -c by omega) (show 0 ≤ ord g by omega)
        rw [Int.mul_neg] at this; omega
      · have : c = 0 := by omega
        rw [this] at hc; omega
  · exact ⟨e, e'⟩
theorem ord_of {g : Int} (h0 : 0 ≤ g) (h4 : g < 4) : ∃ q : Nat, ord g = q ∧ 3 ≤ q ∧ q ≤ 23 := by
  obtain ⟨o1, o2⟩ := ord_bd h0 h4
  exact ⟨(ord g).toNat, by omega, by omega, by omega⟩

end Go.Proofs.YtahegppdfcndkaaDoor
