/- spec: SecondOk, EnvelopeOf, EnvelopeOk, EnvelopeSum, BaseFrom. -/
import Derived.Test.YtljekapbcphdaaaDoorEnvI
import Derived.Test.YtljekapbcphdaaaDoorTalkS3
namespace Go.Proofs.YtljekapbcphdaaaDoor
open Go.RowKit

theorem smod_b (n q : Int) (w : World) (h1 : -9999 ≤ n) (h2 : n ≤ 9999) (q1 : 1 ≤ q) (q2 : q ≤ 100) : Calls Tryd.prog 48 #[.int .i64 n, .int .i64 q] w fun e w' => e = .returned (.int .i64 (n % q)) ∧ Below w.heap.size w w' := (smod_any n q w h1 h2 q1 q2).mono fun _ _ ⟨he, hw⟩ => ⟨he, by rw [← hw]; exact Below.refl _ _⟩
theorem sel_q {g a : Int} {r : Bool} (h : elB g a = r) (w : World) : Calls Tryd.prog 39 #[.int .i64 g, .int .i64 a] w fun e w' => e = .returned (.bool r) ∧ Below w.heap.size w w' := by rw [← h]; exact sel_any _ _ w
theorem sex_q {g n : Int} {r : Bool} (h : exB g n = r) (w : World) : Calls Tryd.prog 40 #[.int .i64 g, .int .i64 n] w fun e w' => e = .returned (.bool r) ∧ Below w.heap.size w w' := by rw [← h]; exact sex_any _ _ w
theorem ssnd_any (g s : Int) (w : World) : Calls Tryd.prog 13 #[.int .i64 g, .int .i64 s] w fun e w' => e = .returned (.bool (sndB g s)) ∧ Below w.heap.size w w' := by
  cases h1 : elB g s
  · have HX := Lib.hid (snd_false.2 (fun k => by rw [h1] at k; exact absurd k.1 (by decide)) : sndB g s = false)
    go_enter Tryd.func13, Tryd.ntmps13
    go_wp2_with fail
    refine (sel_q h1 _).mono ?_
    rintro e w1 ⟨rfl, hb⟩
    have B1 := Lib.hid hb
    clear hb
    go_wp2
    go_ret
    exact ⟨by rw [HX.out]; rfl, B1.out⟩
  · by_cases h2 : s = 1
    · have HX := Lib.hid (snd_false.2 (fun k => k.2 h2) : sndB g s = false)
      have h3 : (s != 1) = false := by simpa using h2
      clear h2
      go_enter Tryd.func13, Tryd.ntmps13
      go_wp2_with fail
      refine (sel_q h1 _).mono ?_
      rintro e w1 ⟨rfl, hb⟩
      have B1 := Lib.hid hb
      clear hb
      go_wp2
      go_ret
      exact ⟨by rw [HX.out]; rfl, B1.out⟩
    · have HX := Lib.hid (snd_true.2 ⟨h1, h2⟩ : sndB g s = true)
      have h3 : (s != 1) = true := by simpa using h2
      clear h2
      go_enter Tryd.func13, Tryd.ntmps13
      go_wp2_with fail
      refine (sel_q h1 _).mono ?_
      rintro e w1 ⟨rfl, hb⟩
      have B1 := Lib.hid hb
      clear hb
      go_wp2
      go_ret
      exact ⟨by rw [HX.out]; rfl, B1.out⟩
theorem ssnd_is {g s : Int} {r : Bool} (h : sndB g s = r) (w : World) : Calls Tryd.prog 13 #[.int .i64 g, .int .i64 s] w fun e w' => e = .returned (.bool r) ∧ Below w.heap.size w w' := by rw [← h]; exact ssnd_any _ _ w
theorem senv_any (g s n f : Int) (w : World) : Calls Tryd.prog 15 #[.int .i64 g, .int .i64 s, .int .i64 n, .int .i64 f] w fun e w' => e = .returned (.int .i64 (envO g s n f)) ∧ Below w.heap.size w w' := by
  cases h1 : sndB g s
  · have HX := Lib.hid (envO_no (g := g) (s := s) (n := n) (f := f) (fun k => by rw [h1] at k; exact absurd k.1 (by decide)))
    go_enter Tryd.func15, Tryd.ntmps15
    go_wp2_with fail
    refine (ssnd_is h1 _).mono ?_
    rintro e w1 ⟨rfl, hb⟩
    have B1 := Lib.hid hb
    clear hb
    go_wp2
    go_ret
    exact ⟨by rw [HX.out]; rfl, B1.out⟩
  · cases h2 : exB g n
    · have HX := Lib.hid (envO_no (g := g) (s := s) (n := n) (f := f) (fun k => by rw [h2] at k; exact absurd k.2.1 (by decide)))
      go_enter Tryd.func15, Tryd.ntmps15
      go_wp2_with fail
      refine (ssnd_is h1 _).mono ?_
      rintro e w1 ⟨rfl, hb⟩
      have B1 := Lib.hid hb
      clear hb
      go_wp2_with fail
      refine (sex_q h2 _).mono ?_
      rintro e w2 ⟨rfl, hb⟩
      have B2 := Lib.hid (B1.out.trans (hb.mono B1.out.size))
      clear hb
      go_wp2
      go_ret
      exact ⟨by rw [HX.out]; rfl, B2.out⟩
    · cases h3 : exB g f
      · have HX := Lib.hid (envO_no (g := g) (s := s) (n := n) (f := f) (fun k => by rw [h3] at k; exact absurd k.2.2 (by decide)))
        go_enter Tryd.func15, Tryd.ntmps15
        go_wp2_with fail
        refine (ssnd_is h1 _).mono ?_
        rintro e w1 ⟨rfl, hb⟩
        have B1 := Lib.hid hb
        clear hb
        go_wp2_with fail
        refine (sex_q h2 _).mono ?_
        rintro e w2 ⟨rfl, hb⟩
        have B2 := Lib.hid (B1.out.trans (hb.mono B1.out.size))
        clear hb
        go_wp2_with fail
        refine (sex_q h3 _).mono ?_
        rintro e w3 ⟨rfl, hb⟩
        have B3 := Lib.hid (B2.out.trans (hb.mono B2.out.size))
        clear hb
        go_wp2
        go_ret
        exact ⟨by rw [HX.out]; rfl, B3.out⟩
      · skip
        have HX := Lib.hid (envO_yes h1 h2 h3)
        obtain ⟨⟨g0, g4⟩, n0, n1⟩ := exB_true.1 h2
        obtain ⟨_, f0, f1⟩ := exB_true.1 h3
        obtain ⟨o1, o2⟩ := ord_bd g0 g4
        obtain ⟨p1, p2⟩ := prm_bd g0 g4
        obtain ⟨b1, b2⟩ := bas_bd g0 g4
        obtain ⟨s0, s1, s2⟩ := elB_bound (snd_true.1 h1).1
        have P1 := pw_bound (prm g) (bas g) (by omega) (n % ord g).toNat
        have P2 := pw_bound (prm g) s (by omega) (f % ord g).toNat
        go_enter Tryd.func15, Tryd.ntmps15
        go_wp2_with fail
        refine (ssnd_is h1 _).mono ?_
        rintro e w1 ⟨rfl, hb⟩
        have B1 := Lib.hid hb
        clear hb
        go_wp2_with fail
        refine (sex_q h2 _).mono ?_
        rintro e w2 ⟨rfl, hb⟩
        have B2 := Lib.hid (B1.out.trans (hb.mono B1.out.size))
        clear hb
        go_wp2_with fail
        refine (sex_q h3 _).mono ?_
        rintro e w3 ⟨rfl, hb⟩
        have B3 := Lib.hid (B2.out.trans (hb.mono B2.out.size))
        clear hb
        go_wp2_with fail
        refine (sbas_any _ _).mono ?_
        rintro e w4 ⟨rfl, hb⟩
        have B4 := Lib.hid (B3.out.trans (hb.mono B3.out.size))
        clear hb
        go_wp2_with fail
        refine (spow_any _ _ _ _ g0 g4 (by omega) (by omega) (by omega) (by omega)).mono ?_
        rintro e w5 ⟨rfl, hb⟩
        have B5 := Lib.hid (B4.out.trans (hb.mono B4.out.size))
        clear hb
        go_wp2_with fail
        refine (spow_any _ _ _ _ g0 g4 (by omega) (by omega) (by omega) (by omega)).mono ?_
        rintro e w6 ⟨rfl, hb⟩
        have B6 := Lib.hid (B5.out.trans (hb.mono B5.out.size))
        clear hb
        go_wp2_with fail
        refine (stms_any _ _ _ _ g0 g4 (by omega) (by omega) (by omega) (by omega)).mono ?_
        rintro e w7 ⟨rfl, hb⟩
        have B7 := Lib.hid (B6.out.trans (hb.mono B6.out.size))
        clear hb
        go_wp2
        go_ret
        exact ⟨by rw [HX.out]; rfl, B7.out⟩
theorem senk_any (g s v n f : Int) (w : World) : Calls Tryd.prog 47 #[.int .i64 g, .int .i64 s, .int .i64 v, .int .i64 n, .int .i64 f] w fun e w' => e = .returned (.bool (envK g s v n f)) ∧ Below w.heap.size w w' := by
  by_cases h1 : 0 < v
  rotate_left
  · have HX := Lib.hid (show envK g s v n f = false by rw [← envK_pos, decide_eq_false h1]; rfl)
    have h0 : decide (0 < v) = false := decide_eq_false h1
    go_enter Tryd.func47, Tryd.ntmps47
    go_wp2
    go_ret
    exact ⟨by rw [HX.out]; rfl, Below.refl _ _⟩
  · have h0 : decide (0 < v) = true := decide_eq_true h1
    by_cases h2 : envO g s n f = v
    · have h3 : (envO g s n f == v) = true := by simpa using h2
      have HX := Lib.hid (show envK g s v n f = true by rw [← envK_pos, h0, h3]; rfl)
      clear h2
      go_enter Tryd.func47, Tryd.ntmps47
      go_wp2_with fail
      refine (senv_any _ _ _ _ _).mono ?_
      rintro e w1 ⟨rfl, hb⟩
      have B1 := Lib.hid hb
      clear hb
      go_wp2
      go_ret
      exact ⟨by rw [HX.out]; rfl, B1.out⟩
    · have h3 : (envO g s n f == v) = false := by simpa using h2
      have HX := Lib.hid (show envK g s v n f = false by rw [← envK_pos, h0, h3]; rfl)
      clear h2
      go_enter Tryd.func47, Tryd.ntmps47
      go_wp2_with fail
      refine (senv_any _ _ _ _ _).mono ?_
      rintro e w1 ⟨rfl, hb⟩
      have B1 := Lib.hid hb
      clear hb
      go_wp2
      go_ret
      exact ⟨by rw [HX.out]; rfl, B1.out⟩
theorem senk_is {g s v n f : Int} {r : Bool} (h : envK g s v n f = r) (w : World) : Calls Tryd.prog 47 #[.int .i64 g, .int .i64 s, .int .i64 v, .int .i64 n, .int .i64 f] w fun e w' => e = .returned (.bool r) ∧ Below w.heap.size w w' := by rw [← h]; exact senk_any _ _ _ _ _ w
theorem ssum_any (g a b t : Int) (w : World) : Calls Tryd.prog 17 #[.int .i64 g, .int .i64 a, .int .i64 b, .int .i64 t] w fun e w' => e = .returned (.int .i64 (envS g a b t)) ∧ Below w.heap.size w w' := by
  cases h1 : elB g a
  · have HX := Lib.hid (envS_no (g := g) (a := a) (b := b) (t := t) (fun k => by rw [h1] at k; exact absurd k.1 (by decide)))
    go_enter Tryd.func17, Tryd.ntmps17
    go_wp2_with fail
    refine (sel_q h1 _).mono ?_
    rintro e w1 ⟨rfl, hb⟩
    have B1 := Lib.hid hb
    clear hb
    go_wp2
    go_ret
    exact ⟨by rw [HX.out]; rfl, B1.out⟩
  · cases h2 : elB g b
    · have HX := Lib.hid (envS_no (g := g) (a := a) (b := b) (t := t) (fun k => by rw [h2] at k; exact absurd k.2.1 (by decide)))
      go_enter Tryd.func17, Tryd.ntmps17
      go_wp2_with fail
      refine (sel_q h1 _).mono ?_
      rintro e w1 ⟨rfl, hb⟩
      have B1 := Lib.hid hb
      clear hb
      go_wp2_with fail
      refine (sel_q h2 _).mono ?_
      rintro e w2 ⟨rfl, hb⟩
      have B2 := Lib.hid (B1.out.trans (hb.mono B1.out.size))
      clear hb
      go_wp2
      go_ret
      exact ⟨by rw [HX.out]; rfl, B2.out⟩
    · cases h3 : exB g t
      · have HX := Lib.hid (envS_no (g := g) (a := a) (b := b) (t := t) (fun k => by rw [h3] at k; exact absurd k.2.2 (by decide)))
        go_enter Tryd.func17, Tryd.ntmps17
        go_wp2_with fail
        refine (sel_q h1 _).mono ?_
        rintro e w1 ⟨rfl, hb⟩
        have B1 := Lib.hid hb
        clear hb
        go_wp2_with fail
        refine (sel_q h2 _).mono ?_
        rintro e w2 ⟨rfl, hb⟩
        have B2 := Lib.hid (B1.out.trans (hb.mono B1.out.size))
        clear hb
        go_wp2_with fail
        refine (sex_q h3 _).mono ?_
        rintro e w3 ⟨rfl, hb⟩
        have B3 := Lib.hid (B2.out.trans (hb.mono B2.out.size))
        clear hb
        go_wp2
        go_ret
        exact ⟨by rw [HX.out]; rfl, B3.out⟩
      · skip
        have HX := Lib.hid (envS_yes h1 h2 h3)
        obtain ⟨⟨g0, g4⟩, t0, t1⟩ := exB_true.1 h3
        obtain ⟨o1, o2⟩ := ord_bd g0 g4
        obtain ⟨p1, p2⟩ := prm_bd g0 g4
        obtain ⟨a0, a1, a2⟩ := elB_bound h1
        obtain ⟨b0, b1, b2⟩ := elB_bound h2
        have P1 := pw_bound (prm g) b (by omega) (t % ord g).toNat
        go_enter Tryd.func17, Tryd.ntmps17
        go_wp2_with fail
        refine (sel_q h1 _).mono ?_
        rintro e w1 ⟨rfl, hb⟩
        have B1 := Lib.hid hb
        clear hb
        go_wp2_with fail
        refine (sel_q h2 _).mono ?_
        rintro e w2 ⟨rfl, hb⟩
        have B2 := Lib.hid (B1.out.trans (hb.mono B1.out.size))
        clear hb
        go_wp2_with fail
        refine (sex_q h3 _).mono ?_
        rintro e w3 ⟨rfl, hb⟩
        have B3 := Lib.hid (B2.out.trans (hb.mono B2.out.size))
        clear hb
        go_wp2_with fail
        refine (spow_any _ _ _ _ g0 g4 (by omega) (by omega) (by omega) (by omega)).mono ?_
        rintro e w4 ⟨rfl, hb⟩
        have B4 := Lib.hid (B3.out.trans (hb.mono B3.out.size))
        clear hb
        go_wp2_with fail
        refine (stms_any _ _ _ _ g0 g4 (by omega) (by omega) (by omega) (by omega)).mono ?_
        rintro e w5 ⟨rfl, hb⟩
        have B5 := Lib.hid (B4.out.trans (hb.mono B4.out.size))
        clear hb
        go_wp2
        go_ret
        exact ⟨by rw [HX.out]; rfl, B5.out⟩
theorem sbase_no (g s v a x b y : Int) (w : World) (h : ¬ (envK g s v a x = true ∧ envK g s v b y = true ∧ a ≠ b)) : Calls Tryd.prog 19 #[.int .i64 g, .int .i64 s, .int .i64 v, .int .i64 a, .int .i64 x, .int .i64 b, .int .i64 y] w fun e w' => e = .returned (.tuple #[.int .i64 (-1), .bool false]) ∧ Below w.heap.size w w' := by
  cases h1 : envK g s v a x
  · clear h
    go_enter Tryd.func19, Tryd.ntmps19
    go_wp2_with fail
    refine (senk_is h1 _).mono ?_
    rintro e w1 ⟨rfl, hb⟩
    have B1 := Lib.hid hb
    clear hb
    go_wp2
    go_ret2
    exact ⟨rfl, B1.out⟩
  · cases h2 : envK g s v b y
    · clear h
      go_enter Tryd.func19, Tryd.ntmps19
      go_wp2_with fail
      refine (senk_is h1 _).mono ?_
      rintro e w1 ⟨rfl, hb⟩
      have B1 := Lib.hid hb
      clear hb
      go_wp2_with fail
      refine (senk_is h2 _).mono ?_
      rintro e w2 ⟨rfl, hb⟩
      have B2 := Lib.hid (B1.out.trans (hb.mono B1.out.size))
      clear hb
      go_wp2
      go_ret2
      exact ⟨rfl, B2.out⟩
    · have h3 : (a == b) = true := by
        by_cases h4 : a = b
        · simpa using h4
        · exact absurd ⟨h1, h2, h4⟩ h
      clear h
      go_enter Tryd.func19, Tryd.ntmps19
      go_wp2_with fail
      refine (senk_is h1 _).mono ?_
      rintro e w1 ⟨rfl, hb⟩
      have B1 := Lib.hid hb
      clear hb
      go_wp2_with fail
      refine (senk_is h2 _).mono ?_
      rintro e w2 ⟨rfl, hb⟩
      have B2 := Lib.hid (B1.out.trans (hb.mono B1.out.size))
      clear hb
      go_wp2
      go_ret2
      exact ⟨rfl, B2.out⟩
theorem sbase_yes (g s v a x b y : Int) (w : World) (h1 : envK g s v a x = true) (h2 : envK g s v b y = true) (hne : a ≠ b) : Calls Tryd.prog 19 #[.int .i64 g, .int .i64 s, .int .i64 v, .int .i64 a, .int .i64 x, .int .i64 b, .int .i64 y] w fun e w' => e = .returned (.tuple #[.int .i64 (baseF g a x b y), .bool true]) ∧ Below w.heap.size w w' := by
  have hxy := base_ne h1 h2 hne
  obtain ⟨_, ha, hx⟩ := envK_all h1
  obtain ⟨_, hb', hy⟩ := envK_all h2
  obtain ⟨⟨g0, g4⟩, a0, a1⟩ := exB_true.1 ha
  obtain ⟨_, b0, b1⟩ := exB_true.1 hb'
  obtain ⟨_, x0, x1⟩ := exB_true.1 hx
  obtain ⟨_, y0, y1⟩ := exB_true.1 hy
  obtain ⟨o1, o2⟩ := ord_bd g0 g4
  have h3 : (a == b) = false := by simpa using hne
  have l3 : -9999 ≤ a - b := by omega
  have l4 : a - b ≤ 9999 := by omega
  have l5 : -9999 ≤ y - x := by omega
  have l6 : y - x ≤ 9999 := by omega
  have hz : (ord g == 0) = false := by rw [beq_eq_false_iff_ne]; omega
  have hz2 : ¬ ord g = 0 := by omega
  have m1 := Int.emod_nonneg (a - b) hz2
  have m2 := Int.emod_lt_of_pos (a - b) (show 0 < ord g by omega)
  obtain ⟨d1, d2⟩ := back_bd hy hx hxy
  have p0 : 0 ≤ (a - b) % ord g * gback g ((y - x) % ord g) := Int.mul_nonneg m1 d1
  have p1 : (a - b) % ord g * gback g ((y - x) % ord g) ≤ 23 * 23 := Int.mul_le_mul (by omega) (by omega) (by omega) (by omega)
  have e1 : ((a - b) % ord g * gback g ((y - x) % ord g)).tmod (ord g) = (a - b) % ord g * gback g ((y - x) % ord g) % ord g := Int.tmod_eq_emod_of_nonneg p0
  clear hne hxy ha hx hb' hy
  go_enter Tryd.func19, Tryd.ntmps19
  go_wp2_with fail
  refine (senk_is h1 _).mono ?_
  rintro e w1 ⟨rfl, hb⟩
  have B1 := Lib.hid hb
  clear hb
  go_wp2_with fail
  refine (senk_is h2 _).mono ?_
  rintro e w2 ⟨rfl, hb⟩
  have B2 := Lib.hid (B1.out.trans (hb.mono B1.out.size))
  clear hb
  go_wp2_with fail
  refine (sord_any _ _).mono ?_
  rintro e w3 ⟨rfl, hb⟩
  have B3 := Lib.hid (B2.out.trans (hb.mono B2.out.size))
  clear hb
  go_wp2_with fail
  refine (smod_b _ _ _ (by omega) (by omega) (by omega) (by omega)).mono ?_
  rintro e w4 ⟨rfl, hb⟩
  have B4 := Lib.hid (B3.out.trans (hb.mono B3.out.size))
  clear hb
  go_wp2_with fail
  refine (smod_b _ _ _ (by omega) (by omega) (by omega) (by omega)).mono ?_
  rintro e w5 ⟨rfl, hb⟩
  have B5 := Lib.hid (B4.out.trans (hb.mono B4.out.size))
  clear hb
  go_wp2_with fail
  refine (sback_any _ _ _).mono ?_
  rintro e w6 ⟨rfl, hb⟩
  have B6 := Lib.hid (B5.out.trans (hb.mono B5.out.size))
  clear hb
  go_wp2
  go_ret2
  exact ⟨rfl, B6.out⟩

end Go.Proofs.YtljekapbcphdaaaDoor
