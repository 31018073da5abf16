/- spec: SecondOk, EnvelopeOf, EnvelopeOk, EnvelopeSum, BaseFrom. -/
import Derived.Test.YtljekapbcphdaabDoorEnvI
import Derived.Test.YtljekapbcphdaabDoorTalkS3
namespace Go.Proofs.YtljekapbcphdaabDoor
open Go.RowKit

theorem smod_b (n q : Int) (w : World) (h1 : -9999 ≤ n) (h2 : n ≤ 9999) (q1 : 1 ≤ q) (q2 : q ≤ 100) : Calls Tryd.prog 96 #[.int .i64 n, .int .i64 q] w fun e w' => e = .returned (.int .i64 (n % q)) ∧ Below w.heap.size w w' := (smod_any n q w h1 h2 q1 q2).mono fun _ _ ⟨he, hw⟩ => ⟨he, by rw [← hw]; exact Below.refl _ _⟩
theorem sel_q {g a : Int} {r : Bool} (h : elB g a = r) (w : World) : Calls Tryd.prog 52 #[.int .i64 g, .int .i64 a] w fun e w' => e = .returned (.bool r) ∧ Below w.heap.size w w' := by rw [← h]; exact sel_any _ _ w
theorem sex_q {g n : Int} {r : Bool} (h : exB g n = r) (w : World) : Calls Tryd.prog 58 #[.int .i64 g, .int .i64 n] w fun e w' => e = .returned (.bool r) ∧ Below w.heap.size w w' := by rw [← h]; exact sex_any _ _ w
theorem ssnd_any (g s : Int) (w : World) : Calls Tryd.prog 51 #[.int .i64 g, .int .i64 s] w fun e w' => e = .returned (.bool (sndB g s)) ∧ Below w.heap.size w w' := by
  cases h1 : elB g s
  · have HX := Lib.hid (snd_false.2 (fun k => by rw [h1] at k; exact absurd k.1 (by decide)) : sndB g s = false)
    go_enter Tryd.func51, Tryd.ntmps51
    go_wp2_with fail
    refine (sel_q h1 _).mono ?_
    rintro e w1 ⟨rfl, hb⟩
    have B1 := Lib.hid hb
    clear hb
    go_wp2
    go_ret
    exact ⟨by rw [HX.out]; rfl, B1.out⟩
  · by_cases h2 : s = 1
    · have HX := Lib.hid (snd_false.2 (fun k => k.2 h2) : sndB g s = false)
      have h3 : (s != 1) = false := by simpa using h2
      clear h2
      go_enter Tryd.func51, Tryd.ntmps51
      go_wp2_with fail
      refine (sel_q h1 _).mono ?_
      rintro e w1 ⟨rfl, hb⟩
      have B1 := Lib.hid hb
      clear hb
      go_wp2
      go_ret
      exact ⟨by rw [HX.out]; rfl, B1.out⟩
    · have HX := Lib.hid (snd_true.2 ⟨h1, h2⟩ : sndB g s = true)
      have h3 : (s != 1) = true := by simpa using h2
      clear h2
      go_enter Tryd.func51, Tryd.ntmps51
      go_wp2_with fail
      refine (sel_q h1 _).mono ?_
      rintro e w1 ⟨rfl, hb⟩
      have B1 := Lib.hid hb
      clear hb
      go_wp2
      go_ret
      exact ⟨by rw [HX.out]; rfl, B1.out⟩
theorem ssnd_is {g s : Int} {r : Bool} (h : sndB g s = r) (w : World) : Calls Tryd.prog 51 #[.int .i64 g, .int .i64 s] w fun e w' => e = .returned (.bool r) ∧ Below w.heap.size w w' := by rw [← h]; exact ssnd_any _ _ w
theorem senv_any (g s n f : Int) (w : World) : Calls Tryd.prog 48 #[.int .i64 g, .int .i64 s, .int .i64 n, .int .i64 f] w fun e w' => e = .returned (.int .i64 (envO g s n f)) ∧ Below w.heap.size w w' := by
  cases h1 : sndB g s
  · have HX := Lib.hid (envO_no (g := g) (s := s) (n := n) (f := f) (fun k => by rw [h1] at k; exact absurd k.1 (by decide)))
    go_enter Tryd.func48, Tryd.ntmps48
    go_wp2_with fail
    refine (ssnd_is h1 _).mono ?_
    rintro e w1 ⟨rfl, hb⟩
    have B1 := Lib.hid hb
    clear hb
    go_wp2
    go_ret
    exact ⟨by rw [HX.out]; rfl, B1.out⟩
  · cases h2 : exB g n
    · have HX := Lib.hid (envO_no (g := g) (s := s) (n := n) (f := f) (fun k => by rw [h2] at k; exact absurd k.2.1 (by decide)))
      go_enter Tryd.func48, Tryd.ntmps48
      go_wp2_with fail
      refine (ssnd_is h1 _).mono ?_
      rintro e w1 ⟨rfl, hb⟩
      have B1 := Lib.hid hb
      clear hb
      go_wp2_with fail
      refine (sex_q h2 _).mono ?_
      rintro e w2 ⟨rfl, hb⟩
      have B2 := Lib.hid (B1.out.trans (hb.mono B1.out.size))
      clear hb
      go_wp2
      go_ret
      exact ⟨by rw [HX.out]; rfl, B2.out⟩
    · cases h3 : exB g f
      · have HX := Lib.hid (envO_no (g := g) (s := s) (n := n) (f := f) (fun k => by rw [h3] at k; exact absurd k.2.2 (by decide)))
        go_enter Tryd.func48, Tryd.ntmps48
        go_wp2_with fail
        refine (ssnd_is h1 _).mono ?_
        rintro e w1 ⟨rfl, hb⟩
        have B1 := Lib.hid hb
        clear hb
        go_wp2_with fail
        refine (sex_q h2 _).mono ?_
        rintro e w2 ⟨rfl, hb⟩
        have B2 := Lib.hid (B1.out.trans (hb.mono B1.out.size))
        clear hb
        go_wp2_with fail
        refine (sex_q h3 _).mono ?_
        rintro e w3 ⟨rfl, hb⟩
        have B3 := Lib.hid (B2.out.trans (hb.mono B2.out.size))
        clear hb
        go_wp2
        go_ret
        exact ⟨by rw [HX.out]; rfl, B3.out⟩
      · skip
        have HX := Lib.hid (envO_yes h1 h2 h3)
        obtain ⟨⟨g0, g4⟩, n0, n1⟩ := exB_true.1 h2
        obtain ⟨_, f0, f1⟩ := exB_true.1 h3
        obtain ⟨o1, o2⟩ := ord_bd g0 g4
        obtain ⟨p1, p2⟩ := prm_bd g0 g4
        obtain ⟨b1, b2⟩ := bas_bd g0 g4
        obtain ⟨s0, s1, s2⟩ := elB_bound (snd_true.1 h1).1
        have P1 := pw_bound (prm g) (bas g) (by omega) (n % ord g).toNat
        have P2 := pw_bound (prm g) s (by omega) (f % ord g).toNat
        go_enter Tryd.func48, Tryd.ntmps48
        go_wp2_with fail
        refine (ssnd_is h1 _).mono ?_
        rintro e w1 ⟨rfl, hb⟩
        have B1 := Lib.hid hb
        clear hb
        go_wp2_with fail
        refine (sex_q h2 _).mono ?_
        rintro e w2 ⟨rfl, hb⟩
        have B2 := Lib.hid (B1.out.trans (hb.mono B1.out.size))
        clear hb
        go_wp2_with fail
        refine (sex_q h3 _).mono ?_
        rintro e w3 ⟨rfl, hb⟩
        have B3 := Lib.hid (B2.out.trans (hb.mono B2.out.size))
        clear hb
        go_wp2_with fail
        refine (sbas_any _ _).mono ?_
        rintro e w4 ⟨rfl, hb⟩
        have B4 := Lib.hid (B3.out.trans (hb.mono B3.out.size))
        clear hb
        go_wp2_with fail
        refine (spow_any _ _ _ _ g0 g4 (by omega) (by omega) (by omega) (by omega)).mono ?_
        rintro e w5 ⟨rfl, hb⟩
        have B5 := Lib.hid (B4.out.trans (hb.mono B4.out.size))
        clear hb
        go_wp2_with fail
        refine (spow_any _ _ _ _ g0 g4 (by omega) (by omega) (by omega) (by omega)).mono ?_
        rintro e w6 ⟨rfl, hb⟩
        have B6 := Lib.hid (B5.out.trans (hb.mono B5.out.size))
        clear hb
        go_wp2_with fail
        refine (stms_any _ _ _ _ g0 g4 (by omega) (by omega) (by omega) (by omega)).mono ?_
        rintro e w7 ⟨rfl, hb⟩
        have B7 := Lib.hid (B6.out.trans (hb.mono B6.out.size))
        clear hb
        go_wp2
        go_ret
        exact ⟨by rw [HX.out]; rfl, B7.out⟩
theorem senk_any (g s v n f : Int) (w : World) : Calls Tryd.prog 13 #[.int .i64 g, .int .i64 s, .int .i64 v, .int .i64 n, .int .i64 f] w fun e w' => e = .returned (.bool (envK g s v n f)) ∧ Below w.heap.size w w' := by
  by_cases h1 : 0 < v
  rotate_left
  · have HX := Lib.hid (show envK g s v n f = false by rw [← envK_pos, decide_eq_false h1]; rfl)
    have h0 : decide (0 < v) = false := decide_eq_false h1
    go_enter Tryd.func13, Tryd.ntmps13
    go_wp2
    go_ret
    exact ⟨by rw [HX.out]; rfl, Below.refl _ _⟩
  · have h0 : decide (0 < v) = true := decide_eq_true h1
    by_cases h2 : envO g s n f = v
    · have h3 : (envO g s n f == v) = true := by simpa using h2
      have HX := Lib.hid (show envK g s v n f = true by rw [← envK_pos, h0, h3]; rfl)
      clear h2
      go_enter Tryd.func13, Tryd.ntmps13
      go_wp2_with fail
      refine (senv_any _ _ _ _ _).mono ?_
      rintro e w1 ⟨rfl, hb⟩
      have B1 := Lib.hid hb
      clear hb
      go_wp2
      go_ret
      exact ⟨by rw [HX.out]; rfl, B1.out⟩
    · have h3 : (envO g s n f == v) = false := by simpa using h2
      have HX := Lib.hid (show envK g s v n f = false by rw [← envK_pos, h0, h3]; rfl)
      clear h2
      go_enter Tryd.func13, Tryd.ntmps13
      go_wp2_with fail
      refine (senv_any _ _ _ _ _).mono ?_
      rintro e w1 ⟨rfl, hb⟩
      have B1 := Lib.hid hb
      clear hb
      go_wp2
      go_ret
      exact ⟨by rw [HX.out]; rfl, B1.out⟩
theorem senk_is {g s v n f : Int} {r : Bool} (h : envK g s v n f = r) (w : World) : Calls Tryd.prog 13 #[.int .i64 g, .int .i64 s, .int .i64 v, .int .i64 n, .int .i64 f] w fun e w' => e = .returned (.bool r) ∧ Below w.heap.size w w' := by rw [← h]; exact senk_any _ _ _ _ _ w
end Go.Proofs.YtljekapbcphdaabDoor
