/- impl: SecondOk, EnvelopeOf, EnvelopeOk, envelopeIn, EnvelopeSum, BaseFrom. -/
import Derived.Test.YtljekapbcphdaabDoorImplT
import Derived.Test.YtljekapbcphdaabDoorPureE
namespace Go.Proofs.YtljekapbcphdaabDoor
open Go.RowKit

theorem env_tim {g s n f : Int} (h1 : sndB g s = true) (h2 : exB g n = true) (h3 : exB g f = true) : envO g s n f = tim g (keyOf g n) (gpow g s f) := by
  obtain ⟨hs, _⟩ := snd_true.1 h1
  obtain ⟨⟨g0, g4⟩, f0, f1⟩ := exB_true.1 h3
  obtain ⟨o1, o2⟩ := ord_bd g0 g4
  rw [envO_yes h1 h2 h3, key_yes h2, gpow_gp hs (by omega) (by omega), tim_yes (gp_el (bas_el g0 g4) n) (gp_el hs f)]
theorem sum_tim {g a b t : Int} (h1 : elB g a = true) (h2 : elB g b = true) (h3 : exB g t = true) : envS g a b t = tim g a (gpow g b t) := by
  obtain ⟨⟨g0, g4⟩, f0, f1⟩ := exB_true.1 h3
  obtain ⟨o1, o2⟩ := ord_bd g0 g4
  rw [envS_yes h1 h2 h3, gpow_gp h2 (by omega) (by omega), tim_yes h1 (gp_el h2 t)]
theorem iel_q {g a : Int} {r : Bool} (h : elB g a = r) (w : World) (G : Gr w) : Calls Tryd.prog 49 #[.int .i64 g, .int .i64 a] w fun e w' => e = .returned (.bool r) ∧ Below w.heap.size w w' := by rw [← h]; exact iel_b _ _ w G
theorem iex_q {g n : Int} {r : Bool} (h : exB g n = r) (w : World) (G : Gr w) : Calls Tryd.prog 61 #[.int .i64 g, .int .i64 n] w fun e w' => e = .returned (.bool r) ∧ Below w.heap.size w w' := by rw [← h]; exact iex_b _ _ w G
theorem isnd_any (g s : Int) (w : World) (G : Gr w) : Calls Tryd.prog 92 #[.int .i64 g, .int .i64 s] w fun e w' => e = .returned (.bool (sndB g s)) ∧ Below w.heap.size w w' := by
  cases h1 : elB g s
  · have HX := Lib.hid (snd_false.2 (fun k => by rw [h1] at k; exact absurd k.1 (by decide)) : sndB g s = false)
    go_enter Tryd.func92, Tryd.ntmps92
    go_wp2_with fail
    refine (iel_q h1 _ G).mono ?_
    rintro e w1 ⟨rfl, hb⟩
    have B1 := Lib.hid hb
    have G1 := Lib.hid (G.on hb)
    clear hb
    go_wp2
    go_ret
    exact ⟨by rw [HX.out]; rfl, B1.out⟩
  · by_cases h2 : s = 1
    · have HX := Lib.hid (snd_false.2 (fun k => k.2 h2) : sndB g s = false)
      have h3 : (s != 1) = false := by simpa using h2
      clear h2
      go_enter Tryd.func92, Tryd.ntmps92
      go_wp2_with fail
      refine (iel_q h1 _ G).mono ?_
      rintro e w1 ⟨rfl, hb⟩
      have B1 := Lib.hid hb
      have G1 := Lib.hid (G.on hb)
      clear hb
      go_wp2
      go_ret
      exact ⟨by rw [HX.out]; rfl, B1.out⟩
    · have HX := Lib.hid (snd_true.2 ⟨h1, h2⟩ : sndB g s = true)
      have h3 : (s != 1) = true := by simpa using h2
      clear h2
      go_enter Tryd.func92, Tryd.ntmps92
      go_wp2_with fail
      refine (iel_q h1 _ G).mono ?_
      rintro e w1 ⟨rfl, hb⟩
      have B1 := Lib.hid hb
      have G1 := Lib.hid (G.on hb)
      clear hb
      go_wp2
      go_ret
      exact ⟨by rw [HX.out]; rfl, B1.out⟩
theorem isnd_is {g s : Int} {r : Bool} (h : sndB g s = r) (w : World) (G : Gr w) : Calls Tryd.prog 92 #[.int .i64 g, .int .i64 s] w fun e w' => e = .returned (.bool r) ∧ Below w.heap.size w w' := by rw [← h]; exact isnd_any _ _ w G
theorem ienv_any (g s n f : Int) (w : World) (G : Gr w) : Calls Tryd.prog 50 #[.int .i64 g, .int .i64 s, .int .i64 n, .int .i64 f] w fun e w' => e = .returned (.int .i64 (envO g s n f)) ∧ Below w.heap.size w w' := by
  cases h1 : sndB g s
  · have HX := Lib.hid (envO_no (g := g) (s := s) (n := n) (f := f) (fun k => by rw [h1] at k; exact absurd k.1 (by decide)))
    go_enter Tryd.func50, Tryd.ntmps50
    go_wp2_with fail
    refine (isnd_is h1 _ G).mono ?_
    rintro e w1 ⟨rfl, hb⟩
    have B1 := Lib.hid hb
    have G1 := Lib.hid (G.on hb)
    clear hb
    go_wp2
    go_ret
    exact ⟨by rw [HX.out]; rfl, B1.out⟩
  · cases h2 : exB g n
    · have HX := Lib.hid (envO_no (g := g) (s := s) (n := n) (f := f) (fun k => by rw [h2] at k; exact absurd k.2.1 (by decide)))
      go_enter Tryd.func50, Tryd.ntmps50
      go_wp2_with fail
      refine (isnd_is h1 _ G).mono ?_
      rintro e w1 ⟨rfl, hb⟩
      have B1 := Lib.hid hb
      have G1 := Lib.hid (G.on hb)
      clear hb
      go_wp2_with fail
      refine (iex_q h2 _ G1.out).mono ?_
      rintro e w2 ⟨rfl, hb⟩
      have B2 := Lib.hid (B1.out.trans (hb.mono B1.out.size))
      have G2 := Lib.hid (G1.out.on hb)
      clear hb
      go_wp2
      go_ret
      exact ⟨by rw [HX.out]; rfl, B2.out⟩
    · cases h3 : exB g f
      · have HX := Lib.hid (envO_no (g := g) (s := s) (n := n) (f := f) (fun k => by rw [h3] at k; exact absurd k.2.2 (by decide)))
        go_enter Tryd.func50, Tryd.ntmps50
        go_wp2_with fail
        refine (isnd_is h1 _ G).mono ?_
        rintro e w1 ⟨rfl, hb⟩
        have B1 := Lib.hid hb
        have G1 := Lib.hid (G.on hb)
        clear hb
        go_wp2_with fail
        refine (iex_q h2 _ G1.out).mono ?_
        rintro e w2 ⟨rfl, hb⟩
        have B2 := Lib.hid (B1.out.trans (hb.mono B1.out.size))
        have G2 := Lib.hid (G1.out.on hb)
        clear hb
        go_wp2_with fail
        refine (iex_q h3 _ G2.out).mono ?_
        rintro e w3 ⟨rfl, hb⟩
        have B3 := Lib.hid (B2.out.trans (hb.mono B2.out.size))
        have G3 := Lib.hid (G2.out.on hb)
        clear hb
        go_wp2
        go_ret
        exact ⟨by rw [HX.out]; rfl, B3.out⟩
      · skip
        have HX := Lib.hid (env_tim h1 h2 h3)
        obtain ⟨⟨g0, g4⟩, f0, f1⟩ := exB_true.1 h3
        clear g0 g4 f0 f1
        go_enter Tryd.func50, Tryd.ntmps50
        go_wp2_with fail
        refine (isnd_is h1 _ G).mono ?_
        rintro e w1 ⟨rfl, hb⟩
        have B1 := Lib.hid hb
        have G1 := Lib.hid (G.on hb)
        clear hb
        go_wp2_with fail
        refine (iex_q h2 _ G1.out).mono ?_
        rintro e w2 ⟨rfl, hb⟩
        have B2 := Lib.hid (B1.out.trans (hb.mono B1.out.size))
        have G2 := Lib.hid (G1.out.on hb)
        clear hb
        go_wp2_with fail
        refine (iex_q h3 _ G2.out).mono ?_
        rintro e w3 ⟨rfl, hb⟩
        have B3 := Lib.hid (B2.out.trans (hb.mono B2.out.size))
        have G3 := Lib.hid (G2.out.on hb)
        clear hb
        go_wp2_with fail
        refine (ikey_any _ _ _ G3.out).mono ?_
        rintro e w4 ⟨rfl, hb⟩
        have B4 := Lib.hid (B3.out.trans (hb.mono B3.out.size))
        have G4 := Lib.hid (G3.out.on hb)
        clear hb
        go_wp2_with fail
        refine (ipow_b _ _ _ _ G4.out).mono ?_
        rintro e w5 ⟨rfl, hb⟩
        have B5 := Lib.hid (B4.out.trans (hb.mono B4.out.size))
        have G5 := Lib.hid (G4.out.on hb)
        clear hb
        go_wp2_with fail
        refine (itim_b _ _ _ _ G5.out).mono ?_
        rintro e w6 ⟨rfl, hb⟩
        have B6 := Lib.hid (B5.out.trans (hb.mono B5.out.size))
        have G6 := Lib.hid (G5.out.on hb)
        clear hb
        go_wp2
        go_ret
        exact ⟨by rw [HX.out]; rfl, B6.out⟩
theorem ienk_any (g s v n f : Int) (w : World) (G : Gr w) : Calls Tryd.prog 14 #[.int .i64 g, .int .i64 s, .int .i64 v, .int .i64 n, .int .i64 f] w fun e w' => e = .returned (.bool (envK g s v n f)) ∧ Below w.heap.size w w' := by
  cases h1 : elB g v
  · have HX := Lib.hid (show envK g s v n f = false by unfold envK; rw [h1]; rfl)
    go_enter Tryd.func14, Tryd.ntmps14
    go_wp2_with fail
    refine (iel_q h1 _ G).mono ?_
    rintro e w1 ⟨rfl, hb⟩
    have B1 := Lib.hid hb
    have G1 := Lib.hid (G.on hb)
    clear hb
    go_wp2
    go_ret
    exact ⟨by rw [HX.out]; rfl, B1.out⟩
  · by_cases h2 : envO g s n f = v
    · have HX := Lib.hid (show envK g s v n f = true by unfold envK; rw [h1, decide_eq_true h2]; rfl)
      have h3 : (envO g s n f == v) = true := by simpa using h2
      clear h2
      go_enter Tryd.func14, Tryd.ntmps14
      go_wp2_with fail
      refine (iel_q h1 _ G).mono ?_
      rintro e w1 ⟨rfl, hb⟩
      have B1 := Lib.hid hb
      have G1 := Lib.hid (G.on hb)
      clear hb
      go_wp2_with fail
      refine (ienv_any _ _ _ _ _ G1.out).mono ?_
      rintro e w2 ⟨rfl, hb⟩
      have B2 := Lib.hid (B1.out.trans (hb.mono B1.out.size))
      have G2 := Lib.hid (G1.out.on hb)
      clear hb
      go_wp2
      go_ret
      exact ⟨by rw [HX.out]; rfl, B2.out⟩
    · have HX := Lib.hid (show envK g s v n f = false by unfold envK; rw [h1, decide_eq_false h2]; rfl)
      have h3 : (envO g s n f == v) = false := by simpa using h2
      clear h2
      go_enter Tryd.func14, Tryd.ntmps14
      go_wp2_with fail
      refine (iel_q h1 _ G).mono ?_
      rintro e w1 ⟨rfl, hb⟩
      have B1 := Lib.hid hb
      have G1 := Lib.hid (G.on hb)
      clear hb
      go_wp2_with fail
      refine (ienv_any _ _ _ _ _ G1.out).mono ?_
      rintro e w2 ⟨rfl, hb⟩
      have B2 := Lib.hid (B1.out.trans (hb.mono B1.out.size))
      have G2 := Lib.hid (G1.out.on hb)
      clear hb
      go_wp2
      go_ret
      exact ⟨by rw [HX.out]; rfl, B2.out⟩
theorem ienk_is {g s v n f : Int} {r : Bool} (h : envK g s v n f = r) (w : World) (G : Gr w) : Calls Tryd.prog 14 #[.int .i64 g, .int .i64 s, .int .i64 v, .int .i64 n, .int .i64 f] w fun e w' => e = .returned (.bool r) ∧ Below w.heap.size w w' := by rw [← h]; exact ienk_any _ _ _ _ _ w G
theorem ienin_any (g s v : Int) (w : World) (G : Gr w) : Calls Tryd.prog 54 #[.int .i64 g, .int .i64 s, .int .i64 v] w fun e w' => e = .returned (.bool (envI g s v)) ∧ Below w.heap.size w w' := by
  cases h1 : sndB g s
  · have HX := Lib.hid (show envI g s v = false by unfold envI; rw [h1]; rfl)
    go_enter Tryd.func54, Tryd.ntmps54
    go_wp2_with fail
    refine (isnd_is h1 _ G).mono ?_
    rintro e w1 ⟨rfl, hb⟩
    have B1 := Lib.hid hb
    have G1 := Lib.hid (G.on hb)
    clear hb
    go_wp2
    go_ret
    exact ⟨by rw [HX.out]; rfl, B1.out⟩
  · cases h2 : elB g v
    · have HX := Lib.hid (show envI g s v = false by unfold envI; rw [h1, h2]; rfl)
      go_enter Tryd.func54, Tryd.ntmps54
      go_wp2_with fail
      refine (isnd_is h1 _ G).mono ?_
      rintro e w1 ⟨rfl, hb⟩
      have B1 := Lib.hid hb
      have G1 := Lib.hid (G.on hb)
      clear hb
      go_wp2_with fail
      refine (iel_q h2 _ G1.out).mono ?_
      rintro e w2 ⟨rfl, hb⟩
      have B2 := Lib.hid (B1.out.trans (hb.mono B1.out.size))
      have G2 := Lib.hid (G1.out.on hb)
      clear hb
      go_wp2
      go_ret
      exact ⟨by rw [HX.out]; rfl, B2.out⟩
    · have HX := Lib.hid (show envI g s v = true by unfold envI; rw [h1, h2]; rfl)
      go_enter Tryd.func54, Tryd.ntmps54
      go_wp2_with fail
      refine (isnd_is h1 _ G).mono ?_
      rintro e w1 ⟨rfl, hb⟩
      have B1 := Lib.hid hb
      have G1 := Lib.hid (G.on hb)
      clear hb
      go_wp2_with fail
      refine (iel_q h2 _ G1.out).mono ?_
      rintro e w2 ⟨rfl, hb⟩
      have B2 := Lib.hid (B1.out.trans (hb.mono B1.out.size))
      have G2 := Lib.hid (G1.out.on hb)
      clear hb
      go_wp2
      go_ret
      exact ⟨by rw [HX.out]; rfl, B2.out⟩
theorem ienin_is {g s v : Int} {r : Bool} (h : envI g s v = r) (w : World) (G : Gr w) : Calls Tryd.prog 54 #[.int .i64 g, .int .i64 s, .int .i64 v] w fun e w' => e = .returned (.bool r) ∧ Below w.heap.size w w' := by rw [← h]; exact ienin_any _ _ _ w G
end Go.Proofs.YtljekapbcphdaabDoor
