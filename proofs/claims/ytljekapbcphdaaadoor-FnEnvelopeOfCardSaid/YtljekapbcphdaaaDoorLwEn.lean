/- The laws FnSecondOk, FnEnvelopeOf, FnBaseFrom, walked. -/
import Derived.Test.YtljekapbcphdaaaDoorDrawEn
import Derived.Test.YtljekapbcphdaaaDoorLawsA
namespace Go.Proofs.YtljekapbcphdaaaDoor
open Go.RowKit

theorem snd_bas (g : Int) : sndB g (bas g) = decide (0 < ord g) := by
  by_cases hg : 0 ≤ g ∧ g < 4
  · obtain ⟨o1, _⟩ := ord_bd hg.1 hg.2
    rw [decide_eq_true (by omega)]
    exact snd_true.2 ⟨bas_el hg.1 hg.2, bas_one hg.1 hg.2⟩
  · rw [ord_none hg, snd_false.2 (fun k => by rw [elB_none hg] at k; exact absurd k.1 (by decide))]; rfl
theorem snd_one (g : Int) : sndB g 1 = false := snd_false.2 fun k => k.2 rfl
theorem isnd_val {g s : Int} {r : Bool} (h : sndB g s = r) (w : World) (G : Gr w) : Calls Tryd.prog 14 #[.int .i64 g, .int .i64 s] w fun e w' => e = .returned (.bool r) ∧ Below w.heap.size w w' := isnd_is h w G
theorem ibas_b (g : Int) (w : World) (G : Gr w) : Calls Tryd.prog 27 #[.int .i64 g] w fun e w' => e = .returned (.int .i64 (bas g)) ∧ Below w.heap.size w w' := (ibas_any g w G).mono fun _ _ ⟨he, hw⟩ => ⟨he, by rw [← hw]; exact Below.refl _ _⟩
theorem iord_b (g : Int) (w : World) (G : Gr w) : Calls Tryd.prog 28 #[.int .i64 g] w fun e w' => e = .returned (.int .i64 (ord g)) ∧ Below w.heap.size w w' := (iord_any g w G).mono fun _ _ ⟨he, hw⟩ => ⟨he, by rw [← hw]; exact Below.refl _ _⟩


set_option maxHeartbeats 1600000 in
theorem lSecondOk_walk (c : Value) (w : World) (h : CodeIn w c) (G : Gr w) : Calls Tryd.prog 8 #[c] w fun e w' => e = .returned (.bool true) ∧ Below w.heap.size w w' := by
  obtain ⟨a0, len0, cap0, rfl⟩ := h.slice
  have H := Lib.hid h; clear h
  have G0 := Lib.hid G; clear G
  have B0 := Lib.hid (Below.refl w.heap.size w)
  by_cases hl : 1048576 < len0
  · go_enter Tryd.func8, Tryd.ntmps8
    go_wp2
    go_ret
    exact ⟨rfl, Below.refl _ _⟩
  go_enter Tryd.func8, Tryd.ntmps8
  go_wp2_with fail
  refine (drawSecondOk_any _ _ H.out).mono ?_
  rintro e w1 ⟨g, s, rfl, hb⟩
  have B1 := Lib.hid (Below.on B0.out hb)
  have G1 := Lib.hid (G0.out.on hb)
  clear hb
  obtain ⟨r, hr⟩ : ∃ r, sndB g s = r := ⟨_, rfl⟩
  have hrr : (r != r) = false := by simp
  obtain ⟨d, hd⟩ : ∃ d, decide (0 < ord g) = d := ⟨_, rfl⟩
  have hdd : (d == d) = true := by simp
  have HB := Lib.hid ((snd_bas g).trans hd)
  have HR := Lib.hid hr
  clear hr
  go_wp2_with fail
  refine (isnd_is HR.out _ G1.out).mono ?_
  rintro e w2 ⟨rfl, hb⟩
  have B2 := Lib.hid (Below.on B1.out hb)
  have G2 := Lib.hid (G1.out.on hb)
  clear hb
  go_wp2_with fail
  refine (ssnd_is HR.out _).mono ?_
  rintro e w3 ⟨rfl, hb⟩
  have B3 := Lib.hid (Below.on B2.out hb)
  have G3 := Lib.hid (G2.out.on hb)
  clear hb
  go_wp2_with fail
  refine (ibas_b _ _ G3.out).mono ?_
  rintro e w4 ⟨rfl, hb⟩
  have B4 := Lib.hid (Below.on B3.out hb)
  have G4 := Lib.hid (G3.out.on hb)
  clear hb
  go_wp2_with fail
  refine (isnd_is HB.out _ G4.out).mono ?_
  rintro e w5 ⟨rfl, hb⟩
  have B5 := Lib.hid (Below.on B4.out hb)
  have G5 := Lib.hid (G4.out.on hb)
  clear hb
  go_wp2_with fail
  refine (iord_b _ _ G5.out).mono ?_
  rintro e w6 ⟨rfl, hb⟩
  have B6 := Lib.hid (Below.on B5.out hb)
  have G6 := Lib.hid (G5.out.on hb)
  clear hb
  cases d
  · skip
    go_wp2_with fail
    refine (isnd_is (snd_one g) _ G6.out).mono ?_
    rintro e w7 ⟨rfl, hb⟩
    have B7 := Lib.hid (Below.on B6.out hb)
    have G7 := Lib.hid (G6.out.on hb)
    clear hb
    go_wp2_with fail
    refine (alive_any _ G7.out).mono ?_
    rintro e wz ⟨rfl, rfl⟩
    go_wp2
    go_ret
    exact ⟨rfl, B7.out⟩
  · skip
    go_wp2_with fail
    refine (isnd_is (snd_one g) _ G6.out).mono ?_
    rintro e w7 ⟨rfl, hb⟩
    have B7 := Lib.hid (Below.on B6.out hb)
    have G7 := Lib.hid (G6.out.on hb)
    clear hb
    go_wp2_with fail
    refine (alive_any _ G7.out).mono ?_
    rintro e wz ⟨rfl, rfl⟩
    go_wp2
    go_ret
    exact ⟨rfl, B7.out⟩

set_option maxHeartbeats 1600000 in
theorem lEnvelopeOf_walk (c : Value) (w : World) (h : CodeIn w c) (G : Gr w) : Calls Tryd.prog 9 #[c] w fun e w' => e = .returned (.bool true) ∧ Below w.heap.size w w' := by
  obtain ⟨a0, len0, cap0, rfl⟩ := h.slice
  have H := Lib.hid h; clear h
  have G0 := Lib.hid G; clear G
  have B0 := Lib.hid (Below.refl w.heap.size w)
  by_cases hl : 1048576 < len0
  · go_enter Tryd.func9, Tryd.ntmps9
    go_wp2
    go_ret
    exact ⟨rfl, Below.refl _ _⟩
  go_enter Tryd.func9, Tryd.ntmps9
  go_wp2_with fail
  refine (drawEnvelopeOf_any _ _ H.out).mono ?_
  rintro e w1 ⟨g, s, n, f, rfl, hb⟩
  have B1 := Lib.hid (Below.on B0.out hb)
  have G1 := Lib.hid (G0.out.on hb)
  clear hb
  obtain ⟨v, hv⟩ : ∃ v, envO g s n f = v := ⟨_, rfl⟩
  have HV := Lib.hid hv
  have hvv : (v != v) = false := by simp
  go_wp2_with fail
  refine (ienv_any g s n f _ G1.out).mono ?_
  rintro e w2 ⟨rfl, hb⟩
  have B2 := Lib.hid (Below.on B1.out hb)
  have G2 := Lib.hid (G1.out.on hb)
  rw [HV.out]
  clear hb
  go_wp2_with fail
  refine (senv_any g s n f _).mono ?_
  rintro e w3 ⟨rfl, hb⟩
  have B3 := Lib.hid (Below.on B2.out hb)
  have G3 := Lib.hid (G2.out.on hb)
  rw [HV.out]
  clear hb
  by_cases hx : v < 0
  · have he : v = -1 := by
      rcases env_cases g s n f with h1 | ⟨_, _, _, h1⟩
      · rw [← hv]; exact h1
      · have := (elB_bound h1).1; omega
    have he2 : (v == -1) = true := by simpa using he
    clear hv he
    go_wp2_with fail
    refine (alive_any _ G3.out).mono ?_
    rintro e wz ⟨rfl, rfl⟩
    go_wp2
    go_ret
    exact ⟨rfl, B3.out⟩
  · obtain ⟨k1, k2⟩ := envK_own (g := g) (s := s) (n := n) (f := f) (by omega)
    rw [hv] at k1 k2
    have K1 := Lib.hid k1
    have K2 := Lib.hid k2
    clear hv k1 k2
    go_wp2_with fail
    refine (iel_q K1.out _ G3.out).mono ?_
    rintro e w4 ⟨rfl, hb⟩
    have B4 := Lib.hid (Below.on B3.out hb)
    have G4 := Lib.hid (G3.out.on hb)
    clear hb
    go_wp2_with fail
    refine (ienk_is K2.out _ G4.out).mono ?_
    rintro e w5 ⟨rfl, hb⟩
    have B5 := Lib.hid (Below.on B4.out hb)
    have G5 := Lib.hid (G4.out.on hb)
    clear hb
    go_wp2
    go_ret
    exact ⟨rfl, B5.out⟩

set_option maxHeartbeats 1600000 in
theorem lBaseFrom_walk (c : Value) (w : World) (h : CodeIn w c) (G : Gr w) : Calls Tryd.prog 11 #[c] w fun e w' => e = .returned (.bool true) ∧ Below w.heap.size w w' := by
  obtain ⟨a0, len0, cap0, rfl⟩ := h.slice
  have H := Lib.hid h; clear h
  have G0 := Lib.hid G; clear G
  have B0 := Lib.hid (Below.refl w.heap.size w)
  by_cases hl : 1048576 < len0
  · go_enter Tryd.func11, Tryd.ntmps11
    go_wp2
    go_ret
    exact ⟨rfl, Below.refl _ _⟩
  go_enter Tryd.func11, Tryd.ntmps11
  go_wp2_with fail
  refine (drawBaseFrom_any _ _ H.out).mono ?_
  rintro e w1 ⟨g, s, v, a, x, b, y, rfl, hb⟩
  have B1 := Lib.hid (Below.on B0.out hb)
  have G1 := Lib.hid (G0.out.on hb)
  clear hb
  by_cases hx : envK g s v a x = true ∧ envK g s v b y = true ∧ a ≠ b
  · skip
    obtain ⟨h1, h2, h3⟩ := hx
    obtain ⟨z, hz⟩ : ∃ z, baseF g a x b y = z := ⟨_, rfl⟩
    have HI := Lib.hid (fun (w' : World) (G' : Gr w') => ibase_yes g s v a x b y w' G' h1 h2 h3)
    have HS := Lib.hid (fun (w' : World) => sbase_yes g s v a x b y w' h1 h2 h3)
    have HK := Lib.hid (base_key h1 h2 h3)
    have hzz : (z != z) = false := by simp
    have hss : (s == s) = true := by simp
    rw [hz] at HI HS HK
    clear h1 h2 h3 hz
    go_wp2_with fail
    refine (HI.out _ G1.out).mono ?_
    rintro e w2 ⟨rfl, hb⟩
    have B2 := Lib.hid (Below.on B1.out hb)
    have G2 := Lib.hid (G1.out.on hb)
    clear hb
    go_wp2_with fail
    refine (HS.out _).mono ?_
    rintro e w3 ⟨rfl, hb⟩
    have B3 := Lib.hid (Below.on B2.out hb)
    have G3 := Lib.hid (G2.out.on hb)
    clear hb
    go_wp2_with fail
    refine (ikey_any _ _ _ G3.out).mono ?_
    rintro e w4 ⟨rfl, hb⟩
    have B4 := Lib.hid (Below.on B3.out hb)
    have G4 := Lib.hid (G3.out.on hb)
    rw [HK.out.2]
    clear hb
    go_wp2
    go_ret
    exact ⟨rfl, B4.out⟩
  · skip
    have HI := Lib.hid (fun (w' : World) (G' : Gr w') => ibase_no g s v a x b y w' G' hx)
    have HS := Lib.hid (fun (w' : World) => sbase_no g s v a x b y w' hx)
    clear hx
    go_wp2_with fail
    refine (HI.out _ G1.out).mono ?_
    rintro e w2 ⟨rfl, hb⟩
    have B2 := Lib.hid (Below.on B1.out hb)
    have G2 := Lib.hid (G1.out.on hb)
    clear hb
    go_wp2_with fail
    refine (HS.out _).mono ?_
    rintro e w3 ⟨rfl, hb⟩
    have B3 := Lib.hid (Below.on B2.out hb)
    have G3 := Lib.hid (G2.out.on hb)
    clear hb
    go_wp2_with fail
    refine (alive_any _ G3.out).mono ?_
    rintro e wz ⟨rfl, rfl⟩
    go_wp2
    go_ret
    exact ⟨rfl, B3.out⟩

end Go.Proofs.YtljekapbcphdaaaDoor
