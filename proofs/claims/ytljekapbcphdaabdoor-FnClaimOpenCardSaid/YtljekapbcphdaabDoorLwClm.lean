/- The laws FnEnvelopeOk, FnClaimOpen, FnClaimNumber, FnClaimSame, walked. -/
import Derived.Test.YtljekapbcphdaabDoorDrawEn
import Derived.Test.YtljekapbcphdaabDoorXClm
import Derived.Test.YtljekapbcphdaabDoorLawR
namespace Go.Proofs.YtljekapbcphdaabDoor
open Go.RowKit

theorem envK_no {g s v n f : Int} (h : envI g s v = false) : envK g s v n f = false := by
  cases hk : envK g s v n f
  · rfl
  · exact absurd ⟨(envK_all hk).1, envK_el hk⟩ (envI_false.1 h)
theorem isolv_is {g : Int} {rows : List (List Int)} {makes es : List Int} {r : Bool} (hr : solvB g rows makes es = r) (rv mv ev : Value) (w : World) (G : Gr w) (h : Cw w rv mv rows makes) (he : Ints w ev es) :
    Calls Tryd.prog 25 #[.agg #[.int .i64 g, rv, mv], ev] w fun e w' => e = .returned (.bool r) ∧ Below w.heap.size w w' := by rw [← hr]; exact isolv_any g rv mv ev rows makes es w G h he
theorem iclaim_yes {g : Int} {rows : List (List Int)} {makes : List Int} (hc : Cl g rows makes) (rv mv : Value) (w : World) (G : Gr w) (h : Cw w rv mv rows makes) :
    Calls Tryd.prog 30 #[.agg #[.int .i64 g, rv, mv]] w fun e w' => e = .returned (.bool true) ∧ Below w.heap.size w w' := by
  have := iclaim_any g rv mv rows makes w G h
  rwa [clB_true.2 hc] at this
theorem ints_lit2 (w : World) (a b : Int) : Ints (w.alloc (.cells #[.int .i64 a, .int .i64 b] 3)) (.slice (some ⟨w.heap.size, 0, none⟩) 2 2) [a, b] := Ints.of_own (own_lit2 w a b) (by unfold maxLen; simp)
theorem solv_none (n f : Int) : solvB 0 [] [] [n, f] = false := by
  cases h : solvB 0 [] [] [n, f]
  · rfl
  · have := (solv_true.1 h).1.cl.r1
    simp at this
theorem waysC_cells {W : World} {lo hi : Nat} {u : Value} {us : List Value} {g s v : Int} {q : Nat} (ho : OwnSS W lo hi u us (ways g s v)) (hI : envI g s v = true) (hq : ord g = q) :
    ∃ a c, u = .slice a q c ∧ ∀ k, k < q → ∃ G X cx, a = some ⟨G, 0, none⟩ ∧ ∀ w', Below W.heap.size W w' → w'.cell? ⟨G, k, none⟩ = some (.slice (some ⟨X, 0, none⟩) 1 cx) ∧ w'.cell? ⟨X, 0, none⟩ = some (.int .i64 (wayF g s v k)) ∧ Ints w' (.slice (some ⟨X, 0, none⟩) 1 cx) [wayF g s v k] := by
  have hW : ways g s v = waysTo g s v q := by rw [ways_yes hI, hq]; rfl
  rw [hW] at ho
  have hl := waysTo_len g s v q
  obtain ⟨g0, g4⟩ := envI_g hI
  obtain ⟨o1, o2⟩ := ord_bd g0 g4
  obtain ⟨a, c, e, k1⟩ := (ho.ints (by rw [hl]; unfold maxLen; omega) (fun j hj => by rw [hl] at hj; rw [waysTo_row _ _ _ _ _ hj]; unfold maxLen; simp)).opened
  rw [hl] at e
  refine ⟨a, c, e, fun k hk => ?_⟩
  obtain ⟨G, x, e1, h1, h2, h3⟩ := k1.get k (by rw [hl]; exact hk)
  rw [waysTo_row _ _ _ _ _ hk] at h3
  have h3' := h3
  obtain ⟨ax, cx, e2, k2⟩ := h3.opened
  obtain ⟨X, e3, h4, h5⟩ := k2.get 0 (by simp)
  subst e3 e2
  exact ⟨G, X, cx, e1, fun w' hb => ⟨(hb.cell (p := ⟨G, k, none⟩) h1).trans h2, (hb.cell (p := ⟨X, 0, none⟩) h4).trans h5, h3'.below hb⟩⟩
theorem sordc_q {g : Int} {q : Nat} (hq : ord g = q) (w' : World) : Calls Tryd.prog 32 #[.int .i64 g] w' fun e w'' => e = .returned (.int .i64 (q : Int)) ∧ Below w'.heap.size w' w'' := by rw [← hq]; exact sord_any g w'
/-- Behind wb: as it was, or with the box of one number. -/
def Cz (wb : World) (y : Int) : Option Nat → World → Prop
  | none, w' => Below wb.heap.size wb w'
  | some N, w' => Below wb.heap.size wb w' ∧ Own w' wb.heap.size (.slice (some ⟨N, 0, none⟩) 1 1) [y]
theorem Cz.below {wb : World} {y : Int} {z : Option Nat} {w' : World} (h : Cz wb y z w') : Below wb.heap.size wb w' := by
  match z, h with
  | none, h => exact h
  | some _, h => exact h.1
theorem Cz.on {wb : World} {y : Int} {z : Option Nat} {w1 w2 : World} (h : Cz wb y z w1) (hb : Below w1.heap.size w1 w2) : Cz wb y z w2 := by
  match z, h with
  | none, h => exact Below.on h hb
  | some _, h => exact ⟨Below.on h.1 hb, own_below h.2 hb⟩
theorem Cz.build {wb : World} {y : Int} {w' : World} (h : Cz wb y none w') : Cz wb y (some w'.heap.size) (w'.alloc (.cells #[.int .i64 y] 3)) :=
  ⟨Below.on h (below_grow _ _), own_mono (own_lit1 w' y) (Below.size h)⟩


set_option maxHeartbeats 6400000 in
theorem lEnvelopeOk_walk (c : Value) (w : World) (h : CodeIn w c) (G : Gr w) : Calls Tryd.prog 7 #[c] w fun e w' => e = .returned (.bool true) ∧ Below w.heap.size w w' := by
  obtain ⟨a0, len0, cap0, rfl⟩ := h.slice
  have H := Lib.hid h; clear h
  have G0 := Lib.hid G; clear G
  have B0 := Lib.hid (Below.refl w.heap.size w)
  by_cases hl : 1048576 < len0
  · go_enter Tryd.func7, Tryd.ntmps7
    go_wp2
    go_ret
    exact ⟨rfl, Below.refl _ _⟩
  go_enter Tryd.func7, Tryd.ntmps7
  go_wp2_with fail
  refine (drawEnvelopeOk_any _ _ H.out).mono ?_
  rintro e w1 ⟨g, s, v, n, f, rfl, hb⟩
  have B1 := Lib.hid (Below.on B0.out hb)
  have G1 := Lib.hid (G0.out.on hb)
  clear hb
  cases hI : envI g s v
  · have HK : Hid (envK g s v n f = false) := Lib.hid (envK_no hI)
    have SM := Lib.hid sm_none
    have HI := Lib.hid hI
    clear hI
    have hrr : (false != false) = false := rfl
    go_wp2_with fail
    refine (ienk_is HK.out _ G1.out).mono ?_
    rintro e w2 ⟨rfl, hb⟩
    have B2 := Lib.hid (Below.on B1.out hb)
    have G2 := Lib.hid (G1.out.on hb)
    clear hb
    go_wp2_with fail
    refine (senk_is HK.out _).mono ?_
    rintro e w3 ⟨rfl, hb⟩
    have B3 := Lib.hid (Below.on B2.out hb)
    have G3 := Lib.hid (G2.out.on hb)
    clear hb
    go_wp2_with fail
    refine (iopen_no g s v _ G3.out HI.out).mono ?_
    rintro e w4 ⟨rv, mv, us, rfl, o, hb⟩
    have B4 := Lib.hid (Below.on B3.out hb)
    have G4 := Lib.hid (G3.out.on hb)
    have OC := Lib.hid (SM.out.cw o)
    clear o
    clear hb
    go_wp2_with fail
    refine (isolv_is (solv_none n f) rv mv _ _ (G4.out.on (below_grow _ _)) (OC.out.on (below_grow _ _)) (ints_lit2 _ n f)).mono ?_
    rintro e w5 ⟨rfl, hb⟩
    have B5 := Lib.hid (Below.on B4.out (Below.on (below_grow _ _) hb))
    have G5 := Lib.hid (G4.out.on (Below.on (below_grow _ _) hb))
    clear hb
    go_wp2_with fail
    refine (alive_any _ G5.out).mono ?_
    rintro e wz ⟨rfl, rfl⟩
    go_wp2
    go_ret
    exact ⟨rfl, B5.out⟩
  · cases hk : envK g s v n f
    · have HK : Hid (envK g s v n f = false) := Lib.hid hk
      have SM : Hid (Sm [[bas g, s]] [v]) := Lib.hid sm_two
      have HI := Lib.hid hI
      have HV := Lib.hid ((open_solv hI).trans hk)
      clear hI hk
      have hrr : (false != false) = false := rfl
      go_wp2_with fail
      refine (ienk_is HK.out _ G1.out).mono ?_
      rintro e w2 ⟨rfl, hb⟩
      have B2 := Lib.hid (Below.on B1.out hb)
      have G2 := Lib.hid (G1.out.on hb)
      clear hb
      go_wp2_with fail
      refine (senk_is HK.out _).mono ?_
      rintro e w3 ⟨rfl, hb⟩
      have B3 := Lib.hid (Below.on B2.out hb)
      have G3 := Lib.hid (G2.out.on hb)
      clear hb
      go_wp2_with fail
      refine (iopen_yes g s v _ G3.out HI.out).mono ?_
      rintro e w4 ⟨rv, mv, us, rfl, o, hb⟩
      have B4 := Lib.hid (Below.on B3.out hb)
      have G4 := Lib.hid (G3.out.on hb)
      have OC := Lib.hid (SM.out.cw o)
      clear o
      clear hb
      go_wp2_with fail
      refine (isolv_is HV.out rv mv _ _ (G4.out.on (below_grow _ _)) (OC.out.on (below_grow _ _)) (ints_lit2 _ n f)).mono ?_
      rintro e w5 ⟨rfl, hb⟩
      have B5 := Lib.hid (Below.on B4.out (Below.on (below_grow _ _) hb))
      have G5 := Lib.hid (G4.out.on (Below.on (below_grow _ _) hb))
      clear hb
      go_wp2_with fail
      refine (alive_any _ G5.out).mono ?_
      rintro e wz ⟨rfl, rfl⟩
      go_wp2
      go_ret
      exact ⟨rfl, B5.out⟩
    · have HK : Hid (envK g s v n f = true) := Lib.hid hk
      have SM : Hid (Sm [[bas g, s]] [v]) := Lib.hid sm_two
      have HI := Lib.hid hI
      have HV := Lib.hid ((open_solv hI).trans hk)
      clear hI hk
      have hrr : (true != true) = false := rfl
      go_wp2_with fail
      refine (ienk_is HK.out _ G1.out).mono ?_
      rintro e w2 ⟨rfl, hb⟩
      have B2 := Lib.hid (Below.on B1.out hb)
      have G2 := Lib.hid (G1.out.on hb)
      clear hb
      go_wp2_with fail
      refine (senk_is HK.out _).mono ?_
      rintro e w3 ⟨rfl, hb⟩
      have B3 := Lib.hid (Below.on B2.out hb)
      have G3 := Lib.hid (G2.out.on hb)
      clear hb
      go_wp2_with fail
      refine (iopen_yes g s v _ G3.out HI.out).mono ?_
      rintro e w4 ⟨rv, mv, us, rfl, o, hb⟩
      have B4 := Lib.hid (Below.on B3.out hb)
      have G4 := Lib.hid (G3.out.on hb)
      have OC := Lib.hid (SM.out.cw o)
      clear o
      clear hb
      go_wp2_with fail
      refine (isolv_is HV.out rv mv _ _ (G4.out.on (below_grow _ _)) (OC.out.on (below_grow _ _)) (ints_lit2 _ n f)).mono ?_
      rintro e w5 ⟨rfl, hb⟩
      have B5 := Lib.hid (Below.on B4.out (Below.on (below_grow _ _) hb))
      have G5 := Lib.hid (G4.out.on (Below.on (below_grow _ _) hb))
      clear hb
      go_wp2_with fail
      refine (alive_any _ G5.out).mono ?_
      rintro e wz ⟨rfl, rfl⟩
      go_wp2
      go_ret
      exact ⟨rfl, B5.out⟩

set_option maxHeartbeats 6400000 in
theorem lClaimOpen_walk (c : Value) (w : World) (h : CodeIn w c) (G : Gr w) : Calls Tryd.prog 8 #[c] w fun e w' => e = .returned (.bool true) ∧ Below w.heap.size w w' := by
  obtain ⟨a0, len0, cap0, rfl⟩ := h.slice
  have H := Lib.hid h; clear h
  have G0 := Lib.hid G; clear G
  have B0 := Lib.hid (Below.refl w.heap.size w)
  by_cases hl : 1048576 < len0
  · go_enter Tryd.func8, Tryd.ntmps8
    go_wp2
    go_ret
    exact ⟨rfl, Below.refl _ _⟩
  go_enter Tryd.func8, Tryd.ntmps8
  go_wp2_with fail
  refine (drawClaimOpen_any _ _ H.out).mono ?_
  rintro e w1 ⟨g, s, v, rfl, hb⟩
  have B1 := Lib.hid (Below.on B0.out hb)
  have G1 := Lib.hid (G0.out.on hb)
  clear hb
  cases hI : envI g s v
  · skip
    have SM := Lib.hid sm_none
    have HI := Lib.hid hI
    have HS := Lib.hid (envI_false.1 hI)
    clear hI
    have hzz : ((0 : Int) != (0 : Int)) = false := by simp
    go_wp2_with fail
    refine (iopen_no g s v _ G1.out HI.out).mono ?_
    rintro e w2 ⟨rv, mv, us, rfl, o, hb⟩
    have B2 := Lib.hid (Below.on B1.out hb)
    have G2 := Lib.hid (G1.out.on hb)
    obtain ⟨⟨a1, c1, er⟩, a2, c2, em⟩ := o.form1
    change rv = .slice a1 0 c1 at er
    change mv = .slice a2 0 c2 at em
    subst er em
    have OC2 := Lib.hid (SM.out.cw o)
    clear o
    clear hb
    go_wp2_with fail
    refine (sopen_no g s v _ HS.out).mono ?_
    rintro e w3 ⟨rv, mv, us, rfl, o, hbx⟩
    have hb := Below.on (below_grow w2 (.cells #[.int .i64 ((0 : Int)), .slice a1 0 c1, .slice a2 0 c2] 26)) hbx
    have B3 := Lib.hid (Below.on B2.out hb)
    have G3 := Lib.hid (G2.out.on hb)
    obtain ⟨⟨a3, c3, er⟩, a4, c4, em⟩ := o.form1
    change rv = .slice a3 0 c3 at er
    change mv = .slice a4 0 c4 at em
    subst er em
    have OX3 := Lib.hid (SM.out.cw o)
    have OC3 := Lib.hid (OC2.out.on hb)
    have PC3 := Lib.hid ((Box.made w2 [.int .i64 ((0 : Int)), .slice a1 0 c1, .slice a2 0 c2] 26).on hbx)
    clear o OC2
    clear hb hbx
    have pb := PC3.out.alloc (.cells #[.int .i64 ((0 : Int)), .slice a3 0 c3, .slice a4 0 c4] 26)
    have q0 := pb.cell 0
    have q1 := pb.cell 1
    have q2 := pb.cell 2
    simp at q0 q1 q2
    clear pb
    go_wp2_with fail
    refine (samer_any _ _ [] _ ((OC3.out.on (below_grow w3 (.cells #[.int .i64 ((0 : Int)), .slice a3 0 c3, .slice a4 0 c4] 26))).rows) ((OX3.out.on (below_grow w3 (.cells #[.int .i64 ((0 : Int)), .slice a3 0 c3, .slice a4 0 c4] 26))).rows)).mono ?_
    rintro e w4 ⟨rfl, hbx⟩
    have hb := Below.on (below_grow w3 (.cells #[.int .i64 ((0 : Int)), .slice a3 0 c3, .slice a4 0 c4] 26)) hbx
    have B4 := Lib.hid (Below.on B3.out hb)
    have G4 := Lib.hid (G3.out.on hb)
    have OC4 := Lib.hid (OC3.out.on hb)
    have OX4 := Lib.hid (OX3.out.on hb)
    have PC4 := Lib.hid (PC3.out.on hb)
    have PX4 := Lib.hid ((Box.made w3 [.int .i64 ((0 : Int)), .slice a3 0 c3, .slice a4 0 c4] 26).on hbx)
    clear hb hbx q0 q1 q2 OC3 OX3 PC3
    have q0 := PC4.out.cell 0
    have q1 := PC4.out.cell 1
    have q2 := PC4.out.cell 2
    have r2 := PX4.out.cell 2
    simp at q0 q1 q2 r2
    go_wp2_with fail
    refine (same_eq _ _ [] _ OC4.out.makes OX4.out.makes).mono ?_
    rintro e w5 ⟨rfl, hb⟩
    have B5 := Lib.hid (Below.on B4.out hb)
    have G5 := Lib.hid (G4.out.on hb)
    have OC5 := Lib.hid (OC4.out.on hb)
    have PC5 := Lib.hid (PC4.out.on hb)
    clear q0 q1 q2 r2 OC4 OX4 PC4 PX4
    clear hb
    have q0 := PC5.out.cell 0
    have q1 := PC5.out.cell 1
    have q2 := PC5.out.cell 2
    simp at q0 q1 q2
    go_wp2_with fail
    refine (alive_any _ G5.out).mono ?_
    rintro e wz ⟨rfl, rfl⟩
    go_wp2
    go_ret
    exact ⟨rfl, B5.out⟩
  · skip
    have SM : Hid (Sm [[bas g, s]] [v]) := Lib.hid sm_two
    have HI := Lib.hid hI
    have HS := Lib.hid (envI_true.1 hI)
    obtain ⟨g0, g4⟩ := envI_g hI
    have HC := Lib.hid (two_cl (bas_el g0 g4) (snd_true.1 (envI_true.1 hI).1).1 (envI_true.1 hI).2)
    obtain ⟨xss, hxs⟩ : ∃ xss, sols g [[bas g, s]] [v] = xss := ⟨_, rfl⟩
    obtain ⟨q, hq, q3, q23⟩ := ord_of g0 g4
    have hlen : xss.length = q := by have := open_len hI; rw [hxs, hq] at this; omega
    have HX := Lib.hid hxs
    have HOR := Lib.hid (fun w' : World => sordc_q hq w')
    have hqq : ((q : Int) == (q : Int)) = true := by simp
    clear hI hxs g0 g4 hq
    have hzz : (g != g) = false := by simp
    go_wp2_with fail
    refine (iopen_yes g s v _ G1.out HI.out).mono ?_
    rintro e w2 ⟨rv, mv, us, rfl, o, hb⟩
    have B2 := Lib.hid (Below.on B1.out hb)
    have G2 := Lib.hid (G1.out.on hb)
    obtain ⟨⟨a1, c1, er⟩, a2, c2, em⟩ := o.form1
    change rv = .slice a1 1 c1 at er
    change mv = .slice a2 1 c2 at em
    subst er em
    have OC2 := Lib.hid (SM.out.cw o)
    clear o
    clear hb
    go_wp2_with fail
    refine (sopen_yes g s v _ HS.out).mono ?_
    rintro e w3 ⟨rv, mv, us, rfl, o, hbx⟩
    have hb := Below.on (below_grow w2 (.cells #[.int .i64 (g), .slice a1 1 c1, .slice a2 1 c2] 26)) hbx
    have B3 := Lib.hid (Below.on B2.out hb)
    have G3 := Lib.hid (G2.out.on hb)
    obtain ⟨⟨a3, c3, er⟩, a4, c4, em⟩ := o.form1
    change rv = .slice a3 1 c3 at er
    change mv = .slice a4 1 c4 at em
    subst er em
    have OX3 := Lib.hid (SM.out.cw o)
    have OC3 := Lib.hid (OC2.out.on hb)
    have PC3 := Lib.hid ((Box.made w2 [.int .i64 (g), .slice a1 1 c1, .slice a2 1 c2] 26).on hbx)
    clear o OC2
    clear hb hbx
    have pb := PC3.out.alloc (.cells #[.int .i64 (g), .slice a3 1 c3, .slice a4 1 c4] 26)
    have q0 := pb.cell 0
    have q1 := pb.cell 1
    have q2 := pb.cell 2
    simp at q0 q1 q2
    clear pb
    go_wp2_with fail
    refine (samer_any _ _ [[bas g, s]] _ ((OC3.out.on (below_grow w3 (.cells #[.int .i64 (g), .slice a3 1 c3, .slice a4 1 c4] 26))).rows) ((OX3.out.on (below_grow w3 (.cells #[.int .i64 (g), .slice a3 1 c3, .slice a4 1 c4] 26))).rows)).mono ?_
    rintro e w4 ⟨rfl, hbx⟩
    have hb := Below.on (below_grow w3 (.cells #[.int .i64 (g), .slice a3 1 c3, .slice a4 1 c4] 26)) hbx
    have B4 := Lib.hid (Below.on B3.out hb)
    have G4 := Lib.hid (G3.out.on hb)
    have OC4 := Lib.hid (OC3.out.on hb)
    have OX4 := Lib.hid (OX3.out.on hb)
    have PC4 := Lib.hid (PC3.out.on hb)
    have PX4 := Lib.hid ((Box.made w3 [.int .i64 (g), .slice a3 1 c3, .slice a4 1 c4] 26).on hbx)
    clear hb hbx q0 q1 q2 OC3 OX3 PC3
    have q0 := PC4.out.cell 0
    have q1 := PC4.out.cell 1
    have q2 := PC4.out.cell 2
    have r2 := PX4.out.cell 2
    simp at q0 q1 q2 r2
    go_wp2_with fail
    refine (same_eq _ _ [v] _ OC4.out.makes OX4.out.makes).mono ?_
    rintro e w5 ⟨rfl, hb⟩
    have B5 := Lib.hid (Below.on B4.out hb)
    have G5 := Lib.hid (G4.out.on hb)
    have OC5 := Lib.hid (OC4.out.on hb)
    have PC5 := Lib.hid (PC4.out.on hb)
    clear q0 q1 q2 r2 OC4 OX4 PC4 PX4
    clear hb
    have q0 := PC5.out.cell 0
    have q1 := PC5.out.cell 1
    have q2 := PC5.out.cell 2
    simp at q0 q1 q2
    go_wp2_with fail
    refine (iclaim_yes HC.out _ _ _ G5.out OC5.out).mono ?_
    rintro e w6 ⟨rfl, hb⟩
    have B6 := Lib.hid (Below.on B5.out hb)
    have G6 := Lib.hid (G5.out.on hb)
    have OC6 := Lib.hid (OC5.out.on hb)
    have PC6 := Lib.hid (PC5.out.on hb)
    clear q0 q1 q2 OC5 PC5
    clear hb
    have q0 := PC6.out.cell 0
    have q1 := PC6.out.cell 1
    have q2 := PC6.out.cell 2
    simp at q0 q1 q2
    go_wp2_with fail
    refine (isols_any g _ _ [[bas g, s]] [v] _ G6.out OC6.out).mono ?_
    rintro e w7 ⟨u, us, rfl, o, hb⟩
    have B7 := Lib.hid (Below.on B6.out hb)
    have G7 := Lib.hid (G6.out.on hb)
    rw [HX.out] at o
    obtain ⟨al, cl, rfl⟩ := o.form
    rw [hlen]
    clear o q0 q1 q2
    clear hb
    go_wp2_with fail
    refine (HOR.out _).mono ?_
    rintro e w8 ⟨rfl, hb⟩
    have B8 := Lib.hid (Below.on B7.out hb)
    have G8 := Lib.hid (G7.out.on hb)
    clear hb
    go_wp2
    go_ret
    exact ⟨rfl, B8.out⟩

set_option maxHeartbeats 6400000 in
theorem lClaimNumber_walk (c : Value) (w : World) (h : CodeIn w c) (G : Gr w) : Calls Tryd.prog 9 #[c] w fun e w' => e = .returned (.bool true) ∧ Below w.heap.size w w' := by
  obtain ⟨a0, len0, cap0, rfl⟩ := h.slice
  have H := Lib.hid h; clear h
  have G0 := Lib.hid G; clear G
  have B0 := Lib.hid (Below.refl w.heap.size w)
  by_cases hl : 1048576 < len0
  · go_enter Tryd.func9, Tryd.ntmps9
    go_wp2
    go_ret
    exact ⟨rfl, Below.refl _ _⟩
  go_enter Tryd.func9, Tryd.ntmps9
  go_wp2_with fail
  refine (drawClaimNumber_any _ _ H.out).mono ?_
  rintro e w1 ⟨g, s, v, n, rfl, hb⟩
  have B1 := Lib.hid (Below.on B0.out hb)
  have G1 := Lib.hid (G0.out.on hb)
  clear hb
  by_cases hI : envI g s v = true ∧ exB g n = true
  · skip
    obtain ⟨hI1, hx⟩ := hI
    have SM : Hid (Sm [[s]] [numM g v n]) := Lib.hid sm_one
    have HI : Hid (envI g s v = true ∧ exB g n = true) := Lib.hid ⟨hI1, hx⟩
    have HS : Hid (sndB g s = true ∧ elB g v = true ∧ exB g n = true) := Lib.hid ⟨(envI_true.1 hI1).1, (envI_true.1 hI1).2, hx⟩
    obtain ⟨⟨g0, g4⟩, n0, n1⟩ := exB_true.1 hx
    have HC := Lib.hid (one_cl (snd_true.1 (envI_true.1 hI1).1).1 (numM_el (envI_true.1 hI1).2 n))
    obtain ⟨q, hq, q3, q23⟩ := ord_of g0 g4
    have HX := Lib.hid (number_sols (n := n) hI1)
    have HWC := Lib.hid (fun (W : World) (u : Value) (us : List Value) lo hi (ho : OwnSS W lo hi u us (ways g s v)) => waysC_cells ho hI1 hq)
    rw [hq] at n1
    clear hI1 hx g0 g4 hq
    obtain ⟨k, rfl⟩ : ∃ k : Nat, n = k := ⟨n.toNat, by omega⟩
    have hkq : k < q := by omega
    obtain ⟨m, hm⟩ : ∃ m, numM g v k = m := ⟨_, rfl⟩
    rw [hm] at SM HC HX
    have HIM := Lib.hid (fun (w' : World) (G' : Gr w') => inum_yes g s v k w' G' HI.out)
    have HSM := Lib.hid (fun (w' : World) => snum_yes g s v k w' HS.out)
    rw [hm] at HIM HSM
    clear hm n0
    have hzz : (g != g) = false := by simp
    go_wp2_with fail
    refine (HIM.out _ G1.out).mono ?_
    rintro e w2 ⟨rv, mv, us, rfl, o, hb⟩
    have B2 := Lib.hid (Below.on B1.out hb)
    have G2 := Lib.hid (G1.out.on hb)
    obtain ⟨⟨a1, c1, er⟩, a2, c2, em⟩ := o.form1
    change rv = .slice a1 1 c1 at er
    change mv = .slice a2 1 c2 at em
    subst er em
    have OC2 := Lib.hid (SM.out.cw o)
    clear o
    clear hb
    go_wp2_with fail
    refine (HSM.out _).mono ?_
    rintro e w3 ⟨rv, mv, us, rfl, o, hbx⟩
    have hb := Below.on (below_grow w2 (.cells #[.int .i64 (g), .slice a1 1 c1, .slice a2 1 c2] 26)) hbx
    have B3 := Lib.hid (Below.on B2.out hb)
    have G3 := Lib.hid (G2.out.on hb)
    obtain ⟨⟨a3, c3, er⟩, a4, c4, em⟩ := o.form1
    change rv = .slice a3 1 c3 at er
    change mv = .slice a4 1 c4 at em
    subst er em
    have OX3 := Lib.hid (SM.out.cw o)
    have OC3 := Lib.hid (OC2.out.on hb)
    have PC3 := Lib.hid ((Box.made w2 [.int .i64 (g), .slice a1 1 c1, .slice a2 1 c2] 26).on hbx)
    clear o OC2
    clear hb hbx
    have pb := PC3.out.alloc (.cells #[.int .i64 (g), .slice a3 1 c3, .slice a4 1 c4] 26)
    have q0 := pb.cell 0
    have q1 := pb.cell 1
    have q2 := pb.cell 2
    simp at q0 q1 q2
    clear pb
    go_wp2_with fail
    refine (samer_any _ _ [[s]] _ ((OC3.out.on (below_grow w3 (.cells #[.int .i64 (g), .slice a3 1 c3, .slice a4 1 c4] 26))).rows) ((OX3.out.on (below_grow w3 (.cells #[.int .i64 (g), .slice a3 1 c3, .slice a4 1 c4] 26))).rows)).mono ?_
    rintro e w4 ⟨rfl, hbx⟩
    have hb := Below.on (below_grow w3 (.cells #[.int .i64 (g), .slice a3 1 c3, .slice a4 1 c4] 26)) hbx
    have B4 := Lib.hid (Below.on B3.out hb)
    have G4 := Lib.hid (G3.out.on hb)
    have OC4 := Lib.hid (OC3.out.on hb)
    have OX4 := Lib.hid (OX3.out.on hb)
    have PC4 := Lib.hid (PC3.out.on hb)
    have PX4 := Lib.hid ((Box.made w3 [.int .i64 (g), .slice a3 1 c3, .slice a4 1 c4] 26).on hbx)
    clear hb hbx q0 q1 q2 OC3 OX3 PC3
    have q0 := PC4.out.cell 0
    have q1 := PC4.out.cell 1
    have q2 := PC4.out.cell 2
    have r2 := PX4.out.cell 2
    simp at q0 q1 q2 r2
    go_wp2_with fail
    refine (same_eq _ _ [m] _ OC4.out.makes OX4.out.makes).mono ?_
    rintro e w5 ⟨rfl, hb⟩
    have B5 := Lib.hid (Below.on B4.out hb)
    have G5 := Lib.hid (G4.out.on hb)
    have OC5 := Lib.hid (OC4.out.on hb)
    have PC5 := Lib.hid (PC4.out.on hb)
    clear q0 q1 q2 r2 OC4 OX4 PC4 PX4
    clear hb
    have q0 := PC5.out.cell 0
    have q1 := PC5.out.cell 1
    have q2 := PC5.out.cell 2
    simp at q0 q1 q2
    go_wp2_with fail
    refine (isols_any g _ _ [[s]] [m] _ G5.out OC5.out).mono ?_
    rintro e w6 ⟨ul, usl, rfl, o, hb⟩
    have B6 := Lib.hid (Below.on B5.out hb)
    have G6 := Lib.hid (G5.out.on hb)
    have OC6 := Lib.hid (OC5.out.on hb)
    have PC6 := Lib.hid (PC5.out.on hb)
    clear q0 q1 q2 OC5 PC5
    rw [HX.out] at o
    have OL := Lib.hid o
    clear o
    clear hb
    go_wp2_with fail
    refine (iways_any g s v _ G6.out).mono ?_
    rintro e w7 ⟨u, us, rfl, o, hb⟩
    have B7 := Lib.hid (Below.on B6.out hb)
    have G7 := Lib.hid (G6.out.on hb)
    obtain ⟨aw, cw, rfl, hcw⟩ := HWC.out _ _ _ _ _ o
    obtain ⟨GW, XW, cxw, rfl, hcn⟩ := hcw k hkq
    have CW := Lib.hid hcn
    have OL2 := Lib.hid (OL.out.on hb)
    have OC7 := Lib.hid (OC6.out.on hb)
    have PC7 := Lib.hid (PC6.out.on hb)
    clear hcw hcn o OL OC6 PC6
    clear hb
    obtain ⟨GL, cl, e1, hG, cG, iG⟩ := OL2.out.intsAt (j := 0) (by simp) (by unfold maxLen; simp [row])
    obtain ⟨aL, c9, e2, _⟩ := iG.opened
    rw [e2] at cG iG
    subst e1
    have HL := Lib.hid (show ∀ w', Below w7.heap.size w7 w' → w'.cell? ⟨GL, 0, none⟩ = some (.slice aL 1 c9) ∧ Ints w' (.slice aL 1 c9) [wayF g s v k] from fun w' hb => ⟨(hb.cell (p := ⟨GL, 0, none⟩) hG).trans cG, iG.below hb⟩)
    clear cG iG hG e2 OL2
    have k0 : ((k : Int) < (q : Int)) := by omega
    have HK1 := Lib.hid (show ∀ w', Hid (Below w7.heap.size w7 w') → Calls Tryd.prog 30 #[.agg #[.int .i64 g, .slice a1 1 c1, .slice a2 1 c2]] w' fun e w'' => e = .returned (.bool true) ∧ Hid (Below w7.heap.size w7 w'') from fun w' hw => (iclaim_yes HC.out _ _ w' (G7.out.on hw.out) (OC7.out.on hw.out)).mono fun _ _ ⟨he, hb⟩ => ⟨he, Lib.hid (Below.on hw.out hb)⟩)
    have HK2 := Lib.hid (show ∀ w', Hid (Below w7.heap.size w7 w') → Calls Tryd.prog 29 #[.slice aL 1 c9, .slice (some ⟨XW, 0, none⟩) 1 cxw] w' fun e w'' => e = .returned (.bool true) ∧ Hid (Below w7.heap.size w7 w'') from fun w' hw => (same_eq _ _ [wayF g s v k] w' (HL.out _ hw.out).2 (CW.out _ hw.out).2.2).mono fun _ _ ⟨he, hb⟩ => ⟨he, Lib.hid (Below.on hw.out hb)⟩)
    go_wp2_with fail
    have HD0 : Hid (Below w7.heap.size w7 w7.drew) := Lib.hid (Below.refl _ _).drew
    refine wp_region_class (C := fun w' => Hid (Below w7.heap.size w7 w')) (by kernel_rfl) (by kernel_rfl) HD0 ?_
    repeat (first | go_big_quiet_skip | (go_big_quiet_want; go_big_quiet_op; first | go_big_quiet_on | (refine ⟨_, fun _ _ => rfl, ?_⟩; go_big_quiet_on)))
    go_big_quiet_want
    go_big_quiet_op
    refine ⟨.agg #[.int .i64 g, .slice a1 1 c1, .slice a2 1 c2], fun w' hw' => ?_, ?_⟩
    · have pb := PC7.out.on hw'.out
      have q0 := pb.cell 0
      have q1 := pb.cell 1
      have q2 := pb.cell 2
      simp at q0 q1 q2
      simp [go_sem, q0, q1, q2]
    go_big_quiet_on
    repeat (first | go_big_quiet_skip | (go_big_quiet_want; go_big_quiet_op; first | go_big_quiet_on | (refine ⟨_, fun _ _ => rfl, ?_⟩; go_big_quiet_on)))
    go_big_quiet_want
    go_big_quiet_op
    go_big_quiet_call ((intro hw; exact HK1.out _ hw))
    repeat (first | go_big_quiet_skip | (go_big_quiet_want; go_big_quiet_op; first | go_big_quiet_on | (refine ⟨_, fun _ _ => rfl, ?_⟩; go_big_quiet_on)))
    go_big_quiet_want
    go_big_quiet_op
    refine ⟨.slice aL 1 c9, fun w' hw' => ?_, ?_⟩
    · have q := (HL.out _ hw'.out).1
      simp [go_sem, q]
    go_big_quiet_on
    repeat (first | go_big_quiet_skip | (go_big_quiet_want; go_big_quiet_op; first | go_big_quiet_on | (refine ⟨_, fun _ _ => rfl, ?_⟩; go_big_quiet_on)))
    go_big_quiet_want
    go_big_quiet_op
    refine ⟨.slice (some ⟨XW, 0, none⟩) 1 cxw, fun w' hw' => ?_, ?_⟩
    · have q := (CW.out _ hw'.out).1
      simp [go_sem, q]
    go_big_quiet_on
    repeat (first | go_big_quiet_skip | (go_big_quiet_want; go_big_quiet_op; first | go_big_quiet_on | (refine ⟨_, fun _ _ => rfl, ?_⟩; go_big_quiet_on)))
    go_big_quiet_want
    go_big_quiet_op
    go_big_quiet_call ((intro hw; exact HK2.out _ hw))
    repeat (first | go_big_quiet_skip | (go_big_quiet_want; go_big_quiet_op; first | go_big_quiet_on | (refine ⟨_, fun _ _ => rfl, ?_⟩; go_big_quiet_on)))
    refine wpQuiet_nil ?_
    intro w' hw'
    have BZ := Lib.hid (Below.on B7.out hw'.out)
    clear hw'
    go_wp2
    go_ret
    exact ⟨rfl, BZ.out⟩
  · skip
    have SM := Lib.hid sm_none
    have HI := Lib.hid hI
    have HS : Hid (¬ (sndB g s = true ∧ elB g v = true ∧ exB g n = true)) := Lib.hid fun k => hI ⟨envI_true.2 ⟨k.1, k.2.1⟩, k.2.2⟩
    clear hI
    have hzz : ((0 : Int) != (0 : Int)) = false := by simp
    go_wp2_with fail
    refine (inum_no g s v n _ G1.out HI.out).mono ?_
    rintro e w2 ⟨rv, mv, us, rfl, o, hb⟩
    have B2 := Lib.hid (Below.on B1.out hb)
    have G2 := Lib.hid (G1.out.on hb)
    obtain ⟨⟨a1, c1, er⟩, a2, c2, em⟩ := o.form1
    change rv = .slice a1 0 c1 at er
    change mv = .slice a2 0 c2 at em
    subst er em
    have OC2 := Lib.hid (SM.out.cw o)
    clear o
    clear hb
    go_wp2_with fail
    refine (snum_no g s v n _ HS.out).mono ?_
    rintro e w3 ⟨rv, mv, us, rfl, o, hbx⟩
    have hb := Below.on (below_grow w2 (.cells #[.int .i64 ((0 : Int)), .slice a1 0 c1, .slice a2 0 c2] 26)) hbx
    have B3 := Lib.hid (Below.on B2.out hb)
    have G3 := Lib.hid (G2.out.on hb)
    obtain ⟨⟨a3, c3, er⟩, a4, c4, em⟩ := o.form1
    change rv = .slice a3 0 c3 at er
    change mv = .slice a4 0 c4 at em
    subst er em
    have OX3 := Lib.hid (SM.out.cw o)
    have OC3 := Lib.hid (OC2.out.on hb)
    have PC3 := Lib.hid ((Box.made w2 [.int .i64 ((0 : Int)), .slice a1 0 c1, .slice a2 0 c2] 26).on hbx)
    clear o OC2
    clear hb hbx
    have pb := PC3.out.alloc (.cells #[.int .i64 ((0 : Int)), .slice a3 0 c3, .slice a4 0 c4] 26)
    have q0 := pb.cell 0
    have q1 := pb.cell 1
    have q2 := pb.cell 2
    simp at q0 q1 q2
    clear pb
    go_wp2_with fail
    refine (samer_any _ _ [] _ ((OC3.out.on (below_grow w3 (.cells #[.int .i64 ((0 : Int)), .slice a3 0 c3, .slice a4 0 c4] 26))).rows) ((OX3.out.on (below_grow w3 (.cells #[.int .i64 ((0 : Int)), .slice a3 0 c3, .slice a4 0 c4] 26))).rows)).mono ?_
    rintro e w4 ⟨rfl, hbx⟩
    have hb := Below.on (below_grow w3 (.cells #[.int .i64 ((0 : Int)), .slice a3 0 c3, .slice a4 0 c4] 26)) hbx
    have B4 := Lib.hid (Below.on B3.out hb)
    have G4 := Lib.hid (G3.out.on hb)
    have OC4 := Lib.hid (OC3.out.on hb)
    have OX4 := Lib.hid (OX3.out.on hb)
    have PC4 := Lib.hid (PC3.out.on hb)
    have PX4 := Lib.hid ((Box.made w3 [.int .i64 ((0 : Int)), .slice a3 0 c3, .slice a4 0 c4] 26).on hbx)
    clear hb hbx q0 q1 q2 OC3 OX3 PC3
    have q0 := PC4.out.cell 0
    have q1 := PC4.out.cell 1
    have q2 := PC4.out.cell 2
    have r2 := PX4.out.cell 2
    simp at q0 q1 q2 r2
    go_wp2_with fail
    refine (same_eq _ _ [] _ OC4.out.makes OX4.out.makes).mono ?_
    rintro e w5 ⟨rfl, hb⟩
    have B5 := Lib.hid (Below.on B4.out hb)
    have G5 := Lib.hid (G4.out.on hb)
    have OC5 := Lib.hid (OC4.out.on hb)
    have PC5 := Lib.hid (PC4.out.on hb)
    clear q0 q1 q2 r2 OC4 OX4 PC4 PX4
    clear hb
    have q0 := PC5.out.cell 0
    have q1 := PC5.out.cell 1
    have q2 := PC5.out.cell 2
    simp at q0 q1 q2
    go_wp2_with fail
    refine (alive_any _ G5.out).mono ?_
    rintro e wz ⟨rfl, rfl⟩
    go_wp2
    go_ret
    exact ⟨rfl, B5.out⟩

set_option maxHeartbeats 6400000 in
theorem lClaimSame_walk (c : Value) (w : World) (h : CodeIn w c) (G : Gr w) : Calls Tryd.prog 10 #[c] w fun e w' => e = .returned (.bool true) ∧ Below w.heap.size w w' := by
  obtain ⟨a0, len0, cap0, rfl⟩ := h.slice
  have H := Lib.hid h; clear h
  have G0 := Lib.hid G; clear G
  have B0 := Lib.hid (Below.refl w.heap.size w)
  by_cases hl : 1048576 < len0
  · go_enter Tryd.func10, Tryd.ntmps10
    go_wp2
    go_ret
    exact ⟨rfl, Below.refl _ _⟩
  go_enter Tryd.func10, Tryd.ntmps10
  go_wp2_with fail
  refine (drawClaimSame_any _ _ H.out).mono ?_
  rintro e w1 ⟨g, s, a, b, rfl, hb⟩
  have B1 := Lib.hid (Below.on B0.out hb)
  have G1 := Lib.hid (G0.out.on hb)
  clear hb
  by_cases hI : envI g s a = true ∧ envI g s b = true
  · skip
    obtain ⟨hI1, hI2⟩ := hI
    have SM : Hid (Sm [[s]] [sameM g a b]) := Lib.hid sm_one
    have HI : Hid (envI g s a = true ∧ envI g s b = true) := Lib.hid ⟨hI1, hI2⟩
    have HS : Hid (sndB g s = true ∧ elB g a = true ∧ elB g b = true) := Lib.hid ⟨(envI_true.1 hI1).1, (envI_true.1 hI1).2, (envI_true.1 hI2).2⟩
    obtain ⟨g0, g4⟩ := envI_g hI1
    have HC := Lib.hid (one_cl (snd_true.1 (envI_true.1 hI1).1).1 (sameM_el (envI_true.1 hI1).2 (envI_true.1 hI2).2))
    obtain ⟨q, hq, q3, q23⟩ := ord_of g0 g4
    obtain ⟨A, hA⟩ : ∃ A : Nat → Int, A = fun k : Nat => wayF g s a k := ⟨_, rfl⟩
    obtain ⟨D, hD⟩ : ∃ D : Nat → Int, D = fun k : Nat => wayF g s b k := ⟨_, rfl⟩
    have HSO := Lib.hid (show ∀ k : Nat, solvB g [[s]] [sameM g a b] [(A k - D k) % (q : Int)] = true from fun k => by rw [hA, hD, ← hq]; exact same_solv HS.out.1 HS.out.2.1 HS.out.2.2 k)
    have HBD := Lib.hid (show ∀ k : Nat, (0 ≤ A k ∧ A k < q) ∧ 0 ≤ D k ∧ D k < q from fun k => by rw [hA, hD, ← hq]; exact ⟨way_bd g0 g4 _, way_bd g0 g4 _⟩)
    have HWA := Lib.hid (fun (W : World) (u : Value) (us : List Value) lo hi (ho : OwnSS W lo hi u us (ways g s a)) => waysC_cells ho hI1 hq)
    have HWB := Lib.hid (fun (W : World) (u : Value) (us : List Value) lo hi (ho : OwnSS W lo hi u us (ways g s b)) => waysC_cells ho hI2 hq)
    have HOR := Lib.hid (fun w' : World => sordc_q hq w')
    obtain ⟨m, hm⟩ : ∃ m, sameM g a b = m := ⟨_, rfl⟩
    rw [hm] at SM HC HSO
    have HIM := Lib.hid (fun (w' : World) (G' : Gr w') => isam_yes g s a b w' G' HI.out)
    have HSM := Lib.hid (fun (w' : World) => ssam_yes g s a b w' HS.out)
    rw [hm] at HIM HSM
    have HA := Lib.hid hA
    have HD := Lib.hid hD
    clear hm hI1 hI2 g0 g4 hq hA hD
    have hzz : (g != g) = false := by simp
    go_wp2_with fail
    refine (HIM.out _ G1.out).mono ?_
    rintro e w2 ⟨rv, mv, us, rfl, o, hb⟩
    have B2 := Lib.hid (Below.on B1.out hb)
    have G2 := Lib.hid (G1.out.on hb)
    obtain ⟨⟨a1, c1, er⟩, a2, c2, em⟩ := o.form1
    change rv = .slice a1 1 c1 at er
    change mv = .slice a2 1 c2 at em
    subst er em
    have OC2 := Lib.hid (SM.out.cw o)
    clear o
    clear hb
    go_wp2_with fail
    refine (HSM.out _).mono ?_
    rintro e w3 ⟨rv, mv, us, rfl, o, hbx⟩
    have hb := Below.on (below_grow w2 (.cells #[.int .i64 (g), .slice a1 1 c1, .slice a2 1 c2] 26)) hbx
    have B3 := Lib.hid (Below.on B2.out hb)
    have G3 := Lib.hid (G2.out.on hb)
    obtain ⟨⟨a3, c3, er⟩, a4, c4, em⟩ := o.form1
    change rv = .slice a3 1 c3 at er
    change mv = .slice a4 1 c4 at em
    subst er em
    have OX3 := Lib.hid (SM.out.cw o)
    have OC3 := Lib.hid (OC2.out.on hb)
    have PC3 := Lib.hid ((Box.made w2 [.int .i64 (g), .slice a1 1 c1, .slice a2 1 c2] 26).on hbx)
    clear o OC2
    clear hb hbx
    have pb := PC3.out.alloc (.cells #[.int .i64 (g), .slice a3 1 c3, .slice a4 1 c4] 26)
    have q0 := pb.cell 0
    have q1 := pb.cell 1
    have q2 := pb.cell 2
    simp at q0 q1 q2
    clear pb
    go_wp2_with fail
    refine (samer_any _ _ [[s]] _ ((OC3.out.on (below_grow w3 (.cells #[.int .i64 (g), .slice a3 1 c3, .slice a4 1 c4] 26))).rows) ((OX3.out.on (below_grow w3 (.cells #[.int .i64 (g), .slice a3 1 c3, .slice a4 1 c4] 26))).rows)).mono ?_
    rintro e w4 ⟨rfl, hbx⟩
    have hb := Below.on (below_grow w3 (.cells #[.int .i64 (g), .slice a3 1 c3, .slice a4 1 c4] 26)) hbx
    have B4 := Lib.hid (Below.on B3.out hb)
    have G4 := Lib.hid (G3.out.on hb)
    have OC4 := Lib.hid (OC3.out.on hb)
    have OX4 := Lib.hid (OX3.out.on hb)
    have PC4 := Lib.hid (PC3.out.on hb)
    have PX4 := Lib.hid ((Box.made w3 [.int .i64 (g), .slice a3 1 c3, .slice a4 1 c4] 26).on hbx)
    clear hb hbx q0 q1 q2 OC3 OX3 PC3
    have q0 := PC4.out.cell 0
    have q1 := PC4.out.cell 1
    have q2 := PC4.out.cell 2
    have r2 := PX4.out.cell 2
    simp at q0 q1 q2 r2
    go_wp2_with fail
    refine (same_eq _ _ [m] _ OC4.out.makes OX4.out.makes).mono ?_
    rintro e w5 ⟨rfl, hb⟩
    have B5 := Lib.hid (Below.on B4.out hb)
    have G5 := Lib.hid (G4.out.on hb)
    have OC5 := Lib.hid (OC4.out.on hb)
    have PC5 := Lib.hid (PC4.out.on hb)
    clear q0 q1 q2 r2 OC4 OX4 PC4 PX4
    clear hb
    have q0 := PC5.out.cell 0
    have q1 := PC5.out.cell 1
    have q2 := PC5.out.cell 2
    simp at q0 q1 q2
    go_wp2_with fail
    refine (sways_any g s a _).mono ?_
    rintro e w6 ⟨ua, usa, rfl, o, hb⟩
    have B6 := Lib.hid (Below.on B5.out hb)
    have G6 := Lib.hid (G5.out.on hb)
    have OC6 := Lib.hid (OC5.out.on hb)
    have PC6 := Lib.hid (PC5.out.on hb)
    clear q0 q1 q2 OC5 PC5
    obtain ⟨aa, ca, rfl, hc⟩ := HWA.out _ _ _ _ _ o
    have CA := Lib.hid hc
    clear o hc
    clear hb
    go_wp2_with fail
    refine (sways_any g s b _).mono ?_
    rintro e w7 ⟨ub, usb, rfl, o, hb⟩
    have B7 := Lib.hid (Below.on B6.out hb)
    have G7 := Lib.hid (G6.out.on hb)
    have OC7 := Lib.hid (OC6.out.on hb)
    have PC7 := Lib.hid (PC6.out.on hb)
    have BW := Lib.hid hb
    obtain ⟨ab, cb, rfl, hc⟩ := HWB.out _ _ _ _ _ o
    have CB := Lib.hid hc
    clear o hc OC6 PC6
    clear hb
    have HCC := Lib.hid (show ∀ k, k < q → ∃ Ga Xa cxa Gb Xb cxb, aa = some ⟨Ga, 0, none⟩ ∧ ab = some ⟨Gb, 0, none⟩ ∧ ∀ w', Below w7.heap.size w7 w' → (w'.cell? ⟨Ga, k, none⟩ = some (.slice (some ⟨Xa, 0, none⟩) 1 cxa) ∧ w'.cell? ⟨Xa, 0, none⟩ = some (.int .i64 (A k))) ∧ (w'.cell? ⟨Gb, k, none⟩ = some (.slice (some ⟨Xb, 0, none⟩) 1 cxb) ∧ w'.cell? ⟨Xb, 0, none⟩ = some (.int .i64 (D k))) from fun k hk => by
      obtain ⟨Ga, Xa, cxa, e1, h1⟩ := CA.out k hk
      obtain ⟨Gb, Xb, cxb, e2, h2⟩ := CB.out k hk
      refine ⟨Ga, Xa, cxa, Gb, Xb, cxb, e1, e2, fun w' hb => ?_⟩
      have k1 := h1 w' (Below.on BW.out hb)
      have k2 := h2 w' hb
      rw [HA.out, HD.out]
      exact ⟨⟨k1.1, k1.2.1⟩, k2.1, k2.2.1⟩)
    clear CA CB BW HA HD
    go_wp2
    go_loopw [11] (fun i wr => ∃ k : Nat, k ≤ q ∧ i = .int .i64 k ∧ Hid (Below w7.heap.size w7 wr)) (fun i _ => q - (intOf i).toNat)
    case atStart => exact ⟨0, by omega, rfl, Lib.hid (Below.refl _ _)⟩
    case round =>
      obtain ⟨k, hk, rfl, hB⟩ := hrel
      obtain ⟨wo, rfl⟩ : ∃ wo : World, wo = wr := ⟨_, rfl⟩
      by_cases hlt : k < q
      · have hlt1 : (k : Int) < (q : Int) := by omega
        obtain ⟨Ga, Xa, cxa, Gb, Xb, cxb, rfl, rfl, hc⟩ := HCC.out k hlt
        have HX := Lib.hid hc
        obtain ⟨⟨A0, A1⟩, D0, D1⟩ := HBD.out k
        have HSK := Lib.hid (HSO.out k)
        obtain ⟨x, hx⟩ : ∃ x, A k = x := ⟨_, rfl⟩
        obtain ⟨y, hy⟩ : ∃ y, D k = y := ⟨_, rfl⟩
        rw [hx, hy] at HX HSK
        rw [hx] at A0 A1
        rw [hy] at D0 D1
        clear hc hx hy
        go_wp2_with fail
        apply wp_region_H (Z := Option Nat) (S := fun k => k == 17 || k == 18 || k == 19) (C := fun z w' => Hid (Cz w7 ((x - y) % (q : Int)) z w')) [0, 1, 2, 3, 4, 5, 6, 7, 8, 9, 10, 11, 12, 13, 14, 15, 16] none
        · kernel_rfl
        · kernel_rfl
        · kernel_rfl
        · exact ⟨rfl, rfl, rfl, rfl, rfl, rfl, rfl, rfl, rfl, rfl, rfl, rfl, rfl, rfl, rfl, rfl, rfl, trivial⟩
        · rfl
        · decide
        · exact Lib.hid ((show Cz w7 ((x - y) % (q : Int)) none wo from hB.out).on (Below.refl _ _).drew)
        · intro z
          dsimp only [pickL, nthO]
          repeat (first | go_big_quiet_skip | (go_big_quiet_want; go_big_quiet_op; first | go_big_quiet_on | (refine ⟨_, fun _ _ => rfl, ?_⟩; go_big_quiet_on)))
          go_big_quiet_want
          go_big_quiet_op
          refine ⟨.agg #[.int .i64 g, .slice a1 1 c1, .slice a2 1 c2], fun w' hw' => ?_, ?_⟩
          · have pb := PC7.out.on hw'.out.below
            have q0 := pb.cell 0
            have q1 := pb.cell 1
            have q2 := pb.cell 2
            simp at q0 q1 q2
            simp [go_sem, q0, q1, q2]
          go_big_quiet_on
          repeat (first | go_big_quiet_skip | (go_big_quiet_want; go_big_quiet_op; first | go_big_quiet_on | (refine ⟨_, fun _ _ => rfl, ?_⟩; go_big_quiet_on)))
          go_big_quiet_want
          go_big_quiet_op
          refine ⟨.slice (some ⟨Xa, 0, none⟩) 1 cxa, fun w' hw' => ?_, ?_⟩
          · have q9 := (HX.out _ hw'.out.below).1.1
            simp [go_sem, q9]
          go_big_quiet_on
          repeat (first | go_big_quiet_skip | (go_big_quiet_want; go_big_quiet_op; first | go_big_quiet_on | (refine ⟨_, fun _ _ => rfl, ?_⟩; go_big_quiet_on)))
          go_big_quiet_want
          go_big_quiet_op
          refine ⟨.int .i64 x, fun w' hw' => ?_, ?_⟩
          · have q9 := (HX.out _ hw'.out.below).1.2
            simp [go_sem, q9]
          go_big_quiet_on
          repeat (first | go_big_quiet_skip | (go_big_quiet_want; go_big_quiet_op; first | go_big_quiet_on | (refine ⟨_, fun _ _ => rfl, ?_⟩; go_big_quiet_on)))
          go_big_quiet_want
          go_big_quiet_op
          refine ⟨.slice (some ⟨Xb, 0, none⟩) 1 cxb, fun w' hw' => ?_, ?_⟩
          · have q9 := (HX.out _ hw'.out.below).2.1
            simp [go_sem, q9]
          go_big_quiet_on
          repeat (first | go_big_quiet_skip | (go_big_quiet_want; go_big_quiet_op; first | go_big_quiet_on | (refine ⟨_, fun _ _ => rfl, ?_⟩; go_big_quiet_on)))
          go_big_quiet_want
          go_big_quiet_op
          refine ⟨.int .i64 y, fun w' hw' => ?_, ?_⟩
          · have q9 := (HX.out _ hw'.out.below).2.2
            simp [go_sem, q9]
          go_big_quiet_on
          repeat (first | go_big_quiet_skip | (go_big_quiet_want; go_big_quiet_op; first | go_big_quiet_on | (refine ⟨_, fun _ _ => rfl, ?_⟩; go_big_quiet_on)))
          go_big_quiet_want
          go_big_quiet_op
          go_big_quiet_call ((intro hw; exact (HOR.out _).mono fun _ _ ⟨he, hb⟩ => ⟨he, Lib.hid (hw.out.on hb)⟩))
          repeat (first | go_big_quiet_skip | (go_big_quiet_want; go_big_quiet_op; first | go_big_quiet_on | (refine ⟨_, fun _ _ => rfl, ?_⟩; go_big_quiet_on)))
          go_big_quiet_want
          go_big_quiet_op
          go_big_quiet_call ((intro hw; exact (rest_any (x - y) (q : Int) _ (by omega) (by omega) (by omega) (by omega)).mono fun _ _ ⟨he, hb⟩ => ⟨he, by rw [← hb]; exact hw⟩))
          repeat (first | go_big_quiet_skip | (go_big_quiet_want; go_big_quiet_op; first | go_big_quiet_on | (refine ⟨_, fun _ _ => rfl, ?_⟩; go_big_quiet_on)))
          exact wpQuiet_nil rfl
        · refine wpAnyH_special (i := 17) (d := some 89) rfl (by kernel_rfl) rfl rfl (by kernel_rfl) fun wa hc => ⟨.slice (some ⟨wa.heap.size, 0, none⟩) 1 1, wa.alloc (.cells #[.int .i64 ((x - y) % (q : Int))] 3), some wa.heap.size, .inl (by kernel_rfl), Lib.hid (Cz.build hc.out), ?_⟩
          clear hc
          refine wpAnyH_call (i := 18) (d := some 90) 25 #[.agg #[.int .i64 g, .slice a1 1 c1, .slice a2 1 c2], .slice (some ⟨wa.heap.size, 0, none⟩) 1 1] rfl (by kernel_rfl) rfl rfl (by kernel_rfl) (fun _ => by kernel_rfl) fun wb hc => ?_
          refine (isolv_is HSK.out _ _ _ wb (G7.out.on hc.out.1) (OC7.out.on hc.out.1) (Ints.of_own hc.out.2 (by unfold maxLen; simp))).mono ?_
          rintro e wd ⟨rfl, hb⟩
          refine ⟨_, rfl, none, Lib.hid (Below.on hc.out.1 hb), ?_⟩
          clear hc hb
          refine wpAnyH_special (i := 19) (d := some 91) rfl (by kernel_rfl) rfl rfl (by kernel_rfl) fun wy hcy => ⟨.bool false, wy, none, .inl (by kernel_rfl), hcy, ?_⟩
          refine ⟨by kernel_rfl, fun wz hz => ?_⟩
          have TZ := Lib.hid (show Below w7.heap.size w7 wz from hz.out)
          clear hz hcy
          simp only [Act.put]
          go_wp2
          go_roundw
          case rel => exact ⟨k + 1, by omega, by go_num, TZ⟩
          case measure => simp [intOf]; omega
      · obtain rfl : k = q := by omega
        have pb := PC7.out.on hB.out
        have q0 := pb.cell 0
        have q1 := pb.cell 1
        have q2 := pb.cell 2
        simp at q0 q1 q2
        clear pb
        go_wp2_with fail
        refine (iclaim_yes HC.out _ _ _ (G7.out.on hB.out) (OC7.out.on hB.out)).mono ?_
        rintro e w99 ⟨rfl, hb⟩
        have BZ := Lib.hid (Below.on B7.out (Below.on hB.out hb))
        clear hb
        go_wp2
        go_ret
        exact ⟨rfl, BZ.out⟩
  · skip
    have SM := Lib.hid sm_none
    have HI := Lib.hid hI
    have HS : Hid (¬ (sndB g s = true ∧ elB g a = true ∧ elB g b = true)) := Lib.hid fun k => hI ⟨envI_true.2 ⟨k.1, k.2.1⟩, envI_true.2 ⟨k.1, k.2.2⟩⟩
    clear hI
    have hzz : ((0 : Int) != (0 : Int)) = false := by simp
    go_wp2_with fail
    refine (isam_no g s a b _ G1.out HI.out).mono ?_
    rintro e w2 ⟨rv, mv, us, rfl, o, hb⟩
    have B2 := Lib.hid (Below.on B1.out hb)
    have G2 := Lib.hid (G1.out.on hb)
    obtain ⟨⟨a1, c1, er⟩, a2, c2, em⟩ := o.form1
    change rv = .slice a1 0 c1 at er
    change mv = .slice a2 0 c2 at em
    subst er em
    have OC2 := Lib.hid (SM.out.cw o)
    clear o
    clear hb
    go_wp2_with fail
    refine (ssam_no g s a b _ HS.out).mono ?_
    rintro e w3 ⟨rv, mv, us, rfl, o, hbx⟩
    have hb := Below.on (below_grow w2 (.cells #[.int .i64 ((0 : Int)), .slice a1 0 c1, .slice a2 0 c2] 26)) hbx
    have B3 := Lib.hid (Below.on B2.out hb)
    have G3 := Lib.hid (G2.out.on hb)
    obtain ⟨⟨a3, c3, er⟩, a4, c4, em⟩ := o.form1
    change rv = .slice a3 0 c3 at er
    change mv = .slice a4 0 c4 at em
    subst er em
    have OX3 := Lib.hid (SM.out.cw o)
    have OC3 := Lib.hid (OC2.out.on hb)
    have PC3 := Lib.hid ((Box.made w2 [.int .i64 ((0 : Int)), .slice a1 0 c1, .slice a2 0 c2] 26).on hbx)
    clear o OC2
    clear hb hbx
    have pb := PC3.out.alloc (.cells #[.int .i64 ((0 : Int)), .slice a3 0 c3, .slice a4 0 c4] 26)
    have q0 := pb.cell 0
    have q1 := pb.cell 1
    have q2 := pb.cell 2
    simp at q0 q1 q2
    clear pb
    go_wp2_with fail
    refine (samer_any _ _ [] _ ((OC3.out.on (below_grow w3 (.cells #[.int .i64 ((0 : Int)), .slice a3 0 c3, .slice a4 0 c4] 26))).rows) ((OX3.out.on (below_grow w3 (.cells #[.int .i64 ((0 : Int)), .slice a3 0 c3, .slice a4 0 c4] 26))).rows)).mono ?_
    rintro e w4 ⟨rfl, hbx⟩
    have hb := Below.on (below_grow w3 (.cells #[.int .i64 ((0 : Int)), .slice a3 0 c3, .slice a4 0 c4] 26)) hbx
    have B4 := Lib.hid (Below.on B3.out hb)
    have G4 := Lib.hid (G3.out.on hb)
    have OC4 := Lib.hid (OC3.out.on hb)
    have OX4 := Lib.hid (OX3.out.on hb)
    have PC4 := Lib.hid (PC3.out.on hb)
    have PX4 := Lib.hid ((Box.made w3 [.int .i64 ((0 : Int)), .slice a3 0 c3, .slice a4 0 c4] 26).on hbx)
    clear hb hbx q0 q1 q2 OC3 OX3 PC3
    have q0 := PC4.out.cell 0
    have q1 := PC4.out.cell 1
    have q2 := PC4.out.cell 2
    have r2 := PX4.out.cell 2
    simp at q0 q1 q2 r2
    go_wp2_with fail
    refine (same_eq _ _ [] _ OC4.out.makes OX4.out.makes).mono ?_
    rintro e w5 ⟨rfl, hb⟩
    have B5 := Lib.hid (Below.on B4.out hb)
    have G5 := Lib.hid (G4.out.on hb)
    have OC5 := Lib.hid (OC4.out.on hb)
    have PC5 := Lib.hid (PC4.out.on hb)
    clear q0 q1 q2 r2 OC4 OX4 PC4 PX4
    clear hb
    have q0 := PC5.out.cell 0
    have q1 := PC5.out.cell 1
    have q2 := PC5.out.cell 2
    simp at q0 q1 q2
    go_wp2_with fail
    refine (alive_any _ G5.out).mono ?_
    rintro e wz ⟨rfl, rfl⟩
    go_wp2
    go_ret
    exact ⟨rfl, B5.out⟩

end Go.Proofs.YtljekapbcphdaabDoor
