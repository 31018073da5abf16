/- impl.Solves. -/
import Derived.Test.YtljekapbcphdaabDoorBCl
import Derived.Test.YtljekapbcphdaabDoorBReg
namespace Go.Proofs.YtljekapbcphdaabDoor
open Go.RowKit

/-- A box, and perhaps a list of the call's own. -/
def Kv (w : World) (P : List Value) (T : TypeId) (xs : List Int) (z : Option Value) (w' : World) : Prop := InB w P T w' ∧ ∀ v, z = some v → Own w' (w.heap.size + 1) v xs
theorem Kv.on {w : World} {P : List Value} {T : TypeId} {xs : List Int} {z : Option Value} {w1 w2 : World} (h : Kv w P T xs z w1) (hb : Below w1.heap.size w1 w2) : Kv w P T xs z w2 := ⟨h.1.on hb, fun v hv => own_below (h.2 v hv) hb⟩

set_option maxHeartbeats 1600000 in
theorem isolv_any (g : Int) (rv mv ev : Value) (rows : List (List Int)) (makes es : List Int) (w : World) (G : Gr w) (h : Cw w rv mv rows makes) (he : Ints w ev es) :
    Calls Tryd.prog 25 #[.agg #[.int .i64 g, rv, mv], ev] w fun e w' => e = .returned (.bool (solvB g rows makes es)) ∧ Below w.heap.size w w' := by
  have HH := Lib.hid h
  have HE := Lib.hid he
  have HG := Lib.hid G
  have I0 : Hid (Kv w [.int .i64 g, rv, mv] 26 (mkAll g rows es) none (w.alloc (.cells #[.int .i64 g, rv, mv] 26)).drew) := Lib.hid ⟨(InB.start w _ _).on (Below.refl _ _).drew, fun v hv => by cases hv⟩
  have HLOT : Hid (∀ w', InB w [.int .i64 g, rv, mv] 26 w' → Calls Tryd.prog 69 #[.agg #[.int .i64 g, rv, mv], ev] w' fun e w'' => e = .returned (.bool (lotB g rows makes es)) ∧ Below w'.heap.size w' w'') := Lib.hid fun w' hI => ilot_any g rv mv ev rows makes es w' (HG.out.on hI.fin) (HH.out.on hI.fin) (HE.out.below hI.fin)
  cases hl : lotB g rows makes es
  · rw [hl] at HLOT
    have HX := Lib.hid (solv_no hl)
    clear h he G
    go_enter Tryd.func25, Tryd.ntmps25
    go_wp2_with fail
    refine wp_region_class (C := fun w' => Hid (Kv w [.int .i64 g, rv, mv] 26 (mkAll g rows es) none w')) (by kernel_rfl) (by kernel_rfl) I0 ?_
    repeat (first | go_big_quiet_skip | (go_big_quiet_want; go_big_quiet_op; first | go_big_quiet_on | (refine ⟨_, fun _ _ => rfl, ?_⟩; go_big_quiet_on)))
    go_big_quiet_want
    go_big_quiet_op
    refine ⟨.agg #[.int .i64 g, rv, mv], fun w' hw' => ?_, ?_⟩
    · have q := hw'.out.1.box
      have q0 := q.cell 0; have q1 := q.cell 1; have q2 := q.cell 2
      simp at q0 q1 q2
      simp [go_sem, q0, q1, q2]
    go_big_quiet_on
    repeat (first | go_big_quiet_skip | (go_big_quiet_want; go_big_quiet_op; first | go_big_quiet_on | (refine ⟨_, fun _ _ => rfl, ?_⟩; go_big_quiet_on)))
    go_big_quiet_want
    go_big_quiet_op
    go_big_quiet_call ((intro hw; exact (HLOT.out _ hw.out.1).mono fun _ _ ⟨he, hb⟩ => ⟨he, Lib.hid (hw.out.on hb)⟩))
    repeat (first | go_big_quiet_skip | (go_big_quiet_want; go_big_quiet_op; first | go_big_quiet_on | (refine ⟨_, fun _ _ => rfl, ?_⟩; go_big_quiet_on)))
    refine wpQuiet_nil ?_
    intro w' hw'
    go_wp2
    go_ret
    exact ⟨by rw [HX.out]; rfl, hw'.out.1.fin⟩
  · rw [hl] at HLOT
    have HM := Lib.hid (show rows.length ≤ maxLen from by have := (lotB_true.1 hl).cl.r3; unfold maxLen; omega)
    have HX := Lib.hid (solv_yes hl)
    have HR := Lib.hid (rmk_yes hl)
    clear h he G
    go_enter Tryd.func25, Tryd.ntmps25
    go_wp2_with fail
    apply wp_region_H (S := fun k => k == 6 || k == 9 || k == 10) (C := fun z w' => Hid (Kv w [.int .i64 g, rv, mv] 26 (mkAll g rows es) z w')) [0, 1, 2, 3, 4, 5, 7, 8] none
    · kernel_rfl
    · kernel_rfl
    · kernel_rfl
    · exact ⟨rfl, rfl, rfl, rfl, rfl, rfl, rfl, rfl, trivial⟩
    · rfl
    · decide
    · exact I0
    · intro z
      dsimp only [pickL, nthO]
      repeat (first | go_big_quiet_skip | (go_big_quiet_want; go_big_quiet_op; first | go_big_quiet_on | (refine ⟨_, fun _ _ => rfl, ?_⟩; go_big_quiet_on)))
      go_big_quiet_want
      go_big_quiet_op
      refine ⟨.agg #[.int .i64 g, rv, mv], fun w' hw' => ?_, ?_⟩
      · have q := hw'.out.1.box
        have q0 := q.cell 0; have q1 := q.cell 1; have q2 := q.cell 2
        simp at q0 q1 q2
        simp [go_sem, q0, q1, q2]
      go_big_quiet_on
      repeat (first | go_big_quiet_skip | (go_big_quiet_want; go_big_quiet_op; first | go_big_quiet_on | (refine ⟨_, fun _ _ => rfl, ?_⟩; go_big_quiet_on)))
      go_big_quiet_want
      go_big_quiet_op
      go_big_quiet_call ((intro hw; exact (HLOT.out _ hw.out.1).mono fun _ _ ⟨he, hb⟩ => ⟨he, Lib.hid (hw.out.on hb)⟩))
      repeat (first | go_big_quiet_skip | (go_big_quiet_want; go_big_quiet_op; first | go_big_quiet_on | (refine ⟨_, fun _ _ => rfl, ?_⟩; go_big_quiet_on)))
      go_big_quiet_want
      go_big_quiet_op
      refine ⟨.agg #[.int .i64 g, rv, mv], fun w' hw' => ?_, ?_⟩
      · have q := hw'.out.1.box
        have q0 := q.cell 0; have q1 := q.cell 1; have q2 := q.cell 2
        simp at q0 q1 q2
        simp [go_sem, q0, q1, q2]
      go_big_quiet_on
      repeat (first | go_big_quiet_skip | (go_big_quiet_want; go_big_quiet_op; first | go_big_quiet_on | (refine ⟨_, fun _ _ => rfl, ?_⟩; go_big_quiet_on)))
      go_big_quiet_want
      go_big_quiet_op
      refine ⟨mv, fun w' hw' => ?_, ?_⟩
      · have q2 := hw'.out.1.box.cell 2
        simp at q2
        simp [go_sem, q2]
      go_big_quiet_on
      exact wpQuiet_nil rfl
    · refine wpAnyH_call (i := 6) (d := some 11) 71 #[.agg #[.int .i64 g, rv, mv], ev] rfl (by kernel_rfl) rfl rfl (by kernel_rfl) (fun _ => by kernel_rfl) fun w1 hc => ?_
      have c := irmk_any g rv mv ev rows makes es w1 (HG.out.on hc.out.1.fin) (HH.out.on hc.out.1.fin) (HE.out.below hc.out.1.fin)
      refine c.mono ?_
      rintro e w2 ⟨v, rfl, ho, hb⟩
      rw [HR.out] at ho
      refine ⟨v, rfl, some v, Lib.hid ⟨hc.out.1.on hb, fun v' hv => by cases hv; exact own_mono ho hc.out.1.size⟩, ?_⟩
      obtain ⟨b, hbb⟩ : ∃ b, sameB (mkAll g rows es) makes = b := ⟨_, rfl⟩
      rw [hbb] at HX
      refine wpAnyH_call (i := 9) (d := some 14) 70 #[v, mv] rfl (by kernel_rfl) rfl rfl (by kernel_rfl) (fun _ => by kernel_rfl) fun w3 hc3 => ?_
      have c := slEq_any v mv (mkAll g rows es) makes w3 (Ints.of_own (hc3.out.2 v rfl) (by rw [mkAll_len]; exact HM.out)) (HH.out.makes.below hc3.out.1.fin)
      refine c.mono ?_
      rintro e w4 ⟨rfl, hb4⟩
      rw [hbb]
      refine ⟨_, rfl, some v, Lib.hid (hc3.out.on hb4), ?_⟩
      refine wpAnyH_special (i := 10) (d := some 15) rfl (by kernel_rfl) rfl rfl (by kernel_rfl) fun w5 hc5 => ⟨.bool b, w5, some v, .inl (by kernel_rfl), hc5, ?_⟩
      refine wpAnyH_assign (i := 11) (d := some 4) _ rfl (by kernel_rfl) rfl rfl (by kernel_rfl) rfl ?_
      refine ⟨by kernel_rfl, fun wz hz => ?_⟩
      simp only [Act.put, Act.eval]
      go_wp2
      go_ret
      exact ⟨by rw [HX.out]; rfl, hz.out.1.fin⟩
end Go.Proofs.YtljekapbcphdaabDoor
