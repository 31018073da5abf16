/- impl.lotsOf, impl.SolutionsOf. -/
import Derived.Test.YtljekapbcphdaabDoorNumI
import Derived.Test.YtljekapbcphdaabDoorSolI
namespace Go.Proofs.YtljekapbcphdaabDoor
open Go.RowKit

/-- A box, and perhaps a list of lists of the call's own. -/
def Kl (w : World) (P : List Value) (T : TypeId) (L : List (List Int)) (z : Option (Value × List Value)) (w' : World) : Prop := InB w P T w' ∧ ∀ v us, z = some (v, us) → OwnSS w' (w.heap.size + 1) w'.heap.size v us L
theorem OwnSS.onAll {w w' : World} {lo : Nat} {v : Value} {us : List Value} {xss : List (List Int)} (h : OwnSS w lo w.heap.size v us xss) (hb : Below w.heap.size w w') : OwnSS w' lo w'.heap.size v us xss := (h.on hb).wider hb.size
theorem Kl.on {w : World} {P : List Value} {T : TypeId} {L : List (List Int)} {z : Option (Value × List Value)} {w1 w2 : World} (h : Kl w P T L z w1) (hb : Below w1.heap.size w1 w2) : Kl w P T L z w2 := ⟨h.1.on hb, fun v us hv => (h.2 v us hv).onAll hb⟩

set_option maxHeartbeats 3200000 in
theorem ilots_any (g : Int) (rv mv : Value) (rows : List (List Int)) (makes : List Int) (w : World) (G : Gr w) (h : Cw w rv mv rows makes) (hcl : Cl g rows makes) :
    Calls Tryd.prog 76 #[.agg #[.int .i64 g, rv, mv]] w fun e w' => ∃ v us, e = .returned v ∧ OwnSS w' w.heap.size w'.heap.size v us (lots (ord g).toNat (unk rows)) ∧ Below w.heap.size w w' := by
  obtain ⟨u, hu⟩ : ∃ u, unk rows = u := ⟨_, rfl⟩
  have hu2 : u ≤ 2 := by rw [← hu]; exact hcl.u2
  have g0 := hcl.g0
  have g4 := hcl.g4
  have hr1 := hcl.r1
  obtain ⟨a, c, hrv, hA⟩ := h.rows.opened
  obtain ⟨n, hn⟩ : ∃ n, rows.length = n := ⟨_, rfl⟩
  obtain ⟨G0, x, rfl, hG0, hx0, hxi⟩ := hA.get 0 (by omega)
  obtain ⟨ax, cx, hxe, _⟩ := hxi.opened
  rw [show (row rows 0).length = u from hu] at hxe
  rw [hn] at hrv hr1
  subst hrv hxe
  have HG := Lib.hid G
  have HR0 : Hid (∀ w', Below w.heap.size w w' → w'.cell? ⟨G0, 0, none⟩ = some (.slice ax u cx)) := Lib.hid fun w' hb => (hb.cell (p := ⟨G0, 0, none⟩) hG0).trans hx0
  rw [hu]
  clear h hcl hA hx0 hxi G hG0 hn hu
  rcases g_cases g0 g4 with rfl | rfl | rfl | rfl <;> clear g0 g4
  · have I0 : Hid (Kl w [.int .i64 0, .slice (some ⟨G0, 0, none⟩) n c, mv] 26 (lots 3 u) none (w.alloc (.cells #[.int .i64 0, .slice (some ⟨G0, 0, none⟩) n c, mv] 26)).drew) := Lib.hid ⟨(InB.start w _ _).on (Below.refl _ _).drew, fun v us hv => by cases hv⟩
    have HQ : Hid (lots (ord 0).toNat u = lots 3 u) := Lib.hid rfl
    go_enter Tryd.func76, Tryd.ntmps76
    go_wp2_with fail
    apply wp_region_H (S := fun k => k == 10) (C := fun z w' => Hid (Kl w [.int .i64 0, .slice (some ⟨G0, 0, none⟩) n c, mv] 26 (lots 3 u) z w')) [0, 1, 2, 3, 4, 5, 6, 7, 8, 9] none
    · kernel_rfl
    · kernel_rfl
    · kernel_rfl
    · exact ⟨rfl, rfl, rfl, rfl, rfl, rfl, rfl, rfl, rfl, rfl, trivial⟩
    · rfl
    · decide
    · exact I0
    · intro z
      dsimp only [pickL, nthO]
      repeat (first | go_big_quiet_skip | (go_big_quiet_want; go_big_quiet_op; first | go_big_quiet_on | (refine ⟨_, fun _ _ => rfl, ?_⟩; go_big_quiet_on)))
      go_big_quiet_want
      go_big_quiet_op
      refine ⟨.int .i64 0, fun w' hw' => ?_, ?_⟩
      · have q := hw'.out.1.box.cell 0
        simp at q
        simp [go_sem, q]
      go_big_quiet_on
      repeat (first | go_big_quiet_skip | (go_big_quiet_want; go_big_quiet_op; first | go_big_quiet_on | (refine ⟨_, fun _ _ => rfl, ?_⟩; go_big_quiet_on)))
      go_big_quiet_want
      go_big_quiet_op
      refine ⟨.int .i64 3, fun w' hw' => ?_, ?_⟩
      · have q := (HG.out.on hw'.out.1.fin).c1
        simp [go_sem, q]
      go_big_quiet_on
      repeat (first | go_big_quiet_skip | (go_big_quiet_want; go_big_quiet_op; first | go_big_quiet_on | (refine ⟨_, fun _ _ => rfl, ?_⟩; go_big_quiet_on)))
      go_big_quiet_want
      go_big_quiet_op
      refine ⟨.slice (some ⟨G0, 0, none⟩) n c, fun w' hw' => ?_, ?_⟩
      · have q := hw'.out.1.box.cell 1
        simp at q
        simp [go_sem, q]
      go_big_quiet_on
      repeat (first | go_big_quiet_skip | (go_big_quiet_want; go_big_quiet_op; first | go_big_quiet_on | (refine ⟨_, fun _ _ => rfl, ?_⟩; go_big_quiet_on)))
      go_big_quiet_want
      go_big_quiet_op
      refine ⟨.slice ax u cx, fun w' hw' => ?_, ?_⟩
      · have q := HR0.out _ hw'.out.1.fin
        simp [go_sem, q]
      go_big_quiet_on
      repeat (first | go_big_quiet_skip | (go_big_quiet_want; go_big_quiet_op; first | go_big_quiet_on | (refine ⟨_, fun _ _ => rfl, ?_⟩; go_big_quiet_on)))
      exact wpQuiet_nil rfl
    · refine wpAnyH_call (i := 10) (d := some 13) 85 #[.int .i64 3, .int .i64 u] rfl (by kernel_rfl) rfl rfl (by kernel_rfl) (fun _ => by kernel_rfl) fun w1 hc => ?_
      have c := inrows_any 3 u w1 (by omega) hu2
      refine c.mono ?_
      rintro e w2 ⟨v, us, rfl, ho, hb⟩
      refine ⟨v, rfl, some (v, us), Lib.hid ⟨hc.out.1.on hb, fun v' us' hv => by cases hv; exact ho.lower hc.out.1.size⟩, ?_⟩
      refine wpAnyH_assign (i := 11) (d := some 2) _ rfl (by kernel_rfl) rfl rfl (by kernel_rfl) rfl ?_
      refine ⟨by kernel_rfl, fun wz hz => ?_⟩
      simp only [Act.put, Act.eval]
      go_wp2
      go_ret
      exact ⟨_, _, rfl, by rw [HQ.out]; exact (hz.out.2 v us rfl).lower (Nat.le_succ _), hz.out.1.fin⟩
  · have I0 : Hid (Kl w [.int .i64 1, .slice (some ⟨G0, 0, none⟩) n c, mv] 26 (lots 5 u) none (w.alloc (.cells #[.int .i64 1, .slice (some ⟨G0, 0, none⟩) n c, mv] 26)).drew) := Lib.hid ⟨(InB.start w _ _).on (Below.refl _ _).drew, fun v us hv => by cases hv⟩
    have HQ : Hid (lots (ord 1).toNat u = lots 5 u) := Lib.hid rfl
    go_enter Tryd.func76, Tryd.ntmps76
    go_wp2_with fail
    apply wp_region_H (S := fun k => k == 10) (C := fun z w' => Hid (Kl w [.int .i64 1, .slice (some ⟨G0, 0, none⟩) n c, mv] 26 (lots 5 u) z w')) [0, 1, 2, 3, 4, 5, 6, 7, 8, 9] none
    · kernel_rfl
    · kernel_rfl
    · kernel_rfl
    · exact ⟨rfl, rfl, rfl, rfl, rfl, rfl, rfl, rfl, rfl, rfl, trivial⟩
    · rfl
    · decide
    · exact I0
    · intro z
      dsimp only [pickL, nthO]
      repeat (first | go_big_quiet_skip | (go_big_quiet_want; go_big_quiet_op; first | go_big_quiet_on | (refine ⟨_, fun _ _ => rfl, ?_⟩; go_big_quiet_on)))
      go_big_quiet_want
      go_big_quiet_op
      refine ⟨.int .i64 1, fun w' hw' => ?_, ?_⟩
      · have q := hw'.out.1.box.cell 0
        simp at q
        simp [go_sem, q]
      go_big_quiet_on
      repeat (first | go_big_quiet_skip | (go_big_quiet_want; go_big_quiet_op; first | go_big_quiet_on | (refine ⟨_, fun _ _ => rfl, ?_⟩; go_big_quiet_on)))
      go_big_quiet_want
      go_big_quiet_op
      refine ⟨.int .i64 5, fun w' hw' => ?_, ?_⟩
      · have q := (HG.out.on hw'.out.1.fin).c4
        simp [go_sem, q]
      go_big_quiet_on
      repeat (first | go_big_quiet_skip | (go_big_quiet_want; go_big_quiet_op; first | go_big_quiet_on | (refine ⟨_, fun _ _ => rfl, ?_⟩; go_big_quiet_on)))
      go_big_quiet_want
      go_big_quiet_op
      refine ⟨.slice (some ⟨G0, 0, none⟩) n c, fun w' hw' => ?_, ?_⟩
      · have q := hw'.out.1.box.cell 1
        simp at q
        simp [go_sem, q]
      go_big_quiet_on
      repeat (first | go_big_quiet_skip | (go_big_quiet_want; go_big_quiet_op; first | go_big_quiet_on | (refine ⟨_, fun _ _ => rfl, ?_⟩; go_big_quiet_on)))
      go_big_quiet_want
      go_big_quiet_op
      refine ⟨.slice ax u cx, fun w' hw' => ?_, ?_⟩
      · have q := HR0.out _ hw'.out.1.fin
        simp [go_sem, q]
      go_big_quiet_on
      repeat (first | go_big_quiet_skip | (go_big_quiet_want; go_big_quiet_op; first | go_big_quiet_on | (refine ⟨_, fun _ _ => rfl, ?_⟩; go_big_quiet_on)))
      exact wpQuiet_nil rfl
    · refine wpAnyH_call (i := 10) (d := some 13) 85 #[.int .i64 5, .int .i64 u] rfl (by kernel_rfl) rfl rfl (by kernel_rfl) (fun _ => by kernel_rfl) fun w1 hc => ?_
      have c := inrows_any 5 u w1 (by omega) hu2
      refine c.mono ?_
      rintro e w2 ⟨v, us, rfl, ho, hb⟩
      refine ⟨v, rfl, some (v, us), Lib.hid ⟨hc.out.1.on hb, fun v' us' hv => by cases hv; exact ho.lower hc.out.1.size⟩, ?_⟩
      refine wpAnyH_assign (i := 11) (d := some 2) _ rfl (by kernel_rfl) rfl rfl (by kernel_rfl) rfl ?_
      refine ⟨by kernel_rfl, fun wz hz => ?_⟩
      simp only [Act.put, Act.eval]
      go_wp2
      go_ret
      exact ⟨_, _, rfl, by rw [HQ.out]; exact (hz.out.2 v us rfl).lower (Nat.le_succ _), hz.out.1.fin⟩
  · have I0 : Hid (Kl w [.int .i64 2, .slice (some ⟨G0, 0, none⟩) n c, mv] 26 (lots 11 u) none (w.alloc (.cells #[.int .i64 2, .slice (some ⟨G0, 0, none⟩) n c, mv] 26)).drew) := Lib.hid ⟨(InB.start w _ _).on (Below.refl _ _).drew, fun v us hv => by cases hv⟩
    have HQ : Hid (lots (ord 2).toNat u = lots 11 u) := Lib.hid rfl
    go_enter Tryd.func76, Tryd.ntmps76
    go_wp2_with fail
    apply wp_region_H (S := fun k => k == 10) (C := fun z w' => Hid (Kl w [.int .i64 2, .slice (some ⟨G0, 0, none⟩) n c, mv] 26 (lots 11 u) z w')) [0, 1, 2, 3, 4, 5, 6, 7, 8, 9] none
    · kernel_rfl
    · kernel_rfl
    · kernel_rfl
    · exact ⟨rfl, rfl, rfl, rfl, rfl, rfl, rfl, rfl, rfl, rfl, trivial⟩
    · rfl
    · decide
    · exact I0
    · intro z
      dsimp only [pickL, nthO]
      repeat (first | go_big_quiet_skip | (go_big_quiet_want; go_big_quiet_op; first | go_big_quiet_on | (refine ⟨_, fun _ _ => rfl, ?_⟩; go_big_quiet_on)))
      go_big_quiet_want
      go_big_quiet_op
      refine ⟨.int .i64 2, fun w' hw' => ?_, ?_⟩
      · have q := hw'.out.1.box.cell 0
        simp at q
        simp [go_sem, q]
      go_big_quiet_on
      repeat (first | go_big_quiet_skip | (go_big_quiet_want; go_big_quiet_op; first | go_big_quiet_on | (refine ⟨_, fun _ _ => rfl, ?_⟩; go_big_quiet_on)))
      go_big_quiet_want
      go_big_quiet_op
      refine ⟨.int .i64 11, fun w' hw' => ?_, ?_⟩
      · have q := (HG.out.on hw'.out.1.fin).c7
        simp [go_sem, q]
      go_big_quiet_on
      repeat (first | go_big_quiet_skip | (go_big_quiet_want; go_big_quiet_op; first | go_big_quiet_on | (refine ⟨_, fun _ _ => rfl, ?_⟩; go_big_quiet_on)))
      go_big_quiet_want
      go_big_quiet_op
      refine ⟨.slice (some ⟨G0, 0, none⟩) n c, fun w' hw' => ?_, ?_⟩
      · have q := hw'.out.1.box.cell 1
        simp at q
        simp [go_sem, q]
      go_big_quiet_on
      repeat (first | go_big_quiet_skip | (go_big_quiet_want; go_big_quiet_op; first | go_big_quiet_on | (refine ⟨_, fun _ _ => rfl, ?_⟩; go_big_quiet_on)))
      go_big_quiet_want
      go_big_quiet_op
      refine ⟨.slice ax u cx, fun w' hw' => ?_, ?_⟩
      · have q := HR0.out _ hw'.out.1.fin
        simp [go_sem, q]
      go_big_quiet_on
      repeat (first | go_big_quiet_skip | (go_big_quiet_want; go_big_quiet_op; first | go_big_quiet_on | (refine ⟨_, fun _ _ => rfl, ?_⟩; go_big_quiet_on)))
      exact wpQuiet_nil rfl
    · refine wpAnyH_call (i := 10) (d := some 13) 85 #[.int .i64 11, .int .i64 u] rfl (by kernel_rfl) rfl rfl (by kernel_rfl) (fun _ => by kernel_rfl) fun w1 hc => ?_
      have c := inrows_any 11 u w1 (by omega) hu2
      refine c.mono ?_
      rintro e w2 ⟨v, us, rfl, ho, hb⟩
      refine ⟨v, rfl, some (v, us), Lib.hid ⟨hc.out.1.on hb, fun v' us' hv => by cases hv; exact ho.lower hc.out.1.size⟩, ?_⟩
      refine wpAnyH_assign (i := 11) (d := some 2) _ rfl (by kernel_rfl) rfl rfl (by kernel_rfl) rfl ?_
      refine ⟨by kernel_rfl, fun wz hz => ?_⟩
      simp only [Act.put, Act.eval]
      go_wp2
      go_ret
      exact ⟨_, _, rfl, by rw [HQ.out]; exact (hz.out.2 v us rfl).lower (Nat.le_succ _), hz.out.1.fin⟩
  · have I0 : Hid (Kl w [.int .i64 3, .slice (some ⟨G0, 0, none⟩) n c, mv] 26 (lots 23 u) none (w.alloc (.cells #[.int .i64 3, .slice (some ⟨G0, 0, none⟩) n c, mv] 26)).drew) := Lib.hid ⟨(InB.start w _ _).on (Below.refl _ _).drew, fun v us hv => by cases hv⟩
    have HQ : Hid (lots (ord 3).toNat u = lots 23 u) := Lib.hid rfl
    go_enter Tryd.func76, Tryd.ntmps76
    go_wp2_with fail
    apply wp_region_H (S := fun k => k == 10) (C := fun z w' => Hid (Kl w [.int .i64 3, .slice (some ⟨G0, 0, none⟩) n c, mv] 26 (lots 23 u) z w')) [0, 1, 2, 3, 4, 5, 6, 7, 8, 9] none
    · kernel_rfl
    · kernel_rfl
    · kernel_rfl
    · exact ⟨rfl, rfl, rfl, rfl, rfl, rfl, rfl, rfl, rfl, rfl, trivial⟩
    · rfl
    · decide
    · exact I0
    · intro z
      dsimp only [pickL, nthO]
      repeat (first | go_big_quiet_skip | (go_big_quiet_want; go_big_quiet_op; first | go_big_quiet_on | (refine ⟨_, fun _ _ => rfl, ?_⟩; go_big_quiet_on)))
      go_big_quiet_want
      go_big_quiet_op
      refine ⟨.int .i64 3, fun w' hw' => ?_, ?_⟩
      · have q := hw'.out.1.box.cell 0
        simp at q
        simp [go_sem, q]
      go_big_quiet_on
      repeat (first | go_big_quiet_skip | (go_big_quiet_want; go_big_quiet_op; first | go_big_quiet_on | (refine ⟨_, fun _ _ => rfl, ?_⟩; go_big_quiet_on)))
      go_big_quiet_want
      go_big_quiet_op
      refine ⟨.int .i64 23, fun w' hw' => ?_, ?_⟩
      · have q := (HG.out.on hw'.out.1.fin).c10
        simp [go_sem, q]
      go_big_quiet_on
      repeat (first | go_big_quiet_skip | (go_big_quiet_want; go_big_quiet_op; first | go_big_quiet_on | (refine ⟨_, fun _ _ => rfl, ?_⟩; go_big_quiet_on)))
      go_big_quiet_want
      go_big_quiet_op
      refine ⟨.slice (some ⟨G0, 0, none⟩) n c, fun w' hw' => ?_, ?_⟩
      · have q := hw'.out.1.box.cell 1
        simp at q
        simp [go_sem, q]
      go_big_quiet_on
      repeat (first | go_big_quiet_skip | (go_big_quiet_want; go_big_quiet_op; first | go_big_quiet_on | (refine ⟨_, fun _ _ => rfl, ?_⟩; go_big_quiet_on)))
      go_big_quiet_want
      go_big_quiet_op
      refine ⟨.slice ax u cx, fun w' hw' => ?_, ?_⟩
      · have q := HR0.out _ hw'.out.1.fin
        simp [go_sem, q]
      go_big_quiet_on
      repeat (first | go_big_quiet_skip | (go_big_quiet_want; go_big_quiet_op; first | go_big_quiet_on | (refine ⟨_, fun _ _ => rfl, ?_⟩; go_big_quiet_on)))
      exact wpQuiet_nil rfl
    · refine wpAnyH_call (i := 10) (d := some 13) 85 #[.int .i64 23, .int .i64 u] rfl (by kernel_rfl) rfl rfl (by kernel_rfl) (fun _ => by kernel_rfl) fun w1 hc => ?_
      have c := inrows_any 23 u w1 (by omega) hu2
      refine c.mono ?_
      rintro e w2 ⟨v, us, rfl, ho, hb⟩
      refine ⟨v, rfl, some (v, us), Lib.hid ⟨hc.out.1.on hb, fun v' us' hv => by cases hv; exact ho.lower hc.out.1.size⟩, ?_⟩
      refine wpAnyH_assign (i := 11) (d := some 2) _ rfl (by kernel_rfl) rfl rfl (by kernel_rfl) rfl ?_
      refine ⟨by kernel_rfl, fun wz hz => ?_⟩
      simp only [Act.put, Act.eval]
      go_wp2
      go_ret
      exact ⟨_, _, rfl, by rw [HQ.out]; exact (hz.out.2 v us rfl).lower (Nat.le_succ _), hz.out.1.fin⟩
end Go.Proofs.YtljekapbcphdaabDoor
