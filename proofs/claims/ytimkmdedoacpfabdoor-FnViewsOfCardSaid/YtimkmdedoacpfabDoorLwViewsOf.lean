/- The law FnViewsOf, walked. -/
import Derived.Test.YtimkmdedoacpfabDoorDrQ
import Derived.Test.YtimkmdedoacpfabDoorDrK
import Derived.Test.YtimkmdedoacpfabDoorVwS
import Derived.Test.YtimkmdedoacpfabDoorColK
import Derived.Test.YtimkmdedoacpfabDoorBLaw
import Derived.Deep.Cut
namespace Go.Proofs.YtimkmdedoacpfabDoor
open Go.RowKit

def VdPost (w : World) (e : Ending) (w' : World) : Prop := ∃ p v es u cs x, e = .returned (.tuple #[.agg #[.int .i64 p, v], u, .int .i64 x]) ∧ 0 ≤ p ∧ p ≤ 5 ∧ Li w' v es ∧ Li w' u cs ∧ 0 ≤ x ∧ x ≤ 201 ∧ Below w.heap.size w w'
theorem dn_openV {w W0 w1 : World} {Bs : List (Nat × List Value)} (s : Sx w Bs [] W0) (hB : ∀ b, b ∈ Bs → w.heap.size ≤ b.1) (hr : Rd w1 W0.heap.size 0) (hb : Below W0.heap.size W0 w1) : Dn w W0.heap.size Bs [] (some 0) w1 :=
  ⟨fun K e => by cases e; exact hr, Below.on s.be hb, ⟨s.be.size, hr.lt⟩, fun b m => ⟨hB b m, by have := (s.bx b m).lt; omega, (s.bx b m).on hb⟩, fun x m => (by cases m), fun b mb x m => (by cases m)⟩


set_option maxRecDepth 100000 in
set_option maxHeartbeats 3200000 in
theorem drawViewsOf_any (s : Value) (w : World) (h : CodeIn w s) : Calls Tryd.prog 33 #[s] w (VdPost w) := by
  obtain ⟨W0, hW0⟩ : ∃ z, z = w.alloc (.cells #[.int .i64 0, .slice none 0 0] 25) := ⟨_, rfl⟩
  have S0 : Hid (Sx w [(w.heap.size, [.int .i64 0, .slice none 0 0])] [] W0) := Lib.hid (by rw [hW0]; exact (Sx.start w).made [.int .i64 0, .slice none 0 0] 25)
  have HC := Lib.hid (show CodeIn W0 s by rw [hW0]; exact code_more3 h _)
  have HB : Hid (∀ b, b ∈ ([(w.heap.size, [.int .i64 0, .slice none 0 0])] : List (Nat × List Value)) → w.heap.size ≤ b.1) := Lib.hid (fun b mb => by simp at mb; rcases mb with rfl; dsimp only; omega)
  have HW0 := Lib.hid hW0
  clear h hW0
  go_enter Tryd.func33, Tryd.ntmps33
  go_wp2_with fail
  rw [← HW0.out]
  refine (open_any _ _ HC.out).mono ?_
  rintro e w1 ⟨rfl, hr, hb⟩
  have D1 := Lib.hid (dn_openV S0.out HB.out hr hb)
  clear hr hb HC S0 HB HW0
  have HT := Lib.hid (clr_any _ _ w1 (D1.out.rd _ rfl) (by omega))
  go_wp2_with fail
  refine HT.out.mono ?_
  rintro e w2 ⟨p, gv, g, cv, cs, k2, rfl, cl, hk2, hg, hr⟩
  have D2 := Lib.hid (D1.out.mades (L'' := [(gv, g), (cv, cs)]) hg hr (fun x m => by
    simp at m
    rcases m with rfl | rfl
    · exact cl.og
    · exact cl.oc))
  obtain ⟨ga, gc, e1⟩ := Own.form cl.og
  obtain ⟨ca, cc, e2⟩ := Own.form cl.oc
  have HG := Lib.hid (show g.length ≤ 50 ∧ Sml g from ⟨cl.lg, cl.sg⟩)
  have HCS := Lib.hid (show cs.length ≤ 50 ∧ Sml cs from ⟨cl.lc, cl.sc⟩)
  have p0 := cl.p0
  have p5 := cl.p5
  subst e1 e2
  have HN5 : Hid (w.heap.size < w2.heap.size) := Lib.hid ((D2.out.bx _ (.head _)).2.2.lt)
  obtain ⟨gn, hgn⟩ : ∃ gn, g.length = gn := ⟨_, rfl⟩
  obtain ⟨cn, hcn⟩ : ∃ gn, cs.length = gn := ⟨_, rfl⟩
  have HGN := Lib.hid hgn
  rw [hgn, hcn] at D2 ⊢
  simp only [List.append_nil] at D2
  clear hg hr cl hgn hcn D1 HT
  obtain ⟨w3, hw3⟩ : ∃ z, z = w2.alloc (.cells #[.int .i64 p, .slice ga gn gc] 25) := ⟨_, rfl⟩
  have D3 : Hid (Dn w W0.heap.size [(w2.heap.size, [.int .i64 p, .slice ga gn gc]), (w.heap.size, [.int .i64 0, .slice none 0 0])] [(.slice ga gn gc, g), (.slice ca cn cc, cs)] (some k2) w3) := Lib.hid (by rw [hw3]; exact D2.out.box (T := 25) [.int .i64 p, .slice ga gn gc])
  have HW3 := Lib.hid hw3
  clear hw3 D2
  have q0 := (D3.out.bx _ (.head _)).2.2.cell 0
  have q1 := (D3.out.bx _ (.head _)).2.2.cell 1
  simp at q0 q1
  rw [HW3.out] at q0 q1
  by_cases hg0 : 0 < gn
  · have hg1 : (0 : Int) < (gn : Int) := by omega
    go_wp2_with fail
    try rw [← HW3.out]
    apply wp_region_H (Z := List (Nat × List Value) × List (Value × List Int) × Option Nat) (S := fun k => k == 8 || k == 12 || k == 15) (C := fun z w' => Hid (Dn w W0.heap.size ((w2.heap.size, [.int .i64 p, .slice ga gn gc]) :: z.1) (z.2.1 ++ [(.slice ga gn gc, g), (.slice ca cn cc, cs)]) z.2.2 w')) [0, 1, 2, 3, 4, 5, 6, 7, 11] ([(w.heap.size, [.int .i64 0, .slice none 0 0])], [], some k2)
    · kernel_rfl
    · kernel_rfl
    · kernel_rfl
    · exact ⟨rfl, rfl, rfl, rfl, rfl, rfl, rfl, rfl, rfl, trivial⟩
    · rfl
    · decide
    · exact Lib.hid (D3.out.on (Below.refl _ _).drew)
    · intro z
      dsimp only [pickL, nthO]
      go_big_quiet_want
      go_big_quiet_op
      refine ⟨.agg #[.int .i64 p, .slice ga gn gc], fun w' hw' => ?_, ?_⟩
      · have q9 := (hw'.out.bx _ (.head _)).2.2
        have q0 := q9.cell 0
        have q1 := q9.cell 1
        simp at q0 q1
        simp [go_sem, q0, q1]
      go_big_quiet_on
      go_big_quiet_want; go_big_quiet_op; first | go_big_quiet_on | (refine ⟨_, fun _ _ => rfl, ?_⟩; go_big_quiet_on)
      go_big_quiet_want; go_big_quiet_op; first | go_big_quiet_on | (refine ⟨_, fun _ _ => rfl, ?_⟩; go_big_quiet_on)
      go_big_quiet_want
      go_big_quiet_op
      refine ⟨.slice ga gn gc, fun w' hw' => ?_, ?_⟩
      · have q9 := (hw'.out.bx _ (.head _)).2.2
        have q1 := q9.cell 1
        simp at q1
        simp [go_sem, q1]
      go_big_quiet_on
      go_big_quiet_want; go_big_quiet_op; first | go_big_quiet_on | (refine ⟨_, fun _ _ => rfl, ?_⟩; go_big_quiet_on)
      go_big_quiet_want; go_big_quiet_op; first | go_big_quiet_on | (refine ⟨_, fun _ _ => rfl, ?_⟩; go_big_quiet_on)
      go_big_quiet_want
      go_big_quiet_op
      refine ⟨.slice ga gn gc, fun w' hw' => ?_, ?_⟩
      · have q9 := (hw'.out.bx _ (.head _)).2.2
        have q1 := q9.cell 1
        simp at q1
        simp [go_sem, q1]
      go_big_quiet_on
      go_big_quiet_want; go_big_quiet_op; first | go_big_quiet_on | (refine ⟨_, fun _ _ => rfl, ?_⟩; go_big_quiet_on)
      go_big_quiet_want; go_big_quiet_op; first | go_big_quiet_on | (refine ⟨_, fun _ _ => rfl, ?_⟩; go_big_quiet_on)
      exact wpQuiet_nil rfl
    · skip
      refine wpAnyH_call (i := 8) (d := some 27) 68 #[.pointer (some ⟨W0.heap.size, 0, none⟩), .int .i64 gn] rfl (by kernel_rfl) rfl rfl (by kernel_rfl) (fun _ => by kernel_rfl) fun wac hc => ?_
      refine (pick_any _ _ gn _ (hc.out.rd _ rfl) (by omega)).mono ?_
      rintro e wbc ⟨c, rfl, c0, c1, mmc, hw⟩
      have c2 := c1 (by omega)
      refine ⟨_, rfl, ([(w.heap.size, [.int .i64 0, .slice none 0 0])], [], some (k2 + 1)), Lib.hid (hc.out.next hw), ?_⟩
      clear hc hw c1
      obtain ⟨cN, rfl⟩ := Int.eq_ofNat_of_zero_le c0
      have hcl : cN < gn := by omega
      have hsx := HG.out.2 cN (by rw [HGN.out]; exact hcl)
      have hci : (cN : Int) < (gn : Int) := by omega
      obtain ⟨gb, hga⟩ : ∃ gb, ga = some ⟨gb, 0, none⟩ := by
        have o9 : Own w3 w.heap.size (.slice ga gn gc) g := (D3.out.ls _ (.head _)).1
        obtain ⟨b9, c9, e9⟩ := own_some o9 (by rw [HGN.out]; omega)
        injection e9 with e8
        exact ⟨b9, e8⟩
      have HGA := Lib.hid hga
      refine wpAnyH_load (i := 9) (d := some 28) (.pointer (some ⟨gb, cN, none⟩)) rfl (by kernel_rfl) rfl rfl (by kernel_rfl) (by kernel_rfl) (by kernel_rfl) (fun z w' _ => by simp [go_sem, Act.put, hga]; omega) ?_
      refine wpAnyH_load (i := 10) (d := some 29) (.int .i64 (nth g cN)) rfl (by kernel_rfl) rfl rfl (by kernel_rfl) (by kernel_rfl) (by kernel_rfl) (fun z w' hw' => by
        have o9 : Own w' w.heap.size (.slice ga gn gc) g := (hw'.out.ls (.slice ga gn gc, g) (List.mem_append_right _ (.head _))).1
        obtain ⟨a7, c7, e7, h7⟩ := (Ints.of_own o9 (by have := HG.out.1; unfold maxLen; omega)).opened
        rw [HGN.out] at e7
        cases e7
        obtain ⟨gb', e6, _, e5⟩ := h7.get cN (by rw [HGN.out]; exact hcl)
        rw [HGA.out] at e6
        cases e6
        simp [go_sem, e5]) ?_
      refine wpAnyH_call (i := 12) (d := some 31) 68 #[.pointer (some ⟨W0.heap.size, 0, none⟩), .int .i64 20] rfl (by kernel_rfl) rfl rfl (by kernel_rfl) (fun _ => by kernel_rfl) fun wab hc => ?_
      refine (pick_any _ _ 20 _ (hc.out.rd _ rfl) (by omega)).mono ?_
      rintro e wbb ⟨b, rfl, b0, b1, mmb, hw⟩
      have b2 := b1 (by omega)
      refine ⟨_, rfl, ([(w.heap.size, [.int .i64 0, .slice none 0 0])], [], some (k2 + 1 + 1)), Lib.hid (hc.out.next hw), ?_⟩
      clear hc hw b1
      by_cases hd : b = 19
      · subst hd
        refine wpAnyH_take (i := 13) (d := some 32) (.int .i64 1) rfl (by kernel_rfl) rfl rfl (by kernel_rfl) (by kernel_rfl) (by kernel_rfl) (fun _ => by kernel_rfl) ?_
        refine wpAnyH_load (i := 14) (d := some 33) (.int .i64 (nth g cN + 1)) rfl (by kernel_rfl) rfl rfl (by kernel_rfl) (by kernel_rfl) (by kernel_rfl) (fun z w0 _ => by simp [go_sem, Act.put]; try (exact IntWalk.i64_in _ (by omega))) ?_
        refine wpAnyH_special (i := 15) (d := none) rfl (by kernel_rfl) rfl rfl (by kernel_rfl) fun we he => ?_
        have kb := (he.out.bx _ (.tail _ (.head _))).2.2
        have k0 := kb.cell 0; have k1 := kb.cell 1; have f0 := kb.frozen 0; have f1 := kb.frozen 1
        simp at k0 k1
        refine ⟨undef, (we.setCell ⟨w.heap.size, 0, none⟩ (.int .i64 p)).setCell ⟨w.heap.size, 1, none⟩ (.slice ga gn gc), ([(w.heap.size, [.int .i64 p, .slice ga gn gc])], [], none), .inr ⟨by simp [go_sem, Act.put, k0, k1, f0, f1], rfl⟩, Lib.hid ((he.out.put (B1 := [(w2.heap.size, [.int .i64 p, .slice ga gn gc])]) (B2 := []) (fun b mb => by simp at mb; subst mb; exact Nat.ne_of_gt HN5.out) 0 _).put (B1 := [(w2.heap.size, [.int .i64 p, .slice ga gn gc])]) (B2 := []) (fun b mb => by simp at mb; subst mb; exact Nat.ne_of_gt HN5.out) 1 _), ?_⟩
        clear he kb k0 k1 f0 f1
        refine wpAnyH_assign (i := 16) (d := some 3) _ rfl (by kernel_rfl) rfl rfl (by kernel_rfl) rfl ?_
        refine wpAnyH_assign (i := 17) (d := some 4) _ rfl (by kernel_rfl) rfl rfl (by kernel_rfl) rfl ?_
        refine ⟨by kernel_rfl, fun w9 hz => ?_⟩
        simp only [Act.put, List.setIfInBounds_toArray, List.set_cons_zero, List.set_cons_succ]
        have r0 := (hz.out.bx _ (.tail _ (.head _))).2.2.cell 0
        have r1 := (hz.out.bx _ (.tail _ (.head _))).2.2.cell 1
        simp at r0 r1
        go_wp2
        refine bodyPost_ret (v := .tuple #[.agg #[.int .i64 p, .slice ga gn gc], .slice ca cn cc, .int .i64 (nth g cN + 1)]) ?_ rfl ?_
        · simp [results, Tryd.results33, go_sem, r0, r1]
        · exact ⟨p, _, g, _, cs, _, rfl, p0, p5, own_li (hz.out.ls _ (.head _)).1 HG.out.1 HG.out.2, own_li (hz.out.ls _ (.tail _ (.head _))).1 HCS.out.1 HCS.out.2, by omega, by omega, hz.out.be⟩
      · have hq : b.tdiv 19 = 0 := Int.tdiv_eq_zero_of_lt b0 (by omega)
        refine wpAnyH_load (i := 13) (d := some 32) (.int .i64 0) rfl (by kernel_rfl) rfl rfl (by kernel_rfl) (by kernel_rfl) (by kernel_rfl) (fun z w0 _ => by simp [go_sem, hq]; rfl) ?_
        refine wpAnyH_load (i := 14) (d := some 33) (.int .i64 (nth g cN + 0)) rfl (by kernel_rfl) rfl rfl (by kernel_rfl) (by kernel_rfl) (by kernel_rfl) (fun z w0 _ => by simp [go_sem, Act.put]; try (exact IntWalk.i64_in _ (by omega))) ?_
        refine wpAnyH_special (i := 15) (d := none) rfl (by kernel_rfl) rfl rfl (by kernel_rfl) fun we he => ?_
        have kb := (he.out.bx _ (.tail _ (.head _))).2.2
        have k0 := kb.cell 0; have k1 := kb.cell 1; have f0 := kb.frozen 0; have f1 := kb.frozen 1
        simp at k0 k1
        refine ⟨undef, (we.setCell ⟨w.heap.size, 0, none⟩ (.int .i64 p)).setCell ⟨w.heap.size, 1, none⟩ (.slice ga gn gc), ([(w.heap.size, [.int .i64 p, .slice ga gn gc])], [], none), .inr ⟨by simp [go_sem, Act.put, k0, k1, f0, f1], rfl⟩, Lib.hid ((he.out.put (B1 := [(w2.heap.size, [.int .i64 p, .slice ga gn gc])]) (B2 := []) (fun b mb => by simp at mb; subst mb; exact Nat.ne_of_gt HN5.out) 0 _).put (B1 := [(w2.heap.size, [.int .i64 p, .slice ga gn gc])]) (B2 := []) (fun b mb => by simp at mb; subst mb; exact Nat.ne_of_gt HN5.out) 1 _), ?_⟩
        clear he kb k0 k1 f0 f1
        refine wpAnyH_assign (i := 16) (d := some 3) _ rfl (by kernel_rfl) rfl rfl (by kernel_rfl) rfl ?_
        refine wpAnyH_assign (i := 17) (d := some 4) _ rfl (by kernel_rfl) rfl rfl (by kernel_rfl) rfl ?_
        refine ⟨by kernel_rfl, fun w9 hz => ?_⟩
        simp only [Act.put, List.setIfInBounds_toArray, List.set_cons_zero, List.set_cons_succ]
        have r0 := (hz.out.bx _ (.tail _ (.head _))).2.2.cell 0
        have r1 := (hz.out.bx _ (.tail _ (.head _))).2.2.cell 1
        simp at r0 r1
        go_wp2
        refine bodyPost_ret (v := .tuple #[.agg #[.int .i64 p, .slice ga gn gc], .slice ca cn cc, .int .i64 (nth g cN + 0)]) ?_ rfl ?_
        · simp [results, Tryd.results33, go_sem, r0, r1]
        · exact ⟨p, _, g, _, cs, _, rfl, p0, p5, own_li (hz.out.ls _ (.head _)).1 HG.out.1 HG.out.2, own_li (hz.out.ls _ (.tail _ (.head _))).1 HCS.out.1 HCS.out.2, by omega, by omega, hz.out.be⟩
  · have hg1 : ¬ (0 : Int) < (gn : Int) := by omega
    clear q0 q1
    go_upto_region 5 with (fail)
    try rw [← HW3.out]
    have q0 := (D3.out.bx _ (.head _)).2.2.cell 0; have q1 := (D3.out.bx _ (.head _)).2.2.cell 1
    have f0 := (D3.out.bx _ (.tail _ (.head _))).2.2.frozen 0; have f1 := (D3.out.bx _ (.tail _ (.head _))).2.2.frozen 1
    have z0 := (D3.out.bx _ (.tail _ (.head _))).2.2.cell 0; have z1 := (D3.out.bx _ (.tail _ (.head _))).2.2.cell 1
    simp at q0 q1 z0 z1
    have D5 := Lib.hid ((D3.out.put (B1 := [(w2.heap.size, [.int .i64 p, .slice ga gn gc])]) (B2 := []) (fun b mb => by simp at mb; subst mb; exact Nat.ne_of_gt HN5.out) 0 (.int .i64 p)).put (B1 := [(w2.heap.size, [.int .i64 p, .slice ga gn gc])]) (B2 := []) (fun b mb => by simp at mb; subst mb; exact Nat.ne_of_gt HN5.out) 1 (.slice ga gn gc))
    go_wp2
    refine bodyPost_ret (v := .tuple #[.agg #[.int .i64 p, .slice ga gn gc], .slice ca cn cc, .int .i64 1]) ?_ rfl ⟨p, _, g, _, cs, _, rfl, p0, p5, own_li (D5.out.ls _ (.head _)).1 HG.out.1 HG.out.2, own_li (D5.out.ls _ (.tail _ (.head _))).1 HCS.out.1 HCS.out.2, by omega, by omega, D5.out.be⟩
    simp [results, Tryd.results33, go_sem, z0, z1]
theorem vo_form {w : World} {v : Value} {xs : List Int} (h : Ints w v xs) : ∃ a c, v = .slice a xs.length c := by
  obtain ⟨a, c, e, _⟩ := h.opened
  exact ⟨a, c, e⟩
/-- What the law says of the views: P39, P80. -/
structure VoF (FS VS : List Int) (x : Int) : Prop where
  off : hasB FS x = false → VS = madV 1
  len : VS.length = 9
  on : hasB FS x = true → ∀ k, k < 9 → nth (madV 1) k = 1 → nth VS k = 0
theorem vo_facts {p x : Int} {es cs : List Int} (h : 0 < (vwL p es cs x).length) : VoF (foL p es cs) (vwL p es cs x) x := by
  cases hb : vwB p es cs x
  · rw [vwL_no hb] at h; simp at h
  rw [vwL_yes hb]
  have hb2 := hb
  unfold vwB at hb2
  obtain ⟨hf, hi⟩ := Bool.and_eq_true_iff.1 hb2
  have f := fitB_true.1 hf
  have hm := inB_mem hi
  have hed := f.gk.mem hm
  have a1 := f.app (x := x.tdiv 10) hed.a0 (by have := hed.ab; have := hed.bp; omega)
  have b1 := f.app (x := x.tmod 10) (by have := hed.a0; have := hed.ab; omega) hed.bp
  rw [foL_yes hf]
  have hh : hasB (fls cs es) x = clash cs x := by
    cases hc : clash cs x
    · cases h2 : hasB (fls cs es) x
      · rfl
      · unfold hasB at h2; rw [List.contains_iff_mem, fls_has] at h2; rw [hc] at h2; exact absurd h2.2 (by simp)
    · unfold hasB; rw [List.contains_iff_mem, fls_has]; exact ⟨hm, hc⟩
  refine ⟨fun e => ?_, by unfold vws; rw [vwTo_len], fun e k hk hn => ?_⟩
  · rw [hh] at e
    exact vws_diff a1.1 a1.2 b1.1 b1.2 (by simpa [clash] using e)
  · rw [hh] at e
    have e2 : app cs (x.tdiv 10) = app cs (x.tmod 10) := by simpa [clash] using e
    rw [← e2, vws_same a1.1 a1.2]
    match k, hk with
    | 0, _ => simp [madV, nth] at hn
    | 1, _ => rfl
    | 2, _ => rfl
    | 3, _ => rfl
    | 4, _ => simp [madV, nth] at hn
    | 5, _ => rfl
    | 6, _ => rfl
    | 7, _ => rfl
    | 8, _ => simp [madV, nth] at hn

set_option maxRecDepth 100000 in
set_option maxHeartbeats 600000 in
theorem lViewsOf_walk (s : Value) (w : World) (h : CodeIn w s) (G : Gr w) : Calls Tryd.prog 7 #[s] w fun e w' => e = .returned (.bool true) ∧ Below w.heap.size w w' := by
  obtain ⟨a0, len0, cap0, rfl⟩ := h.slice
  have H := Lib.hid h; clear h
  have G0 := Lib.hid G; clear G
  by_cases hl : 1048576 < len0
  · go_enter Tryd.func7, Tryd.ntmps7
    go_wp2
    go_ret
    exact ⟨rfl, Below.refl _ _⟩
  go_enter Tryd.func7, Tryd.ntmps7
  go_wp2_with fail
  refine (drawViewsOf_any _ _ H.out).mono ?_
  rintro e w1 ⟨p, v, es, u, cs, x, rfl, p0, p5, hx, hy, x0, x9, hb⟩
  have HX := Lib.hid hx
  have HY := Lib.hid hy
  clear hx hy
  have S1 := Lib.hid (Lq.start hb)
  clear hb
  have ip : intIn p := ⟨by omega, by omega⟩
  have IP := Lib.hid ip
  clear ip
  obtain ⟨va, vc, e1⟩ := vo_form HX.out.ints
  subst e1
  obtain ⟨ua, uc, e2⟩ := vo_form HY.out.ints
  subst e2
  have S2 := Lib.hid (S1.out.more HY.out)
  clear S1
  have S3 := Lib.hid (S2.out.more HX.out)
  clear S2
  clear HX HY
  obtain ⟨w2, hw2⟩ : ∃ z, z = w1.alloc (.cells #[.int .i64 p, .slice va es.length vc] 25) := ⟨_, rfl⟩
  have S4 : Hid (Lq w [(.slice va es.length vc, es), (.slice ua cs.length uc, cs)] [(w1.heap.size, [.int .i64 p, .slice va es.length vc])] [] w2) := Lib.hid (by rw [hw2]; exact S3.out.made [.int .i64 p, .slice va es.length vc] _)
  clear S3
  have Hw2 := Lib.hid hw2
  clear hw2
  obtain ⟨VS, hVS⟩ : ∃ r, vwL p es cs x = r := ⟨_, rfl⟩
  obtain ⟨FS, hFS⟩ : ∃ r, foL p es cs = r := ⟨_, rfl⟩
  have HVF : Hid (0 < VS.length → VoF FS VS x) := Lib.hid (by rw [← hVS, ← hFS]; exact vo_facts)
  have HVL : Hid (VS.length ≤ maxLen) := Lib.hid (by rw [← hVS]; exact Nat.le_trans vwL_few (by unfold maxLen; omega))
  have HFL : Hid (FS.length ≤ maxLen) := Lib.hid (by rw [← hFS]; exact Nat.le_trans foL_few (by unfold maxLen; omega))
  have HVS := Lib.hid hVS
  have HFS := Lib.hid hFS
  clear hVS hFS
  have q3_0 := (S4.out.sx.bx _ (.head _)).cell 0
  have q3_1 := (S4.out.sx.bx _ (.head _)).cell 1
  simp at q3_0 q3_1
  rw [Hw2.out] at q3_0 q3_1
  go_wp2_with fail
  rw [← Hw2.out]
  refine (ivw_any p x _ _ es cs _ (S4.out.li _ (.head _)).ints (S4.out.li _ (.tail _ (.head _))).ints (S4.out.li _ (.head _)).num).mono ?_
  rintro e w3 ⟨v9, rfl, oo, hb⟩
  rw [HVS.out] at oo
  obtain ⟨A1, A1c, ef⟩ := Own.form oo
  subst ef
  clear q3_0 q3_1
  have S5 := Lib.hid (S4.out.on hb)
  clear S4
  have S6 := Lib.hid (S5.out.add (Hl.mk1 oo))
  clear S5
  clear hb oo
  have q3_0 := (S6.out.sx.bx _ (.head _)).cell 0
  have q3_1 := (S6.out.sx.bx _ (.head _)).cell 1
  simp at q3_0 q3_1
  go_wp2_with fail
  refine (svw_any p x _ _ es cs _ (S6.out.li _ (.head _)).ints (S6.out.li _ (.tail _ (.head _))).ints IP.out (S6.out.li _ (.head _)).num).mono ?_
  rintro e w4 ⟨v9, rfl, oo, hb⟩
  rw [HVS.out] at oo
  obtain ⟨A2, A2c, ef⟩ := Own.form oo
  subst ef
  clear q3_0 q3_1
  have S7 := Lib.hid (S6.out.on hb)
  clear S6
  have S8 := Lib.hid (S7.out.add (Hl.mk1 oo))
  clear S7
  clear hb oo
  go_wp2_with fail
  refine (same_eq _ _ VS _ (Ints.of_own (S8.out.sx.ls _ (.tail _ (.head _))).1 HVL.out) (Ints.of_own (S8.out.sx.ls _ (.head _)).1 HVL.out)).mono ?_
  rintro e w5 ⟨rfl, hb⟩
  have S9 := Lib.hid (S8.out.on hb)
  clear S8
  clear hb
  by_cases h0 : VS.length = 0
  · have hl0 : (((VS.length : Nat) : Int) == 0) = true := by simp [h0]
    clear h0
    go_wp2_with fail
    refine (alive_any _ (G0.out.on S9.out.sx.be)).mono ?_
    rintro e w6 ⟨rfl, rfl⟩
    go_wp2
    go_ret
    exact ⟨rfl, S9.out.sx.be⟩
  · have hl0 : (((VS.length : Nat) : Int) == 0) = false := by simpa using h0
    have HF := Lib.hid (HVF.out (by omega))
    clear h0
    have q3_0 := (S9.out.sx.bx _ (.head _)).cell 0
    have q3_1 := (S9.out.sx.bx _ (.head _)).cell 1
    simp at q3_0 q3_1
    go_wp2_with fail
    refine (ifo_any p _ _ es cs _ (S9.out.li _ (.head _)).ints (S9.out.li _ (.tail _ (.head _))).ints (S9.out.li _ (.head _)).num).mono ?_
    rintro e w7 ⟨v9, rfl, oo, hb⟩
    rw [HFS.out] at oo
    obtain ⟨A3, A3c, ef⟩ := Own.form oo
    subst ef
    clear q3_0 q3_1
    have S10 := Lib.hid (S9.out.on hb)
    clear S9
    have S11 := Lib.hid (S10.out.add (Hl.mk1 oo))
    clear S10
    clear hb oo
    obtain ⟨MS, hMS⟩ : ∃ r, vmL 1 = r := ⟨_, rfl⟩
    have HM2 : Hid (madV 1 = MS) := Lib.hid (by rw [← hMS]; exact (vmL_yes (show (1 : Int) ≤ 1 ∧ (1 : Int) ≤ 5 by omega)).symm)
    have HMS := Lib.hid hMS
    clear hMS
    have HML : Hid (MS.length = 9) := Lib.hid (by rw [← HM2.out]; rfl)
    go_wp2_with fail
    refine (ivm_any 1 _).mono ?_
    rintro e w8 ⟨v9, rfl, oo, hb⟩
    rw [HMS.out] at oo
    obtain ⟨A4, A4c, ef⟩ := Own.form oo
    subst ef
    have S12 := Lib.hid (S11.out.on hb)
    clear S11
    have S13 := Lib.hid (S12.out.add (Hl.mk1 oo))
    clear S12
    clear hb oo
    obtain ⟨HB, hHB⟩ : ∃ r, hasB FS x = r := ⟨_, rfl⟩
    go_wp2_with fail
    refine (has_any _ FS x _ (Ints.of_own (S13.out.sx.ls _ (.tail _ (.head _))).1 HFL.out)).mono ?_
    rintro e w9 ⟨rfl, rfl⟩
    rw [hHB]
    cases HB
    · have he : VS = MS := (HF.out.off hHB).trans HM2.out
      have hll : VS.length ≤ maxLen := HVL.out
      clear hHB
      subst he
      have i1 := Ints.of_own (S13.out.sx.ls _ (.tail _ (.tail _ (.tail _ (.head _))))).1 hll
      have i2 := Ints.of_own (S13.out.sx.ls _ (.head _)).1 hll
      have I1 := Lib.hid i1
      have I2 := Lib.hid i2
      clear i1 i2
      go_wp2_with fail
      refine (same_eq _ _ VS _ I1.out I2.out).mono ?_
      rintro e w9 ⟨rfl, hb⟩
      have S14 := Lib.hid (S13.out.on hb)
      clear S13
      clear hb
      go_wp2
      go_ret
      exact ⟨rfl, S14.out.sx.be⟩
    · have he : ∀ k, k < 9 → nth MS k = 1 → nth VS k = 0 := by rw [← HM2.out]; exact HF.out.on hHB
      have HE := Lib.hid he
      have hvl := HF.out.len
      clear he hHB hl0
      obtain ⟨gA1, rfl, hcA1⟩ : ∃ g, A1 = some ⟨g, 0, none⟩ ∧ ∀ j, j < 9 → w8.cell? ⟨g, j, none⟩ = some (.int .i64 (nth VS j)) := by
        obtain ⟨a7, c7, e7, h7⟩ := (Ints.of_own (S13.out.sx.ls _ (.tail _ (.tail _ (.tail _ (.head _))))).1 HVL.out).opened
        cases e7
        obtain ⟨gb, e6, _, _⟩ := h7.get 0 (by rw [hvl]; omega)
        refine ⟨gb, e6, fun j hj => ?_⟩
        obtain ⟨gb2, e5, _, e4⟩ := h7.get j (by rw [hvl]; omega)
        rw [e6] at e5
        cases e5
        exact e4
      obtain ⟨gA4, rfl, hcA4⟩ : ∃ g, A4 = some ⟨g, 0, none⟩ ∧ ∀ j, j < 9 → w8.cell? ⟨g, j, none⟩ = some (.int .i64 (nth MS j)) := by
        obtain ⟨a7, c7, e7, h7⟩ := (Ints.of_own (S13.out.sx.ls _ (.head _)).1 (by rw [HML.out]; unfold maxLen; omega)).opened
        cases e7
        obtain ⟨gb, e6, _, _⟩ := h7.get 0 (by rw [HML.out]; omega)
        refine ⟨gb, e6, fun j hj => ?_⟩
        obtain ⟨gb2, e5, _, e4⟩ := h7.get j (by rw [HML.out]; omega)
        rw [e6] at e5
        cases e5
        exact e4
      have HC1 := Lib.hid hcA1
      have HC4 := Lib.hid hcA4
      have hml := HML.out
      rw [hvl, hml]
      have BE := Lib.hid S13.out.sx.be
      clear hcA1 hcA4 hvl hml S13
      go_upto_region 14 with (fail)
      go_loopw [10] (fun i wr => ∃ k : Nat, k ≤ 9 ∧ i = .int .i64 k ∧ wr = w8) (fun i _ => 9 - (intOf i).toNat)
      case atStart => exact ⟨0, by omega, rfl, rfl⟩
      case round =>
        obtain ⟨k, hk, rfl, rfl⟩ := hrel
        by_cases hkn : k < 9
        · have hk1 : (k : Int) < 9 := by omega
          have hk2 : ¬ (9 : Int) ≤ (k : Int) := by omega
          have c1 := HC1.out k hkn
          have c4 := HC4.out k hkn
          have he := HE.out k hkn
          obtain ⟨m1, hm1⟩ : ∃ r, nth MS k = r := ⟨_, rfl⟩
          obtain ⟨v1, hv1⟩ : ∃ r, nth VS k = r := ⟨_, rfl⟩
          rw [hm1] at c4 he
          rw [hv1] at c1 he
          clear hm1 hv1
          by_cases hm : m1 = 1
          · obtain rfl := he hm
            subst hm
            clear he
            go_wp2
            go_roundw
            case rel => exact ⟨k + 1, by omega, by go_num, trivial⟩
            case measure => simp [intOf]; omega
          · have hd : (m1 == 1) = false := by simpa using hm
            clear he
            go_wp2
            go_roundw
            case rel => exact ⟨k + 1, by omega, by go_num, trivial⟩
            case measure => simp [intOf]; omega
        · obtain rfl : k = 9 := by omega
          go_wp2
          go_ret
          exact ⟨rfl, BE.out⟩
end Go.Proofs.YtimkmdedoacpfabDoor
