/- Draws: DrawPainted, DrawViewsOf. -/
import Derived.Test.YtimkmdedoacpfabDoorDrQ
import Derived.Test.YtimkmdedoacpfabDoorDrK
namespace Go.Proofs.YtimkmdedoacpfabDoor
open Go.RowKit

def PtPost (w : World) (e : Ending) (w' : World) : Prop := ∃ p v es u cs ov os, e = .returned (.tuple #[.agg #[.int .i64 p, v], u, ov]) ∧ 0 ≤ p ∧ p ≤ 5 ∧ Li w' v es ∧ Li w' u cs ∧ Li w' ov os ∧ Below w.heap.size w w'
def VdPost (w : World) (e : Ending) (w' : World) : Prop := ∃ p v es u cs x, e = .returned (.tuple #[.agg #[.int .i64 p, v], u, .int .i64 x]) ∧ 0 ≤ p ∧ p ≤ 5 ∧ Li w' v es ∧ Li w' u cs ∧ 0 ≤ x ∧ x ≤ 201 ∧ Below w.heap.size w w'
theorem dn_open8 {w W0 w1 : World} {Bs : List (Nat × List Value)} (s : Sx w Bs [] W0) (hB : ∀ b, b ∈ Bs → w.heap.size ≤ b.1) (hr : Rd w1 W0.heap.size 0) (hb : Below W0.heap.size W0 w1) : Dn w W0.heap.size Bs [] (some 0) w1 :=
  ⟨fun K e => by cases e; exact hr, Below.on s.be hb, ⟨s.be.size, hr.lt⟩, fun b m => ⟨hB b m, by have := (s.bx b m).lt; omega, (s.bx b m).on hb⟩, fun x m => (by cases m), fun b mb x m => (by cases m)⟩

set_option maxRecDepth 100000 in
set_option maxHeartbeats 3200000 in
theorem drawPainted_any (s : Value) (w : World) (h : CodeIn w s) : Calls Tryd.prog 30 #[s] w (PtPost w) := by
  obtain ⟨W0, hW0⟩ : ∃ z, z = w.alloc (.cells #[.int .i64 0, .slice none 0 0] 25) := ⟨_, rfl⟩
  have S0 : Hid (Sx w [(w.heap.size, [.int .i64 0, .slice none 0 0])] [] W0) := Lib.hid (by rw [hW0]; exact (Sx.start w).made [.int .i64 0, .slice none 0 0] 25)
  have HC := Lib.hid (show CodeIn W0 s by rw [hW0]; exact code_more3 h _)
  have HB : Hid (∀ b, b ∈ ([(w.heap.size, [.int .i64 0, .slice none 0 0])] : List (Nat × List Value)) → w.heap.size ≤ b.1) := Lib.hid (fun b mb => by simp at mb; rcases mb with rfl; dsimp only; omega)
  have HW0 := Lib.hid hW0
  clear h hW0
  go_enter Tryd.func30, Tryd.ntmps30
  go_wp2_with fail
  rw [← HW0.out]
  refine (open_any _ _ HC.out).mono ?_
  rintro e w1 ⟨rfl, hr, hb⟩
  have D1 := Lib.hid (dn_open8 S0.out HB.out hr hb)
  clear hr hb HC S0 HB HW0
  have HT := Lib.hid (clr_any _ _ w1 (D1.out.rd _ rfl) (by omega))
  go_wp2_with fail
  refine HT.out.mono ?_
  rintro e w2 ⟨p, gv, g, cv, cs, k2, rfl, cl, hk2, hg, hr⟩
  have D2 := Lib.hid (D1.out.mades (L'' := [(gv, g), (cv, cs)]) hg hr (fun x m => by
    simp at m
    rcases m with rfl | rfl
    · exact cl.og
    · exact cl.oc))
  obtain ⟨ga, gc, e1⟩ := Own.form cl.og
  obtain ⟨ca, cc, e2⟩ := Own.form cl.oc
  have HG := Lib.hid (show g.length ≤ 50 ∧ Sml g from ⟨cl.lg, cl.sg⟩)
  have HCS := Lib.hid (show cs.length ≤ 50 ∧ Sml cs from ⟨cl.lc, cl.sc⟩)
  have p0 := cl.p0
  have p5 := cl.p5
  subst e1 e2
  have HN5 : Hid (w.heap.size < w2.heap.size) := Lib.hid ((D2.out.bx _ (.head _)).2.2.lt)
  obtain ⟨gn, hgn⟩ : ∃ gn, g.length = gn := ⟨_, rfl⟩
  obtain ⟨cn, hcn⟩ : ∃ gn, cs.length = gn := ⟨_, rfl⟩
  have HGN := Lib.hid hgn
  rw [hgn, hcn] at D2 ⊢
  simp only [List.append_nil] at D2
  clear hg hr cl hgn hcn D1 HT
  obtain ⟨w3, hw3⟩ : ∃ z, z = w2.alloc (.cells #[.int .i64 p, .slice ga gn gc] 25) := ⟨_, rfl⟩
  have D3 : Hid (Dn w W0.heap.size [(w2.heap.size, [.int .i64 p, .slice ga gn gc]), (w.heap.size, [.int .i64 0, .slice none 0 0])] [(.slice ga gn gc, g), (.slice ca cn cc, cs)] (some k2) w3) := Lib.hid (by rw [hw3]; exact D2.out.box (T := 25) [.int .i64 p, .slice ga gn gc])
  have HW3 := Lib.hid hw3
  clear hw3 D2
  go_wp2_with fail
  try rw [← HW3.out]
  apply wp_region_H (Z := List (Nat × List Value) × List (Value × List Int) × Option Nat) (S := fun k => k == 3 || k == 4) (C := fun z w' => Hid (Dn w W0.heap.size ((w2.heap.size, [.int .i64 p, .slice ga gn gc]) :: z.1) (z.2.1 ++ [(.slice ga gn gc, g), (.slice ca cn cc, cs)]) z.2.2 w')) [0, 1, 2] ([(w.heap.size, [.int .i64 0, .slice none 0 0])], [], some k2)
  · kernel_rfl
  · kernel_rfl
  · kernel_rfl
  · exact ⟨rfl, rfl, rfl, trivial⟩
  · rfl
  · decide
  · exact Lib.hid (D3.out.on (Below.refl _ _).drew)
  · intro z
    dsimp only [pickL, nthO]
    go_big_quiet_want
    go_big_quiet_op
    refine ⟨.agg #[.int .i64 p, .slice ga gn gc], fun w' hw' => ?_, ?_⟩
    · have q9 := (hw'.out.bx _ (.head _)).2.2
      have q0 := q9.cell 0
      have q1 := q9.cell 1
      simp at q0 q1
      simp [go_sem, q0, q1]
    go_big_quiet_on
    go_big_quiet_want; go_big_quiet_op; first | go_big_quiet_on | (refine ⟨_, fun _ _ => rfl, ?_⟩; go_big_quiet_on)
    go_big_quiet_want; go_big_quiet_op; first | go_big_quiet_on | (refine ⟨_, fun _ _ => rfl, ?_⟩; go_big_quiet_on)
    exact wpQuiet_nil rfl
  · skip
    refine wpAnyH_call (i := 3) (d := some 18) 72 #[.pointer (some ⟨W0.heap.size, 0, none⟩), .int .i64 3, .int .i64 12] rfl (by kernel_rfl) rfl rfl (by kernel_rfl) (fun _ => by kernel_rfl) fun wa hc => ?_
    have hT := drord_any _ k2 3 12 wa (hc.out.rd _ rfl) (by omega) (by omega) (by omega) (by omega)
    simp only [Int.cast_ofNat_Int] at hT
    refine hT.mono ?_
    rintro e wb ⟨fv, fs, k3, rfl, oo, hl, hsm, _, hk3, hg, hr⟩
    refine ⟨_, rfl, ([(w.heap.size, [.int .i64 0, .slice none 0 0])], [(fv, fs)], some k3), Lib.hid (hc.out.made hg hr oo), ?_⟩
    have HF := Lib.hid (show fs.length ≤ 50 ∧ Sml fs from ⟨by omega, small_sml hsm⟩)
    clear hc oo hg hr hl hsm hT
    refine wpAnyH_special (i := 4) (d := none) rfl (by kernel_rfl) rfl rfl (by kernel_rfl) fun we he => ?_
    have kb := (he.out.bx _ (.tail _ (.head _))).2.2
    have k0 := kb.cell 0; have k1 := kb.cell 1; have f0 := kb.frozen 0; have f1 := kb.frozen 1
    simp at k0 k1
    refine ⟨undef, (we.setCell ⟨w.heap.size, 0, none⟩ (.int .i64 p)).setCell ⟨w.heap.size, 1, none⟩ (.slice ga gn gc), ([(w.heap.size, [.int .i64 p, .slice ga gn gc])], [(fv, fs)], none), .inr ⟨by simp [go_sem, Act.put, k0, k1, f0, f1], rfl⟩, Lib.hid ((he.out.put (B1 := [(w2.heap.size, [.int .i64 p, .slice ga gn gc])]) (B2 := []) (fun b mb => by simp at mb; subst mb; exact Nat.ne_of_gt HN5.out) 0 _).put (B1 := [(w2.heap.size, [.int .i64 p, .slice ga gn gc])]) (B2 := []) (fun b mb => by simp at mb; subst mb; exact Nat.ne_of_gt HN5.out) 1 _), ?_⟩
    clear he kb k0 k1 f0 f1
    refine wpAnyH_assign (i := 5) (d := some 3) _ rfl (by kernel_rfl) rfl rfl (by kernel_rfl) rfl ?_
    refine wpAnyH_assign (i := 6) (d := some 4) _ rfl (by kernel_rfl) rfl rfl (by kernel_rfl) rfl ?_
    refine ⟨by kernel_rfl, fun w9 hz => ?_⟩
    simp only [Act.put, List.setIfInBounds_toArray, List.set_cons_zero, List.set_cons_succ]
    have r0 := (hz.out.bx _ (.tail _ (.head _))).2.2.cell 0
    have r1 := (hz.out.bx _ (.tail _ (.head _))).2.2.cell 1
    simp at r0 r1
    go_wp2
    refine bodyPost_ret (v := .tuple #[.agg #[.int .i64 p, .slice ga gn gc], .slice ca cn cc, fv]) ?_ rfl ?_
    · simp [results, Tryd.results30, go_sem, r0, r1]
    · exact ⟨p, _, g, _, cs, _, fs, rfl, p0, p5, own_li (hz.out.ls _ (.tail _ (.head _))).1 HG.out.1 HG.out.2, own_li (hz.out.ls _ (.tail _ (.tail _ (.head _)))).1 HCS.out.1 HCS.out.2, own_li (hz.out.ls _ (.head _)).1 HF.out.1 HF.out.2, hz.out.be⟩
end Go.Proofs.YtimkmdedoacpfabDoor
