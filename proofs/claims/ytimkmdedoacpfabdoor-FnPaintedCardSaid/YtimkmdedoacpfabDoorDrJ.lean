/- Draws: l20Two. -/
import Derived.Test.YtimkmdedoacpfabDoorDrI
import Derived.Test.YtimkmdedoacpfabDoorRegionM
import Derived.Test.YtimkmdedoacpfabDoorGphM
import Derived.Test.YtimkmdedoacpfabDoorGphT
namespace Go.Proofs.YtimkmdedoacpfabDoor
open Go.RowKit

theorem Dx.putAt {w w' : World} {R k N : Nat} {B1 B2 : List (Nat × List Value)} {cs : List Value} {L : List (Value × List Int)} (h : Dx w R (B1 ++ (N, cs) :: B2) L k w') (hd : ∀ b, b ∈ B1 ++ B2 → b.1 ≠ N) (j : Nat) (v : Value) :
    Dx w R (B1 ++ (N, cs.set j v) :: B2) L k (w'.setCell ⟨N, j, none⟩ v) := by
  have h2 := (h.sub (Bs' := (N, cs) :: (B1 ++ B2)) (L' := L) (fun b m => by
    simp only [List.mem_cons, List.mem_append] at m ⊢
    rcases m with m | m | m <;> simp [m]) (fun x m => m)).put hd j v
  exact h2.sub (fun b m => by
    simp only [List.mem_cons, List.mem_append] at m ⊢
    rcases m with m | m | m <;> simp [m]) (fun x m => m)
theorem ne4 {w w2 : World} {c8 c5 : List Value} (h : w.heap.size + 1 < w2.heap.size) : ∀ b, b ∈ [(w2.heap.size, c8), (w.heap.size + 1, c5)] ++ [] → b.1 ≠ w.heap.size := fun b m => by
  simp at m
  rcases m with rfl | rfl
  · show w2.heap.size ≠ w.heap.size; omega
  · show w.heap.size + 1 ≠ w.heap.size; omega
theorem ne5 {w w2 : World} {c8 c4 : List Value} (h : w.heap.size + 1 < w2.heap.size) : ∀ b, b ∈ [(w2.heap.size, c8)] ++ [(w.heap.size, c4)] → b.1 ≠ w.heap.size + 1 := fun b m => by
  simp at m
  rcases m with rfl | rfl
  · show w2.heap.size ≠ w.heap.size + 1; omega
  · show w.heap.size ≠ w.heap.size + 1; omega
/-- Two graphs and an order, drawn. -/
structure Two (w w' : World) (p q : Int) (gv hv ov : Value) (g h o : List Int) : Prop where
  og : Own w' w.heap.size gv g
  oh : Own w' w.heap.size hv h
  oo : Own w' w.heap.size ov o
  lg : g.length ≤ 50
  lh : h.length ≤ 50
  sg : Sml g
  sh : Sml h
  p0 : 0 ≤ p
  p5 : p ≤ 5
  q0 : 0 ≤ q
  q5 : q ≤ 5
  od : ∃ m : Nat, 1 ≤ m ∧ m ≤ 5 ∧ Od o m
def TwoDr (R k d : Nat) (w : World) (e : Ending) (w' : World) : Prop :=
  ∃ p gv g q hv h ov o k', e = .returned (.tuple #[.agg #[.int .i64 p, gv], .agg #[.int .i64 q, hv], ov]) ∧ Two w w' p q gv hv ov g h o ∧ k' ≤ k + d ∧ w.grownBy w' (some R) ∧ Rd w' R k'
theorem gk_dr {p : Int} {es : List Int} (h : Gk p es) : es.length ≤ 50 ∧ Sml es := ⟨h.few, fun j hj => by
  have h1 := h.ed j hj
  have := h1.pos
  have := h1.lt h.p5
  omega⟩
theorem od_dr {o : List Int} {m : Int} (h : Od o m) : o.length ≤ 50 ∧ Sml o := ⟨by have := h.len; have := h.m5; omega, fun j hj => by have := h.bd j hj; have := h.m5; omega⟩

set_option maxRecDepth 100000 in
set_option maxHeartbeats 3200000 in
theorem two_any (R k : Nat) (n : Int) (w : World) (h : Rd w R k) (hk : k ≤ 70000) (n2 : n ≤ 1000) :
    Calls Tryd.prog 80 #[.pointer (some ⟨R, 0, none⟩), .int .i64 n] w (TwoDr R k 100 w) := by
  have D0 : Hid (Dx w R [(w.heap.size + 1, [.int .i64 0, .slice none 0 0]), (w.heap.size, [.int .i64 0, .slice none 0 0])] [] k ((w.alloc (.cells #[.int .i64 0, .slice none 0 0] 25)).alloc (.cells #[.int .i64 0, .slice none 0 0] 25))) := Lib.hid (by
    have h1 := (Dx.start h).box (T := 25) [.int .i64 0, .slice none 0 0]
    have h2 := h1.box (T := 25) [.int .i64 0, .slice none 0 0]
    rw [show (w.alloc (.cells [Value.int .i64 0, .slice none 0 0].toArray 25)).heap.size = w.heap.size + 1 by simp] at h2
    exact h2)
  clear h
  go_enter Tryd.func80, Tryd.ntmps80
  go_wp2_with fail
  refine (pick_any _ _ 3 _ D0.out.rd (by omega)).mono ?_
  rintro e w1 ⟨a, rfl, a0, a1, mma, hw⟩
  have a2 := a1 (by omega)
  have D1 := Lib.hid (D0.out.next hw)
  clear hw a1 D0
  obtain ⟨m, hm⟩ := Int.eq_ofNat_of_zero_le (show (0 : Int) ≤ 2 + a by omega)
  have m1 : 1 ≤ m := by omega
  have m5 : m ≤ 5 := by omega
  have HT := Lib.hid (drgph_any _ _ m n w1 D1.out.rd (by omega) m1 m5 n2)
  go_wp2_with fail
  refine HT.out.mono ?_
  rintro e w2 ⟨p, gv, g, k2, rfl, ow, hl, hs, hp, hk2, hg, hr⟩
  have D2 := Lib.hid (D1.out.made hg hr ow)
  have HLG := Lib.hid (show g.length ≤ 50 ∧ Sml g from ⟨by omega, hs⟩)
  have hp0 : 0 ≤ p ∧ p ≤ 5 := by rcases hp with rfl | rfl <;> omega
  have HP := Lib.hid hp
  obtain ⟨ga, gc, e1⟩ := Own.form ow
  subst e1
  clear ow hg hr hl hs HT D1 hp
  obtain ⟨gn, hgn⟩ : ∃ gn, g.length = gn := ⟨_, rfl⟩
  have HGN := Lib.hid hgn
  rw [hgn] at D2 ⊢
  clear hgn
  obtain ⟨w3, hw3⟩ : ∃ z, z = w2.alloc (.cells #[.int .i64 p, .slice ga gn gc] 25) := ⟨_, rfl⟩
  have D3 : Hid (Dx w R [(w2.heap.size, [.int .i64 p, .slice ga gn gc]), (w.heap.size + 1, [.int .i64 0, .slice none 0 0]), (w.heap.size, [.int .i64 0, .slice none 0 0])] [(.slice ga gn gc, g)] k2 w3) := Lib.hid (by rw [hw3]; exact D2.out.box [.int .i64 p, .slice ga gn gc])
  have HN8 : Hid (w.heap.size + 1 < w2.heap.size) := Lib.hid ((D2.out.bx _ (.head _)).2.lt)
  have HW3 := Lib.hid hw3
  clear hw3 D2
  have HT := Lib.hid (drord_any _ _ m 0 w3 D3.out.rd (by omega) m1 m5 (by omega))
  go_wp2_with fail
  rw [← HW3.out]
  refine HT.out.mono ?_
  rintro e w4 ⟨ov, os, k4, rfl, ow, hl, hs, hod, hk4, hg, hr⟩
  have D4 := Lib.hid (D3.out.made hg hr ow)
  have HO := Lib.hid (hod (by omega))
  clear ow hg hr hl hs HT D3 hod
  have q0 := (D4.out.bx _ (.head _)).2.cell 0
  have q1 := (D4.out.bx _ (.head _)).2.cell 1
  simp at q0 q1
  have hil : g.length ≤ maxLen := by have := HLG.out.1; unfold maxLen; omega
  have ip : intIn p := ⟨by omega, by omega⟩
  have hnum : ∀ j, j < g.length → intIn (nth g j) := fun j hj => by have := HLG.out.2 j hj; exact ⟨by omega, by omega⟩
  have HIL := Lib.hid hil
  have IP := Lib.hid ip
  have HNUM := Lib.hid hnum
  go_wp2_with fail
  refine (sgk_any p _ g _ (Ints.of_own (D4.out.ls _ (.tail _ (.head _))) hil) ip hnum).mono ?_
  rintro e w5 ⟨rfl, hb⟩
  have D5 := Lib.hid (D4.out.on hb)
  clear hb D4 q0 q1 hil ip hnum HW3 hm a0 a2
  have HOL : Hid (os.length ≤ maxLen) := Lib.hid (by have := (od_dr HO.out).1; unfold maxLen; omega)
  cases hgk : gkB p g
  · skip
    go_wp2_with fail
    apply wp_region_H (Z := List (Nat × List Value) × List (Value × List Int) × Nat) (S := fun k => k == 3 || k == 5 || k == 6) (C := fun z w' => Hid (Dx w R ((w2.heap.size, [.int .i64 p, .slice ga gn gc]) :: z.1) z.2.1 z.2.2 w')) [0, 1, 2, 4] ([((w.heap.size + 1), [.int .i64 0, .slice none 0 0]), (w.heap.size, [.int .i64 0, .slice none 0 0])], [(ov, os), (.slice ga gn gc, g)], k4)
    · kernel_rfl
    · kernel_rfl
    · kernel_rfl
    · exact ⟨rfl, rfl, rfl, rfl, trivial⟩
    · rfl
    · decide
    · exact Lib.hid (D5.out.on (Below.refl _ _).drew)
    · intro z
      dsimp only [pickL, nthO]
      go_big_quiet_want
      go_big_quiet_op
      refine ⟨.agg #[.int .i64 p, .slice ga gn gc], fun w' hw' => ?_, ?_⟩
      · have q9 := (hw'.out.bx _ (.head _)).2
        have q0 := q9.cell 0
        have q1 := q9.cell 1
        simp at q0 q1
        simp [go_sem, q0, q1]
      go_big_quiet_on
      go_big_quiet_want; go_big_quiet_op; first | go_big_quiet_on | (refine ⟨_, fun _ _ => rfl, ?_⟩; go_big_quiet_on)
      go_big_quiet_want; go_big_quiet_op; first | go_big_quiet_on | (refine ⟨_, fun _ _ => rfl, ?_⟩; go_big_quiet_on)
      go_big_quiet_want; go_big_quiet_op; first | go_big_quiet_on | (refine ⟨_, fun _ _ => rfl, ?_⟩; go_big_quiet_on)
      exact wpQuiet_nil rfl
    · skip
      refine wpAnyH_call (i := 3) (d := some 35) 67 #[.pointer (some ⟨R, 0, none⟩), .int .i64 m, .int .i64 0] rfl (by kernel_rfl) rfl rfl (by kernel_rfl) (fun _ => by kernel_rfl) fun wa hc => ?_
      refine (drgph_any R k4 m 0 wa hc.out.rd (by omega) m1 m5 (by omega)).mono ?_
      rintro e wb ⟨q, hv, hs, k9, rfl, oo, hl, hsm, hq, hk9, hg, hr⟩
      obtain ⟨ha, hc9, e2⟩ := Own.form oo
      subst e2
      refine ⟨_, rfl, ([((w.heap.size + 1), [.int .i64 0, .slice none 0 0]), (w.heap.size, [.int .i64 0, .slice none 0 0])], (.slice ha hs.length hc9, hs) :: [(ov, os), (.slice ga gn gc, g)], k9), Lib.hid (hc.out.made hg hr oo), ?_⟩
      have HHS := Lib.hid (show hs.length ≤ 50 ∧ Sml hs from ⟨by omega, hsm⟩)
      have hq0 : 0 ≤ q ∧ q ≤ 5 := by rcases hq with rfl | rfl <;> omega
      clear hc oo hg hr hl hsm hq
      refine wpAnyH_special (i := 5) (d := none) rfl (by kernel_rfl) rfl rfl (by kernel_rfl) fun we he => ?_
      have kb := (he.out.bx _ (.tail _ (.tail _ (.head _)))).2
      have k0 := kb.cell 0; have k1 := kb.cell 1; have f0 := kb.frozen 0; have f1 := kb.frozen 1
      simp at k0 k1
      refine ⟨undef, (we.setCell ⟨w.heap.size, 0, none⟩ (.int .i64 p)).setCell ⟨w.heap.size, 1, none⟩ (.slice ga gn gc), ([((w.heap.size + 1), [.int .i64 0, .slice none 0 0]), (w.heap.size, [.int .i64 p, .slice ga gn gc])], ((.slice ha hs.length hc9, hs) :: [(ov, os), (.slice ga gn gc, g)]), k9), .inr ⟨by simp [go_sem, Act.put, k0, k1, f0, f1], rfl⟩, Lib.hid ((he.out.putAt (B1 := [(w2.heap.size, [.int .i64 p, .slice ga gn gc]), ((w.heap.size + 1), [.int .i64 0, .slice none 0 0])]) (B2 := []) (ne4 HN8.out) 0 _).putAt (B1 := [(w2.heap.size, [.int .i64 p, .slice ga gn gc]), ((w.heap.size + 1), [.int .i64 0, .slice none 0 0])]) (B2 := []) (ne4 HN8.out) 1 _), ?_⟩
      clear he kb k0 k1 f0 f1
      refine wpAnyH_special (i := 6) (d := none) rfl (by kernel_rfl) rfl rfl (by kernel_rfl) fun we he => ?_
      have kb := (he.out.bx _ (.tail _ (.head _))).2
      have k0 := kb.cell 0; have k1 := kb.cell 1; have f0 := kb.frozen 0; have f1 := kb.frozen 1
      simp at k0 k1
      refine ⟨undef, (we.setCell ⟨(w.heap.size + 1), 0, none⟩ (.int .i64 q)).setCell ⟨(w.heap.size + 1), 1, none⟩ (.slice ha hs.length hc9), ([((w.heap.size + 1), [.int .i64 q, .slice ha hs.length hc9]), (w.heap.size, [.int .i64 p, .slice ga gn gc])], ((.slice ha hs.length hc9, hs) :: [(ov, os), (.slice ga gn gc, g)]), k9), .inr ⟨by simp [go_sem, Act.put, k0, k1, f0, f1], rfl⟩, Lib.hid ((he.out.putAt (B1 := [(w2.heap.size, [.int .i64 p, .slice ga gn gc])]) (B2 := [(w.heap.size, [.int .i64 p, .slice ga gn gc])]) (ne5 HN8.out) 0 _).putAt (B1 := [(w2.heap.size, [.int .i64 p, .slice ga gn gc])]) (B2 := [(w.heap.size, [.int .i64 p, .slice ga gn gc])]) (ne5 HN8.out) 1 _), ?_⟩
      clear he kb k0 k1 f0 f1
      refine wpAnyH_assign (i := 7) (d := some 6) _ rfl (by kernel_rfl) rfl rfl (by kernel_rfl) rfl ?_
      refine ⟨by kernel_rfl, fun w9 hz => ?_⟩
      simp only [Act.put, List.setIfInBounds_toArray, List.set_cons_zero, List.set_cons_succ]
      dsimp only at hz
      have r0 := (hz.out.bx _ (.tail _ (.tail _ (.head _)))).2.cell 0
      have r1 := (hz.out.bx _ (.tail _ (.tail _ (.head _)))).2.cell 1
      have s0 := (hz.out.bx _ (.tail _ (.head _))).2.cell 0
      have s1 := (hz.out.bx _ (.tail _ (.head _))).2.cell 1
      simp at r0 r1 s0 s1
      go_wp2
      refine bodyPost_ret (v := .tuple #[.agg #[.int .i64 p, .slice ga gn gc], .agg #[.int .i64 q, .slice ha hs.length hc9], ov]) ?_ rfl ?_
      · simp [results, Tryd.results80, go_sem, r0, r1, s0, s1]
      · exact ⟨p, _, g, q, _, hs, ov, os, k9, rfl, ⟨hz.out.ls _ (.tail _ (.tail _ (.head _))), hz.out.ls _ (.head _), hz.out.ls _ (.tail _ (.head _)), HLG.out.1, HHS.out.1, HLG.out.2, HHS.out.2, hp0.1, hp0.2, hq0.1, hq0.2, ⟨m, m1, m5, HO.out⟩⟩, by omega, hz.out.gr, hz.out.rd⟩
  · have HGK := Lib.hid (gkB_true.1 hgk)
    have HOD : Hid (Od os p) := Lib.hid (by
      rcases HP.out with e | e
      · rw [e]; exact HO.out
      · have := HGK.out.p1; omega)
    clear hgk
    obtain ⟨MV, hMV⟩ : ∃ r, mov os g = r := ⟨_, rfl⟩
    have HMS : Hid (MV.length ≤ 50 ∧ Sml MV) := Lib.hid (by rw [← hMV]; exact gk_dr (mov_gk HOD.out HGK.out))
    have HMV := Lib.hid hMV
    clear hMV
    go_wp2_with fail
    refine (pick_any _ _ 4 _ D5.out.rd (by omega)).mono ?_
    rintro e w6 ⟨b, rfl, b0, b1, mmb, hw⟩
    have b2 := b1 (by omega)
    have D6 := Lib.hid (D5.out.next hw)
    clear hw b1 D5
    by_cases hb : 0 < b
    · have hbd : decide (b > 0) = true := by simpa using hb
      go_wp2_with fail
      apply wp_region_H (Z := List (Nat × List Value) × List (Value × List Int) × Nat) (S := fun k => k == 3 || k == 5 || k == 6) (C := fun z w' => Hid (Dx w R ((w2.heap.size, [.int .i64 p, .slice ga gn gc]) :: z.1) z.2.1 z.2.2 w')) [0, 1, 2, 4] ([((w.heap.size + 1), [.int .i64 0, .slice none 0 0]), (w.heap.size, [.int .i64 0, .slice none 0 0])], [(ov, os), (.slice ga gn gc, g)], (k4 + 1))
      · kernel_rfl
      · kernel_rfl
      · kernel_rfl
      · exact ⟨rfl, rfl, rfl, rfl, trivial⟩
      · rfl
      · decide
      · exact Lib.hid (D6.out.on (Below.refl _ _).drew)
      · intro z
        dsimp only [pickL, nthO]
        go_big_quiet_want
        go_big_quiet_op
        refine ⟨.agg #[.int .i64 p, .slice ga gn gc], fun w' hw' => ?_, ?_⟩
        · have q9 := (hw'.out.bx _ (.head _)).2
          have q0 := q9.cell 0
          have q1 := q9.cell 1
          simp at q0 q1
          simp [go_sem, q0, q1]
        go_big_quiet_on
        go_big_quiet_want
        go_big_quiet_op
        refine ⟨.agg #[.int .i64 p, .slice ga gn gc], fun w' hw' => ?_, ?_⟩
        · have q9 := (hw'.out.bx _ (.head _)).2
          have q0 := q9.cell 0
          have q1 := q9.cell 1
          simp at q0 q1
          simp [go_sem, q0, q1]
        go_big_quiet_on
        go_big_quiet_want; go_big_quiet_op; first | go_big_quiet_on | (refine ⟨_, fun _ _ => rfl, ?_⟩; go_big_quiet_on)
        go_big_quiet_want; go_big_quiet_op; first | go_big_quiet_on | (refine ⟨_, fun _ _ => rfl, ?_⟩; go_big_quiet_on)
        exact wpQuiet_nil rfl
      · skip
        refine wpAnyH_call (i := 3) (d := some 30) 84 #[.agg #[.int .i64 p, .slice ga gn gc], ov] rfl (by kernel_rfl) rfl rfl (by kernel_rfl) (fun _ => by kernel_rfl) fun wa hc => ?_
        refine (smov_any p _ _ g os wa (Ints.of_own (hc.out.ls _ (.tail _ (.head _))) HIL.out) (Ints.of_own (hc.out.ls _ (.head _)) HOL.out) HGK.out HOD.out).mono ?_
        rintro e wb ⟨hv, rfl, oo, hb⟩
        rw [HMV.out] at oo
        obtain ⟨ha, hc9, e2⟩ := Own.form oo
        subst e2
        refine ⟨_, rfl, ([((w.heap.size + 1), [.int .i64 0, .slice none 0 0]), (w.heap.size, [.int .i64 0, .slice none 0 0])], (.slice ha MV.length hc9, MV) :: [(ov, os), (.slice ga gn gc, g)], (k4 + 1)), Lib.hid (hc.out.made (grown_below R hb) (hc.out.rd.below hb) oo), ?_⟩
        clear hc oo hb
        refine wpAnyH_special (i := 5) (d := none) rfl (by kernel_rfl) rfl rfl (by kernel_rfl) fun we he => ?_
        have kb := (he.out.bx _ (.tail _ (.tail _ (.head _)))).2
        have k0 := kb.cell 0; have k1 := kb.cell 1; have f0 := kb.frozen 0; have f1 := kb.frozen 1
        simp at k0 k1
        refine ⟨undef, (we.setCell ⟨w.heap.size, 0, none⟩ (.int .i64 p)).setCell ⟨w.heap.size, 1, none⟩ (.slice ga gn gc), ([((w.heap.size + 1), [.int .i64 0, .slice none 0 0]), (w.heap.size, [.int .i64 p, .slice ga gn gc])], ((.slice ha MV.length hc9, MV) :: [(ov, os), (.slice ga gn gc, g)]), (k4 + 1)), .inr ⟨by simp [go_sem, Act.put, k0, k1, f0, f1], rfl⟩, Lib.hid ((he.out.putAt (B1 := [(w2.heap.size, [.int .i64 p, .slice ga gn gc]), ((w.heap.size + 1), [.int .i64 0, .slice none 0 0])]) (B2 := []) (ne4 HN8.out) 0 _).putAt (B1 := [(w2.heap.size, [.int .i64 p, .slice ga gn gc]), ((w.heap.size + 1), [.int .i64 0, .slice none 0 0])]) (B2 := []) (ne4 HN8.out) 1 _), ?_⟩
        clear he kb k0 k1 f0 f1
        refine wpAnyH_special (i := 6) (d := none) rfl (by kernel_rfl) rfl rfl (by kernel_rfl) fun we he => ?_
        have kb := (he.out.bx _ (.tail _ (.head _))).2
        have k0 := kb.cell 0; have k1 := kb.cell 1; have f0 := kb.frozen 0; have f1 := kb.frozen 1
        simp at k0 k1
        refine ⟨undef, (we.setCell ⟨(w.heap.size + 1), 0, none⟩ (.int .i64 p)).setCell ⟨(w.heap.size + 1), 1, none⟩ (.slice ha MV.length hc9), ([((w.heap.size + 1), [.int .i64 p, .slice ha MV.length hc9]), (w.heap.size, [.int .i64 p, .slice ga gn gc])], ((.slice ha MV.length hc9, MV) :: [(ov, os), (.slice ga gn gc, g)]), (k4 + 1)), .inr ⟨by simp [go_sem, Act.put, k0, k1, f0, f1], rfl⟩, Lib.hid ((he.out.putAt (B1 := [(w2.heap.size, [.int .i64 p, .slice ga gn gc])]) (B2 := [(w.heap.size, [.int .i64 p, .slice ga gn gc])]) (ne5 HN8.out) 0 _).putAt (B1 := [(w2.heap.size, [.int .i64 p, .slice ga gn gc])]) (B2 := [(w.heap.size, [.int .i64 p, .slice ga gn gc])]) (ne5 HN8.out) 1 _), ?_⟩
        clear he kb k0 k1 f0 f1
        refine wpAnyH_assign (i := 7) (d := some 6) _ rfl (by kernel_rfl) rfl rfl (by kernel_rfl) rfl ?_
        refine ⟨by kernel_rfl, fun w9 hz => ?_⟩
        simp only [Act.put, List.setIfInBounds_toArray, List.set_cons_zero, List.set_cons_succ]
        dsimp only at hz
        have r0 := (hz.out.bx _ (.tail _ (.tail _ (.head _)))).2.cell 0
        have r1 := (hz.out.bx _ (.tail _ (.tail _ (.head _)))).2.cell 1
        have s0 := (hz.out.bx _ (.tail _ (.head _))).2.cell 0
        have s1 := (hz.out.bx _ (.tail _ (.head _))).2.cell 1
        simp at r0 r1 s0 s1
        go_wp2
        refine bodyPost_ret (v := .tuple #[.agg #[.int .i64 p, .slice ga gn gc], .agg #[.int .i64 p, .slice ha MV.length hc9], ov]) ?_ rfl ?_
        · simp [results, Tryd.results80, go_sem, r0, r1, s0, s1]
        · exact ⟨p, _, g, p, _, MV, ov, os, (k4 + 1), rfl, ⟨hz.out.ls _ (.tail _ (.tail _ (.head _))), hz.out.ls _ (.head _), hz.out.ls _ (.tail _ (.head _)), HLG.out.1, HMS.out.1, HLG.out.2, HMS.out.2, hp0.1, hp0.2, hp0.1, hp0.2, ⟨m, m1, m5, HO.out⟩⟩, by omega, hz.out.gr, hz.out.rd⟩
    · have hbd : decide (b > 0) = false := by simpa using hb
      go_wp2_with fail
      apply wp_region_H (Z := List (Nat × List Value) × List (Value × List Int) × Nat) (S := fun k => k == 3 || k == 5 || k == 6) (C := fun z w' => Hid (Dx w R ((w2.heap.size, [.int .i64 p, .slice ga gn gc]) :: z.1) z.2.1 z.2.2 w')) [0, 1, 2, 4] ([((w.heap.size + 1), [.int .i64 0, .slice none 0 0]), (w.heap.size, [.int .i64 0, .slice none 0 0])], [(ov, os), (.slice ga gn gc, g)], (k4 + 1))
      · kernel_rfl
      · kernel_rfl
      · kernel_rfl
      · exact ⟨rfl, rfl, rfl, rfl, trivial⟩
      · rfl
      · decide
      · exact Lib.hid (D6.out.on (Below.refl _ _).drew)
      · intro z
        dsimp only [pickL, nthO]
        go_big_quiet_want
        go_big_quiet_op
        refine ⟨.agg #[.int .i64 p, .slice ga gn gc], fun w' hw' => ?_, ?_⟩
        · have q9 := (hw'.out.bx _ (.head _)).2
          have q0 := q9.cell 0
          have q1 := q9.cell 1
          simp at q0 q1
          simp [go_sem, q0, q1]
        go_big_quiet_on
        go_big_quiet_want; go_big_quiet_op; first | go_big_quiet_on | (refine ⟨_, fun _ _ => rfl, ?_⟩; go_big_quiet_on)
        go_big_quiet_want; go_big_quiet_op; first | go_big_quiet_on | (refine ⟨_, fun _ _ => rfl, ?_⟩; go_big_quiet_on)
        go_big_quiet_want; go_big_quiet_op; first | go_big_quiet_on | (refine ⟨_, fun _ _ => rfl, ?_⟩; go_big_quiet_on)
        exact wpQuiet_nil rfl
      · skip
        refine wpAnyH_call (i := 3) (d := some 35) 67 #[.pointer (some ⟨R, 0, none⟩), .int .i64 m, .int .i64 0] rfl (by kernel_rfl) rfl rfl (by kernel_rfl) (fun _ => by kernel_rfl) fun wa hc => ?_
        refine (drgph_any R (k4 + 1) m 0 wa hc.out.rd (by omega) m1 m5 (by omega)).mono ?_
        rintro e wb ⟨q, hv, hs, k9, rfl, oo, hl, hsm, hq, hk9, hg, hr⟩
        obtain ⟨ha, hc9, e2⟩ := Own.form oo
        subst e2
        refine ⟨_, rfl, ([((w.heap.size + 1), [.int .i64 0, .slice none 0 0]), (w.heap.size, [.int .i64 0, .slice none 0 0])], (.slice ha hs.length hc9, hs) :: [(ov, os), (.slice ga gn gc, g)], k9), Lib.hid (hc.out.made hg hr oo), ?_⟩
        have HHS := Lib.hid (show hs.length ≤ 50 ∧ Sml hs from ⟨by omega, hsm⟩)
        have hq0 : 0 ≤ q ∧ q ≤ 5 := by rcases hq with rfl | rfl <;> omega
        clear hc oo hg hr hl hsm hq
        refine wpAnyH_special (i := 5) (d := none) rfl (by kernel_rfl) rfl rfl (by kernel_rfl) fun we he => ?_
        have kb := (he.out.bx _ (.tail _ (.tail _ (.head _)))).2
        have k0 := kb.cell 0; have k1 := kb.cell 1; have f0 := kb.frozen 0; have f1 := kb.frozen 1
        simp at k0 k1
        refine ⟨undef, (we.setCell ⟨w.heap.size, 0, none⟩ (.int .i64 p)).setCell ⟨w.heap.size, 1, none⟩ (.slice ga gn gc), ([((w.heap.size + 1), [.int .i64 0, .slice none 0 0]), (w.heap.size, [.int .i64 p, .slice ga gn gc])], ((.slice ha hs.length hc9, hs) :: [(ov, os), (.slice ga gn gc, g)]), k9), .inr ⟨by simp [go_sem, Act.put, k0, k1, f0, f1], rfl⟩, Lib.hid ((he.out.putAt (B1 := [(w2.heap.size, [.int .i64 p, .slice ga gn gc]), ((w.heap.size + 1), [.int .i64 0, .slice none 0 0])]) (B2 := []) (ne4 HN8.out) 0 _).putAt (B1 := [(w2.heap.size, [.int .i64 p, .slice ga gn gc]), ((w.heap.size + 1), [.int .i64 0, .slice none 0 0])]) (B2 := []) (ne4 HN8.out) 1 _), ?_⟩
        clear he kb k0 k1 f0 f1
        refine wpAnyH_special (i := 6) (d := none) rfl (by kernel_rfl) rfl rfl (by kernel_rfl) fun we he => ?_
        have kb := (he.out.bx _ (.tail _ (.head _))).2
        have k0 := kb.cell 0; have k1 := kb.cell 1; have f0 := kb.frozen 0; have f1 := kb.frozen 1
        simp at k0 k1
        refine ⟨undef, (we.setCell ⟨(w.heap.size + 1), 0, none⟩ (.int .i64 q)).setCell ⟨(w.heap.size + 1), 1, none⟩ (.slice ha hs.length hc9), ([((w.heap.size + 1), [.int .i64 q, .slice ha hs.length hc9]), (w.heap.size, [.int .i64 p, .slice ga gn gc])], ((.slice ha hs.length hc9, hs) :: [(ov, os), (.slice ga gn gc, g)]), k9), .inr ⟨by simp [go_sem, Act.put, k0, k1, f0, f1], rfl⟩, Lib.hid ((he.out.putAt (B1 := [(w2.heap.size, [.int .i64 p, .slice ga gn gc])]) (B2 := [(w.heap.size, [.int .i64 p, .slice ga gn gc])]) (ne5 HN8.out) 0 _).putAt (B1 := [(w2.heap.size, [.int .i64 p, .slice ga gn gc])]) (B2 := [(w.heap.size, [.int .i64 p, .slice ga gn gc])]) (ne5 HN8.out) 1 _), ?_⟩
        clear he kb k0 k1 f0 f1
        refine wpAnyH_assign (i := 7) (d := some 6) _ rfl (by kernel_rfl) rfl rfl (by kernel_rfl) rfl ?_
        refine ⟨by kernel_rfl, fun w9 hz => ?_⟩
        simp only [Act.put, List.setIfInBounds_toArray, List.set_cons_zero, List.set_cons_succ]
        dsimp only at hz
        have r0 := (hz.out.bx _ (.tail _ (.tail _ (.head _)))).2.cell 0
        have r1 := (hz.out.bx _ (.tail _ (.tail _ (.head _)))).2.cell 1
        have s0 := (hz.out.bx _ (.tail _ (.head _))).2.cell 0
        have s1 := (hz.out.bx _ (.tail _ (.head _))).2.cell 1
        simp at r0 r1 s0 s1
        go_wp2
        refine bodyPost_ret (v := .tuple #[.agg #[.int .i64 p, .slice ga gn gc], .agg #[.int .i64 q, .slice ha hs.length hc9], ov]) ?_ rfl ?_
        · simp [results, Tryd.results80, go_sem, r0, r1, s0, s1]
        · exact ⟨p, _, g, q, _, hs, ov, os, k9, rfl, ⟨hz.out.ls _ (.tail _ (.tail _ (.head _))), hz.out.ls _ (.head _), hz.out.ls _ (.tail _ (.head _)), HLG.out.1, HHS.out.1, HLG.out.2, HHS.out.2, hp0.1, hp0.2, hq0.1, hq0.2, ⟨m, m1, m5, HO.out⟩⟩, by omega, hz.out.gr, hz.out.rd⟩
end Go.Proofs.YtimkmdedoacpfabDoor
