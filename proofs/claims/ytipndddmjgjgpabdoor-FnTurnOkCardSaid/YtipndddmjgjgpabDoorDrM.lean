/- Draws: DrawTurnOk, DrawOrderFrom. -/
import Derived.Test.YtipndddmjgjgpabDoorDrL
namespace Go.Proofs.YtipndddmjgjgpabDoor
open Go.RowKit

theorem Dn.opened {w W0 w1 : World} {Bs : List (Nat × List Value)} (s : Sx w Bs [] W0) (hB : ∀ b, b ∈ Bs → w.heap.size ≤ b.1) (hr : Rd w1 W0.heap.size 0) (hb : Below W0.heap.size W0 w1) : Dn w W0.heap.size Bs [] (some 0) w1 :=
  ⟨fun K e => by cases e; exact hr, Below.on s.be hb, ⟨s.be.size, hr.lt⟩, fun b m => ⟨hB b m, by have := (s.bx b m).lt; omega, (s.bx b m).on hb⟩, fun x m => (by cases m), fun b mb x m => (by cases m)⟩
def ToPost (w : World) (e : Ending) (w' : World) : Prop := ∃ p gv g q hv h s1 v1 e1 a1 u1 t1, e = .returned (.tuple #[.agg #[.int .i64 p, gv], .agg #[.int .i64 q, hv], .agg #[.int .i64 s1, v1, .int .i64 a1, u1]]) ∧ (0 ≤ p ∧ p ≤ 5) ∧ (0 ≤ q ∧ q ≤ 5) ∧ Li w' gv g ∧ Li w' hv h ∧ Li w' v1 e1 ∧ Li w' u1 t1 ∧ Below w.heap.size w w'
def FrPost (w : World) (e : Ending) (w' : World) : Prop := ∃ p gv g q hv h s1 v1 e1 a1 u1 t1 s2 v2 e2 a2 u2 t2, e = .returned (.tuple #[.agg #[.int .i64 p, gv], .agg #[.int .i64 q, hv], .agg #[.int .i64 s1, v1, .int .i64 a1, u1], .agg #[.int .i64 s2, v2, .int .i64 a2, u2]]) ∧ (0 ≤ p ∧ p ≤ 5) ∧ (0 ≤ q ∧ q ≤ 5) ∧ Li w' gv g ∧ Li w' hv h ∧ Li w' v1 e1 ∧ Li w' u1 t1 ∧ Li w' v2 e2 ∧ Li w' u2 t2 ∧ Below w.heap.size w w'

set_option maxRecDepth 100000 in
set_option maxHeartbeats 6400000 in
theorem drawOrderFrom_any (s : Value) (w : World) (h : CodeIn w s) : Calls Tryd.prog 46 #[s] w (FrPost w) := by
  obtain ⟨W0, hW0⟩ : ∃ z, z = ((((w.alloc (.cells #[.int .i64 0, .slice none 0 0] 25)).alloc (.cells #[.int .i64 0, .slice none 0 0] 25)).alloc (.cells #[.int .i64 0, .slice none 0 0, .int .i64 0, .slice none 0 0] 50)).alloc (.cells #[.int .i64 0, .slice none 0 0, .int .i64 0, .slice none 0 0] 50)) := ⟨_, rfl⟩
  have S0 : Hid (Sx w [(w.heap.size + 1 + 1 + 1, [.int .i64 0, .slice none 0 0, .int .i64 0, .slice none 0 0]), (w.heap.size + 1 + 1, [.int .i64 0, .slice none 0 0, .int .i64 0, .slice none 0 0]), (w.heap.size + 1, [.int .i64 0, .slice none 0 0]), (w.heap.size, [.int .i64 0, .slice none 0 0])] [] W0) := Lib.hid (by rw [hW0]; have h9 := (((((Sx.start w).made [.int .i64 0, .slice none 0 0] 25).made [.int .i64 0, .slice none 0 0] 25).made [.int .i64 0, .slice none 0 0, .int .i64 0, .slice none 0 0] 50).made [.int .i64 0, .slice none 0 0, .int .i64 0, .slice none 0 0] 50); simpa using h9)
  have HC := Lib.hid (show CodeIn W0 s by rw [hW0]; exact code_more3 (code_more3 (code_more3 (code_more3 h _) _) _) _)
  have HB : Hid (∀ b, b ∈ ([(w.heap.size + 1 + 1 + 1, [.int .i64 0, .slice none 0 0, .int .i64 0, .slice none 0 0]), (w.heap.size + 1 + 1, [.int .i64 0, .slice none 0 0, .int .i64 0, .slice none 0 0]), (w.heap.size + 1, [.int .i64 0, .slice none 0 0]), (w.heap.size, [.int .i64 0, .slice none 0 0])] : List (Nat × List Value)) → w.heap.size ≤ b.1) := Lib.hid (fun b mb => by simp at mb; rcases mb with rfl | rfl | rfl | rfl <;> (dsimp only; omega))
  have HZ0 : Hid (W0.heap.size = w.heap.size + 4) := Lib.hid (by rw [hW0]; simp)
  have HW0 := Lib.hid hW0
  clear h hW0
  go_enter Tryd.func46, Tryd.ntmps46
  go_wp2_with fail
  rw [← HW0.out]
  refine (open_any _ _ HC.out).mono ?_
  rintro e w1 ⟨rfl, hr, hb⟩
  have D1 := Lib.hid (Dn.opened S0.out HB.out hr hb)
  clear hr hb HC S0 HB HW0
  go_wp2_with fail
  refine (turns_any _ _ _ (D1.out.rd _ rfl) (by omega)).mono ?_
  rintro e w2 ⟨p, gv, g, q, hv, hs, s1, v1, e1, k1, u1, t1, s2, v2, e2, k2, u2, t2, k9, rfl, fo, hk9, hg, hr⟩
  have D2 := Lib.hid (D1.out.mades (L'' := [(gv, g), (hv, hs), (v1, e1), (u1, t1), (v2, e2), (u2, t2)]) hg hr (fun x m => by
    simp at m
    rcases m with rfl | rfl | rfl | rfl | rfl | rfl
    · exact fo.og
    · exact fo.oh
    · exact fo.o1
    · exact fo.x1
    · exact fo.o2
    · exact fo.x2))
  have FO := Lib.hid fo
  have HL : Hid ((g.length ≤ 50 ∧ Sml g) ∧ (hs.length ≤ 50 ∧ Sml hs) ∧ (e1.length ≤ 50 ∧ Sml e1) ∧ (t1.length ≤ 50 ∧ Sml t1) ∧ (e2.length ≤ 50 ∧ Sml e2) ∧ (t2.length ≤ 50 ∧ Sml t2)) := Lib.hid ⟨fo.lg, fo.lh, fo.l1, fo.m1, fo.l2, fo.m2⟩
  have HPQ := Lib.hid (show (0 ≤ p ∧ p ≤ 5) ∧ (0 ≤ q ∧ q ≤ 5) from ⟨fo.hp, fo.hq⟩)
  obtain ⟨ga, gc, x9⟩ := Own.form fo.og
  subst x9
  obtain ⟨gn, lgn⟩ : ∃ n, g.length = n := ⟨_, rfl⟩
  obtain ⟨ha, hc9, x9⟩ := Own.form fo.oh
  subst x9
  obtain ⟨hn, lhn⟩ : ∃ n, hs.length = n := ⟨_, rfl⟩
  obtain ⟨ea1, ec1, x9⟩ := Own.form fo.o1
  subst x9
  obtain ⟨en1, len1⟩ : ∃ n, e1.length = n := ⟨_, rfl⟩
  obtain ⟨ta1, tc1, x9⟩ := Own.form fo.x1
  subst x9
  obtain ⟨tn1, ltn1⟩ : ∃ n, t1.length = n := ⟨_, rfl⟩
  obtain ⟨ea2, ec2, x9⟩ := Own.form fo.o2
  subst x9
  obtain ⟨en2, len2⟩ : ∃ n, e2.length = n := ⟨_, rfl⟩
  obtain ⟨ta2, tc2, x9⟩ := Own.form fo.x2
  subst x9
  obtain ⟨tn2, ltn2⟩ : ∃ n, t2.length = n := ⟨_, rfl⟩
  rw [lgn, lhn, len1, ltn1, len2, ltn2] at D2
  rw [lgn, lhn, len1, ltn1, len2, ltn2]
  clear FO fo hg hr D1 lgn lhn len1 ltn1 len2 ltn2
  have r0_0 := (D2.out.bx _ (.tail _ (.tail _ (.tail _ (.head _))))).2.2.cell 0; have f0_0 := (D2.out.bx _ (.tail _ (.tail _ (.tail _ (.head _))))).2.2.frozen 0
  have r0_1 := (D2.out.bx _ (.tail _ (.tail _ (.tail _ (.head _))))).2.2.cell 1; have f0_1 := (D2.out.bx _ (.tail _ (.tail _ (.tail _ (.head _))))).2.2.frozen 1
  have r1_0 := (D2.out.bx _ (.tail _ (.tail _ (.head _)))).2.2.cell 0; have f1_0 := (D2.out.bx _ (.tail _ (.tail _ (.head _)))).2.2.frozen 0
  have r1_1 := (D2.out.bx _ (.tail _ (.tail _ (.head _)))).2.2.cell 1; have f1_1 := (D2.out.bx _ (.tail _ (.tail _ (.head _)))).2.2.frozen 1
  have r2_0 := (D2.out.bx _ (.tail _ (.head _))).2.2.cell 0; have f2_0 := (D2.out.bx _ (.tail _ (.head _))).2.2.frozen 0
  have r2_1 := (D2.out.bx _ (.tail _ (.head _))).2.2.cell 1; have f2_1 := (D2.out.bx _ (.tail _ (.head _))).2.2.frozen 1
  have r2_2 := (D2.out.bx _ (.tail _ (.head _))).2.2.cell 2; have f2_2 := (D2.out.bx _ (.tail _ (.head _))).2.2.frozen 2
  have r2_3 := (D2.out.bx _ (.tail _ (.head _))).2.2.cell 3; have f2_3 := (D2.out.bx _ (.tail _ (.head _))).2.2.frozen 3
  have r3_0 := (D2.out.bx _ (.head _)).2.2.cell 0; have f3_0 := (D2.out.bx _ (.head _)).2.2.frozen 0
  have r3_1 := (D2.out.bx _ (.head _)).2.2.cell 1; have f3_1 := (D2.out.bx _ (.head _)).2.2.frozen 1
  have r3_2 := (D2.out.bx _ (.head _)).2.2.cell 2; have f3_2 := (D2.out.bx _ (.head _)).2.2.frozen 2
  have r3_3 := (D2.out.bx _ (.head _)).2.2.cell 3; have f3_3 := (D2.out.bx _ (.head _)).2.2.frozen 3
  simp at r0_0 r0_1 r1_0 r1_1 r2_0 r2_1 r2_2 r2_3 r3_0 r3_1 r3_2 r3_3
  have D3 := Lib.hid ((((((((((((D2.out.put (B1 := [(w.heap.size + 1 + 1 + 1, [.int .i64 0, .slice none 0 0, .int .i64 0, .slice none 0 0]), (w.heap.size + 1 + 1, [.int .i64 0, .slice none 0 0, .int .i64 0, .slice none 0 0]), (w.heap.size + 1, [.int .i64 0, .slice none 0 0])]) (B2 := []) (fun b mb => by simp at mb; rcases mb with rfl | rfl | rfl <;> (dsimp only; omega)) 0 (.int .i64 p)).put (B1 := [(w.heap.size + 1 + 1 + 1, [.int .i64 0, .slice none 0 0, .int .i64 0, .slice none 0 0]), (w.heap.size + 1 + 1, [.int .i64 0, .slice none 0 0, .int .i64 0, .slice none 0 0]), (w.heap.size + 1, [.int .i64 0, .slice none 0 0])]) (B2 := []) (fun b mb => by simp at mb; rcases mb with rfl | rfl | rfl <;> (dsimp only; omega)) 1 (.slice ga gn gc)).put (B1 := [(w.heap.size + 1 + 1 + 1, [.int .i64 0, .slice none 0 0, .int .i64 0, .slice none 0 0]), (w.heap.size + 1 + 1, [.int .i64 0, .slice none 0 0, .int .i64 0, .slice none 0 0])]) (B2 := [(w.heap.size, [.int .i64 p, .slice ga gn gc])]) (fun b mb => by simp at mb; rcases mb with rfl | rfl | rfl <;> (dsimp only; omega)) 0 (.int .i64 q)).put (B1 := [(w.heap.size + 1 + 1 + 1, [.int .i64 0, .slice none 0 0, .int .i64 0, .slice none 0 0]), (w.heap.size + 1 + 1, [.int .i64 0, .slice none 0 0, .int .i64 0, .slice none 0 0])]) (B2 := [(w.heap.size, [.int .i64 p, .slice ga gn gc])]) (fun b mb => by simp at mb; rcases mb with rfl | rfl | rfl <;> (dsimp only; omega)) 1 (.slice ha hn hc9)).put (B1 := [(w.heap.size + 1 + 1 + 1, [.int .i64 0, .slice none 0 0, .int .i64 0, .slice none 0 0])]) (B2 := [(w.heap.size + 1, [.int .i64 q, .slice ha hn hc9]), (w.heap.size, [.int .i64 p, .slice ga gn gc])]) (fun b mb => by simp at mb; rcases mb with rfl | rfl | rfl <;> (dsimp only; omega)) 0 (.int .i64 s1)).put (B1 := [(w.heap.size + 1 + 1 + 1, [.int .i64 0, .slice none 0 0, .int .i64 0, .slice none 0 0])]) (B2 := [(w.heap.size + 1, [.int .i64 q, .slice ha hn hc9]), (w.heap.size, [.int .i64 p, .slice ga gn gc])]) (fun b mb => by simp at mb; rcases mb with rfl | rfl | rfl <;> (dsimp only; omega)) 1 (.slice ea1 en1 ec1)).put (B1 := [(w.heap.size + 1 + 1 + 1, [.int .i64 0, .slice none 0 0, .int .i64 0, .slice none 0 0])]) (B2 := [(w.heap.size + 1, [.int .i64 q, .slice ha hn hc9]), (w.heap.size, [.int .i64 p, .slice ga gn gc])]) (fun b mb => by simp at mb; rcases mb with rfl | rfl | rfl <;> (dsimp only; omega)) 2 (.int .i64 k1)).put (B1 := [(w.heap.size + 1 + 1 + 1, [.int .i64 0, .slice none 0 0, .int .i64 0, .slice none 0 0])]) (B2 := [(w.heap.size + 1, [.int .i64 q, .slice ha hn hc9]), (w.heap.size, [.int .i64 p, .slice ga gn gc])]) (fun b mb => by simp at mb; rcases mb with rfl | rfl | rfl <;> (dsimp only; omega)) 3 (.slice ta1 tn1 tc1)).put (B1 := []) (B2 := [(w.heap.size + 1 + 1, [.int .i64 s1, .slice ea1 en1 ec1, .int .i64 k1, .slice ta1 tn1 tc1]), (w.heap.size + 1, [.int .i64 q, .slice ha hn hc9]), (w.heap.size, [.int .i64 p, .slice ga gn gc])]) (fun b mb => by simp at mb; rcases mb with rfl | rfl | rfl <;> (dsimp only; omega)) 0 (.int .i64 s2)).put (B1 := []) (B2 := [(w.heap.size + 1 + 1, [.int .i64 s1, .slice ea1 en1 ec1, .int .i64 k1, .slice ta1 tn1 tc1]), (w.heap.size + 1, [.int .i64 q, .slice ha hn hc9]), (w.heap.size, [.int .i64 p, .slice ga gn gc])]) (fun b mb => by simp at mb; rcases mb with rfl | rfl | rfl <;> (dsimp only; omega)) 1 (.slice ea2 en2 ec2)).put (B1 := []) (B2 := [(w.heap.size + 1 + 1, [.int .i64 s1, .slice ea1 en1 ec1, .int .i64 k1, .slice ta1 tn1 tc1]), (w.heap.size + 1, [.int .i64 q, .slice ha hn hc9]), (w.heap.size, [.int .i64 p, .slice ga gn gc])]) (fun b mb => by simp at mb; rcases mb with rfl | rfl | rfl <;> (dsimp only; omega)) 2 (.int .i64 k2)).put (B1 := []) (B2 := [(w.heap.size + 1 + 1, [.int .i64 s1, .slice ea1 en1 ec1, .int .i64 k1, .slice ta1 tn1 tc1]), (w.heap.size + 1, [.int .i64 q, .slice ha hn hc9]), (w.heap.size, [.int .i64 p, .slice ga gn gc])]) (fun b mb => by simp at mb; rcases mb with rfl | rfl | rfl <;> (dsimp only; omega)) 3 (.slice ta2 tn2 tc2))
  go_wp2
  refine bodyPost_ret (v := .tuple #[.agg #[.int .i64 p, .slice ga gn gc], .agg #[.int .i64 q, .slice ha hn hc9], .agg #[.int .i64 s1, .slice ea1 en1 ec1, .int .i64 k1, .slice ta1 tn1 tc1], .agg #[.int .i64 s2, .slice ea2 en2 ec2, .int .i64 k2, .slice ta2 tn2 tc2]]) ?_ rfl ?_
  · simp [results, Tryd.results46, go_sem, r0_0, r0_1, r1_0, r1_1, r2_0, r2_1, r2_2, r2_3, r3_0, r3_1, r3_2, r3_3]
  · exact ⟨p, _, g, q, _, hs, s1, _, e1, k1, _, t1, s2, _, e2, k2, _, t2, rfl, HPQ.out.1, HPQ.out.2, own_li (D3.out.ls _ (.head _)).1 HL.out.1.1 HL.out.1.2, own_li (D3.out.ls _ (.tail _ (.head _))).1 HL.out.2.1.1 HL.out.2.1.2, own_li (D3.out.ls _ (.tail _ (.tail _ (.head _)))).1 HL.out.2.2.1.1 HL.out.2.2.1.2, own_li (D3.out.ls _ (.tail _ (.tail _ (.tail _ (.head _))))).1 HL.out.2.2.2.1.1 HL.out.2.2.2.1.2, own_li (D3.out.ls _ (.tail _ (.tail _ (.tail _ (.tail _ (.head _)))))).1 HL.out.2.2.2.2.1.1 HL.out.2.2.2.2.1.2, own_li (D3.out.ls _ (.tail _ (.tail _ (.tail _ (.tail _ (.tail _ (.head _))))))).1 HL.out.2.2.2.2.2.1 HL.out.2.2.2.2.2.2, D3.out.be⟩

set_option maxRecDepth 100000 in
set_option maxHeartbeats 6400000 in
theorem drawTurnOk_any (s : Value) (w : World) (h : CodeIn w s) : Calls Tryd.prog 36 #[s] w (ToPost w) := by
  obtain ⟨W0, hW0⟩ : ∃ z, z = (((w.alloc (.cells #[.int .i64 0, .slice none 0 0] 25)).alloc (.cells #[.int .i64 0, .slice none 0 0] 25)).alloc (.cells #[.int .i64 0, .slice none 0 0, .int .i64 0, .slice none 0 0] 50)) := ⟨_, rfl⟩
  have S0 : Hid (Sx w [(w.heap.size + 1 + 1, [.int .i64 0, .slice none 0 0, .int .i64 0, .slice none 0 0]), (w.heap.size + 1, [.int .i64 0, .slice none 0 0]), (w.heap.size, [.int .i64 0, .slice none 0 0])] [] W0) := Lib.hid (by rw [hW0]; have h9 := ((((Sx.start w).made [.int .i64 0, .slice none 0 0] 25).made [.int .i64 0, .slice none 0 0] 25).made [.int .i64 0, .slice none 0 0, .int .i64 0, .slice none 0 0] 50); simpa using h9)
  have HC := Lib.hid (show CodeIn W0 s by rw [hW0]; exact code_more3 (code_more3 (code_more3 h _) _) _)
  have HB : Hid (∀ b, b ∈ ([(w.heap.size + 1 + 1, [.int .i64 0, .slice none 0 0, .int .i64 0, .slice none 0 0]), (w.heap.size + 1, [.int .i64 0, .slice none 0 0]), (w.heap.size, [.int .i64 0, .slice none 0 0])] : List (Nat × List Value)) → w.heap.size ≤ b.1) := Lib.hid (fun b mb => by simp at mb; rcases mb with rfl | rfl | rfl <;> (dsimp only; omega))
  have HZ0 : Hid (W0.heap.size = w.heap.size + 3) := Lib.hid (by rw [hW0]; simp)
  have HW0 := Lib.hid hW0
  clear h hW0
  go_enter Tryd.func36, Tryd.ntmps36
  go_wp2_with fail
  rw [← HW0.out]
  refine (open_any _ _ HC.out).mono ?_
  rintro e w1 ⟨rfl, hr, hb⟩
  have D1 := Lib.hid (Dn.opened S0.out HB.out hr hb)
  clear hr hb HC S0 HB HW0
  go_wp2_with fail
  refine (turns_any _ _ _ (D1.out.rd _ rfl) (by omega)).mono ?_
  rintro e w2 ⟨p, gv, g, q, hv, hs, s1, v1, e1, k1, u1, t1, s2, v2, e2, k2, u2, t2, k9, rfl, fo, hk9, hg, hr⟩
  have D2 := Lib.hid (D1.out.mades (L'' := [(gv, g), (hv, hs), (v1, e1), (u1, t1), (v2, e2), (u2, t2)]) hg hr (fun x m => by
    simp at m
    rcases m with rfl | rfl | rfl | rfl | rfl | rfl
    · exact fo.og
    · exact fo.oh
    · exact fo.o1
    · exact fo.x1
    · exact fo.o2
    · exact fo.x2))
  have FO := Lib.hid fo
  have HL : Hid ((g.length ≤ 50 ∧ Sml g) ∧ (hs.length ≤ 50 ∧ Sml hs) ∧ (e1.length ≤ 50 ∧ Sml e1) ∧ (t1.length ≤ 50 ∧ Sml t1) ∧ (e2.length ≤ 50 ∧ Sml e2) ∧ (t2.length ≤ 50 ∧ Sml t2)) := Lib.hid ⟨fo.lg, fo.lh, fo.l1, fo.m1, fo.l2, fo.m2⟩
  have HPQ := Lib.hid (show (0 ≤ p ∧ p ≤ 5) ∧ (0 ≤ q ∧ q ≤ 5) from ⟨fo.hp, fo.hq⟩)
  obtain ⟨ga, gc, x9⟩ := Own.form fo.og
  subst x9
  obtain ⟨gn, lgn⟩ : ∃ n, g.length = n := ⟨_, rfl⟩
  obtain ⟨ha, hc9, x9⟩ := Own.form fo.oh
  subst x9
  obtain ⟨hn, lhn⟩ : ∃ n, hs.length = n := ⟨_, rfl⟩
  obtain ⟨ea1, ec1, x9⟩ := Own.form fo.o1
  subst x9
  obtain ⟨en1, len1⟩ : ∃ n, e1.length = n := ⟨_, rfl⟩
  obtain ⟨ta1, tc1, x9⟩ := Own.form fo.x1
  subst x9
  obtain ⟨tn1, ltn1⟩ : ∃ n, t1.length = n := ⟨_, rfl⟩
  obtain ⟨ea2, ec2, x9⟩ := Own.form fo.o2
  subst x9
  obtain ⟨en2, len2⟩ : ∃ n, e2.length = n := ⟨_, rfl⟩
  obtain ⟨ta2, tc2, x9⟩ := Own.form fo.x2
  subst x9
  obtain ⟨tn2, ltn2⟩ : ∃ n, t2.length = n := ⟨_, rfl⟩
  rw [lgn, lhn, len1, ltn1, len2, ltn2] at D2
  rw [lgn, lhn, len1, ltn1, len2, ltn2]
  clear FO fo hg hr D1 lgn lhn len1 ltn1 len2 ltn2
  have HN6 : Hid (w.heap.size + 1 + 1 < w2.heap.size) := Lib.hid ((D2.out.bx _ (.head _)).2.2.lt)
  obtain ⟨w3, hw3⟩ : ∃ z, z = ((((w2.alloc (.cells #[.int .i64 p, .slice ga gn gc] 25)).alloc (.cells #[.int .i64 q, .slice ha hn hc9] 25)).alloc (.cells #[.int .i64 s1, .slice ea1 en1 ec1, .int .i64 k1, .slice ta1 tn1 tc1] 50)).alloc (.cells #[.int .i64 s2, .slice ea2 en2 ec2, .int .i64 k2, .slice ta2 tn2 tc2] 50)) := ⟨_, rfl⟩
  have D3 : Hid (Dn w W0.heap.size ((w2.heap.size + 1 + 1 + 1, [.int .i64 s2, .slice ea2 en2 ec2, .int .i64 k2, .slice ta2 tn2 tc2]) :: (w2.heap.size + 1 + 1, [.int .i64 s1, .slice ea1 en1 ec1, .int .i64 k1, .slice ta1 tn1 tc1]) :: (w2.heap.size + 1, [.int .i64 q, .slice ha hn hc9]) :: (w2.heap.size, [.int .i64 p, .slice ga gn gc]) :: [(w.heap.size + 1 + 1, [.int .i64 0, .slice none 0 0, .int .i64 0, .slice none 0 0]), (w.heap.size + 1, [.int .i64 0, .slice none 0 0]), (w.heap.size, [.int .i64 0, .slice none 0 0])]) [(.slice ga gn gc, g), (.slice ha hn hc9, hs), (.slice ea1 en1 ec1, e1), (.slice ta1 tn1 tc1, t1), (.slice ea2 en2 ec2, e2), (.slice ta2 tn2 tc2, t2)] (some k9) w3) := Lib.hid (by rw [hw3]; have h9 := ((((D2.out.box (T := 25) [.int .i64 p, .slice ga gn gc]).box (T := 25) [.int .i64 q, .slice ha hn hc9]).box (T := 50) [.int .i64 s1, .slice ea1 en1 ec1, .int .i64 k1, .slice ta1 tn1 tc1]).box (T := 50) [.int .i64 s2, .slice ea2 en2 ec2, .int .i64 k2, .slice ta2 tn2 tc2]); simpa using h9)
  have HW3 := Lib.hid hw3
  clear hw3 D2
  go_wp2_with fail
  rw [← HW3.out]
  refine (pick_any _ _ 2 _ (D3.out.rd _ rfl) (by omega)).mono ?_
  rintro e w4 ⟨b, rfl, b0, b1, mmb, hw⟩
  have b2 := b1 (by omega)
  have D4 := Lib.hid (D3.out.next hw)
  clear hw b1 D3 HW3
  by_cases hb : b = 0
  · have hbd : (b == 0) = true := by simp [hb]
    clear hb
    go_wp2_with fail
    apply wp_region_H (Z := List (Nat × List Value) × Option Nat) (S := fun k => k == 3 || k == 4 || k == 5) (C := fun z w' => Hid (Dn w W0.heap.size ((w2.heap.size + 1 + 1 + 1, [.int .i64 s2, .slice ea2 en2 ec2, .int .i64 k2, .slice ta2 tn2 tc2]) :: (w2.heap.size + 1 + 1, [.int .i64 s1, .slice ea1 en1 ec1, .int .i64 k1, .slice ta1 tn1 tc1]) :: (w2.heap.size + 1, [.int .i64 q, .slice ha hn hc9]) :: (w2.heap.size, [.int .i64 p, .slice ga gn gc]) :: z.1) [(.slice ga gn gc, g), (.slice ha hn hc9, hs), (.slice ea1 en1 ec1, e1), (.slice ta1 tn1 tc1, t1), (.slice ea2 en2 ec2, e2), (.slice ta2 tn2 tc2, t2)] z.2 w')) [0, 1, 2] ([(w.heap.size + 1 + 1, [.int .i64 0, .slice none 0 0, .int .i64 0, .slice none 0 0]), (w.heap.size + 1, [.int .i64 0, .slice none 0 0]), (w.heap.size, [.int .i64 0, .slice none 0 0])], some (k9 + 1))
    · kernel_rfl
    · kernel_rfl
    · kernel_rfl
    · exact ⟨rfl, rfl, rfl, trivial⟩
    · rfl
    · decide
    · exact Lib.hid (D4.out.on (Below.refl _ _).drew)
    · intro z
      dsimp only [pickL, nthO]
      go_big_quiet_want
      go_big_quiet_op
      refine ⟨.agg #[.int .i64 p, .slice ga gn gc], fun w' hw' => ?_, ?_⟩
      · have q9 := (hw'.out.bx _ (.tail _ (.tail _ (.tail _ (.head _))))).2.2
        have q0 := q9.cell 0
        have q1 := q9.cell 1
        simp at q0 q1
        simp [go_sem, q0, q1]
      go_big_quiet_on
      go_big_quiet_want
      go_big_quiet_op
      refine ⟨.agg #[.int .i64 q, .slice ha hn hc9], fun w' hw' => ?_, ?_⟩
      · have q9 := (hw'.out.bx _ (.tail _ (.tail _ (.head _)))).2.2
        have q0 := q9.cell 0
        have q1 := q9.cell 1
        simp at q0 q1
        simp [go_sem, q0, q1]
      go_big_quiet_on
      go_big_quiet_want
      go_big_quiet_op
      refine ⟨.agg #[.int .i64 s2, .slice ea2 en2 ec2, .int .i64 k2, .slice ta2 tn2 tc2], fun w' hw' => ?_, ?_⟩
      · have q9 := (hw'.out.bx _ (.head _)).2.2
        have q0 := q9.cell 0
        have q1 := q9.cell 1
        have q2 := q9.cell 2
        have q3 := q9.cell 3
        simp at q0 q1 q2 q3
        simp [go_sem, q0, q1, q2, q3]
      go_big_quiet_on
      exact wpQuiet_nil rfl
    · skip
      refine wpAnyH_special (i := 3) (d := none) rfl (by kernel_rfl) rfl rfl (by kernel_rfl) fun we he => ?_
      have kb := (he.out.bx _ (.tail _ (.tail _ (.tail _ (.tail _ (.tail _ (.tail _ (.head _)))))))).2.2
      have k0_ := kb.cell 0; have f0_ := kb.frozen 0
      have k1_ := kb.cell 1; have f1_ := kb.frozen 1
      simp at k0_ k1_
      refine ⟨undef, ((we.setCell ⟨w.heap.size, 0, none⟩ (.int .i64 p)).setCell ⟨w.heap.size, 1, none⟩ (.slice ga gn gc)), ([(w.heap.size + 1 + 1, [.int .i64 0, .slice none 0 0, .int .i64 0, .slice none 0 0]), (w.heap.size + 1, [.int .i64 0, .slice none 0 0]), (w.heap.size, [.int .i64 p, .slice ga gn gc])], none), .inr ⟨by simp [go_sem, k0_, k1_, f0_, f1_], rfl⟩, Lib.hid ((he.out.put (B1 := ((w2.heap.size + 1 + 1 + 1, [.int .i64 s2, .slice ea2 en2 ec2, .int .i64 k2, .slice ta2 tn2 tc2]) :: (w2.heap.size + 1 + 1, [.int .i64 s1, .slice ea1 en1 ec1, .int .i64 k1, .slice ta1 tn1 tc1]) :: (w2.heap.size + 1, [.int .i64 q, .slice ha hn hc9]) :: (w2.heap.size, [.int .i64 p, .slice ga gn gc]) :: [(w.heap.size + 1 + 1, [.int .i64 0, .slice none 0 0, .int .i64 0, .slice none 0 0]), (w.heap.size + 1, [.int .i64 0, .slice none 0 0])])) (B2 := []) (fun b mb => by simp at mb; have n6 := HN6.out; rcases mb with rfl | rfl | rfl | rfl | rfl | rfl <;> (dsimp only; omega)) 0 (.int .i64 p)).put (B1 := ((w2.heap.size + 1 + 1 + 1, [.int .i64 s2, .slice ea2 en2 ec2, .int .i64 k2, .slice ta2 tn2 tc2]) :: (w2.heap.size + 1 + 1, [.int .i64 s1, .slice ea1 en1 ec1, .int .i64 k1, .slice ta1 tn1 tc1]) :: (w2.heap.size + 1, [.int .i64 q, .slice ha hn hc9]) :: (w2.heap.size, [.int .i64 p, .slice ga gn gc]) :: [(w.heap.size + 1 + 1, [.int .i64 0, .slice none 0 0, .int .i64 0, .slice none 0 0]), (w.heap.size + 1, [.int .i64 0, .slice none 0 0])])) (B2 := []) (fun b mb => by simp at mb; have n6 := HN6.out; rcases mb with rfl | rfl | rfl | rfl | rfl | rfl <;> (dsimp only; omega)) 1 (.slice ga gn gc)), ?_⟩
      clear he kb k0_ k1_ f0_ f1_
      refine wpAnyH_special (i := 4) (d := none) rfl (by kernel_rfl) rfl rfl (by kernel_rfl) fun we he => ?_
      have kb := (he.out.bx _ (.tail _ (.tail _ (.tail _ (.tail _ (.tail _ (.head _))))))).2.2
      have k0_ := kb.cell 0; have f0_ := kb.frozen 0
      have k1_ := kb.cell 1; have f1_ := kb.frozen 1
      simp at k0_ k1_
      refine ⟨undef, ((we.setCell ⟨w.heap.size + 1, 0, none⟩ (.int .i64 q)).setCell ⟨w.heap.size + 1, 1, none⟩ (.slice ha hn hc9)), ([(w.heap.size + 1 + 1, [.int .i64 0, .slice none 0 0, .int .i64 0, .slice none 0 0]), (w.heap.size + 1, [.int .i64 q, .slice ha hn hc9]), (w.heap.size, [.int .i64 p, .slice ga gn gc])], none), .inr ⟨by simp [go_sem, Act.put, k0_, k1_, f0_, f1_], rfl⟩, Lib.hid ((he.out.put (B1 := ((w2.heap.size + 1 + 1 + 1, [.int .i64 s2, .slice ea2 en2 ec2, .int .i64 k2, .slice ta2 tn2 tc2]) :: (w2.heap.size + 1 + 1, [.int .i64 s1, .slice ea1 en1 ec1, .int .i64 k1, .slice ta1 tn1 tc1]) :: (w2.heap.size + 1, [.int .i64 q, .slice ha hn hc9]) :: (w2.heap.size, [.int .i64 p, .slice ga gn gc]) :: [(w.heap.size + 1 + 1, [.int .i64 0, .slice none 0 0, .int .i64 0, .slice none 0 0])])) (B2 := [(w.heap.size, [.int .i64 p, .slice ga gn gc])]) (fun b mb => by simp at mb; have n6 := HN6.out; rcases mb with rfl | rfl | rfl | rfl | rfl | rfl <;> (dsimp only; omega)) 0 (.int .i64 q)).put (B1 := ((w2.heap.size + 1 + 1 + 1, [.int .i64 s2, .slice ea2 en2 ec2, .int .i64 k2, .slice ta2 tn2 tc2]) :: (w2.heap.size + 1 + 1, [.int .i64 s1, .slice ea1 en1 ec1, .int .i64 k1, .slice ta1 tn1 tc1]) :: (w2.heap.size + 1, [.int .i64 q, .slice ha hn hc9]) :: (w2.heap.size, [.int .i64 p, .slice ga gn gc]) :: [(w.heap.size + 1 + 1, [.int .i64 0, .slice none 0 0, .int .i64 0, .slice none 0 0])])) (B2 := [(w.heap.size, [.int .i64 p, .slice ga gn gc])]) (fun b mb => by simp at mb; have n6 := HN6.out; rcases mb with rfl | rfl | rfl | rfl | rfl | rfl <;> (dsimp only; omega)) 1 (.slice ha hn hc9)), ?_⟩
      clear he kb k0_ k1_ f0_ f1_
      refine wpAnyH_special (i := 5) (d := none) rfl (by kernel_rfl) rfl rfl (by kernel_rfl) fun we he => ?_
      have kb := (he.out.bx _ (.tail _ (.tail _ (.tail _ (.tail _ (.head _)))))).2.2
      have k0_ := kb.cell 0; have f0_ := kb.frozen 0
      have k1_ := kb.cell 1; have f1_ := kb.frozen 1
      have k2_ := kb.cell 2; have f2_ := kb.frozen 2
      have k3_ := kb.cell 3; have f3_ := kb.frozen 3
      simp at k0_ k1_ k2_ k3_
      refine ⟨undef, ((((we.setCell ⟨w.heap.size + 1 + 1, 0, none⟩ (.int .i64 s2)).setCell ⟨w.heap.size + 1 + 1, 1, none⟩ (.slice ea2 en2 ec2)).setCell ⟨w.heap.size + 1 + 1, 2, none⟩ (.int .i64 k2)).setCell ⟨w.heap.size + 1 + 1, 3, none⟩ (.slice ta2 tn2 tc2)), ([(w.heap.size + 1 + 1, [.int .i64 s2, .slice ea2 en2 ec2, .int .i64 k2, .slice ta2 tn2 tc2]), (w.heap.size + 1, [.int .i64 q, .slice ha hn hc9]), (w.heap.size, [.int .i64 p, .slice ga gn gc])], none), .inr ⟨by simp [go_sem, Act.put, k0_, k1_, k2_, k3_, f0_, f1_, f2_, f3_], rfl⟩, Lib.hid ((((he.out.put (B1 := ((w2.heap.size + 1 + 1 + 1, [.int .i64 s2, .slice ea2 en2 ec2, .int .i64 k2, .slice ta2 tn2 tc2]) :: (w2.heap.size + 1 + 1, [.int .i64 s1, .slice ea1 en1 ec1, .int .i64 k1, .slice ta1 tn1 tc1]) :: (w2.heap.size + 1, [.int .i64 q, .slice ha hn hc9]) :: (w2.heap.size, [.int .i64 p, .slice ga gn gc]) :: [])) (B2 := [(w.heap.size + 1, [.int .i64 q, .slice ha hn hc9]), (w.heap.size, [.int .i64 p, .slice ga gn gc])]) (fun b mb => by simp at mb; have n6 := HN6.out; rcases mb with rfl | rfl | rfl | rfl | rfl | rfl <;> (dsimp only; omega)) 0 (.int .i64 s2)).put (B1 := ((w2.heap.size + 1 + 1 + 1, [.int .i64 s2, .slice ea2 en2 ec2, .int .i64 k2, .slice ta2 tn2 tc2]) :: (w2.heap.size + 1 + 1, [.int .i64 s1, .slice ea1 en1 ec1, .int .i64 k1, .slice ta1 tn1 tc1]) :: (w2.heap.size + 1, [.int .i64 q, .slice ha hn hc9]) :: (w2.heap.size, [.int .i64 p, .slice ga gn gc]) :: [])) (B2 := [(w.heap.size + 1, [.int .i64 q, .slice ha hn hc9]), (w.heap.size, [.int .i64 p, .slice ga gn gc])]) (fun b mb => by simp at mb; have n6 := HN6.out; rcases mb with rfl | rfl | rfl | rfl | rfl | rfl <;> (dsimp only; omega)) 1 (.slice ea2 en2 ec2)).put (B1 := ((w2.heap.size + 1 + 1 + 1, [.int .i64 s2, .slice ea2 en2 ec2, .int .i64 k2, .slice ta2 tn2 tc2]) :: (w2.heap.size + 1 + 1, [.int .i64 s1, .slice ea1 en1 ec1, .int .i64 k1, .slice ta1 tn1 tc1]) :: (w2.heap.size + 1, [.int .i64 q, .slice ha hn hc9]) :: (w2.heap.size, [.int .i64 p, .slice ga gn gc]) :: [])) (B2 := [(w.heap.size + 1, [.int .i64 q, .slice ha hn hc9]), (w.heap.size, [.int .i64 p, .slice ga gn gc])]) (fun b mb => by simp at mb; have n6 := HN6.out; rcases mb with rfl | rfl | rfl | rfl | rfl | rfl <;> (dsimp only; omega)) 2 (.int .i64 k2)).put (B1 := ((w2.heap.size + 1 + 1 + 1, [.int .i64 s2, .slice ea2 en2 ec2, .int .i64 k2, .slice ta2 tn2 tc2]) :: (w2.heap.size + 1 + 1, [.int .i64 s1, .slice ea1 en1 ec1, .int .i64 k1, .slice ta1 tn1 tc1]) :: (w2.heap.size + 1, [.int .i64 q, .slice ha hn hc9]) :: (w2.heap.size, [.int .i64 p, .slice ga gn gc]) :: [])) (B2 := [(w.heap.size + 1, [.int .i64 q, .slice ha hn hc9]), (w.heap.size, [.int .i64 p, .slice ga gn gc])]) (fun b mb => by simp at mb; have n6 := HN6.out; rcases mb with rfl | rfl | rfl | rfl | rfl | rfl <;> (dsimp only; omega)) 3 (.slice ta2 tn2 tc2)), ?_⟩
      clear he kb k0_ k1_ k2_ k3_ f0_ f1_ f2_ f3_
      refine ⟨by kernel_rfl, fun w9 hz => ?_⟩
      simp only [Act.put]
      dsimp only at hz
      have r0_0 := (hz.out.bx _ (.tail _ (.tail _ (.tail _ (.tail _ (.tail _ (.tail _ (.head _)))))))).2.2.cell 0
      have r0_1 := (hz.out.bx _ (.tail _ (.tail _ (.tail _ (.tail _ (.tail _ (.tail _ (.head _)))))))).2.2.cell 1
      have r1_0 := (hz.out.bx _ (.tail _ (.tail _ (.tail _ (.tail _ (.tail _ (.head _))))))).2.2.cell 0
      have r1_1 := (hz.out.bx _ (.tail _ (.tail _ (.tail _ (.tail _ (.tail _ (.head _))))))).2.2.cell 1
      have r2_0 := (hz.out.bx _ (.tail _ (.tail _ (.tail _ (.tail _ (.head _)))))).2.2.cell 0
      have r2_1 := (hz.out.bx _ (.tail _ (.tail _ (.tail _ (.tail _ (.head _)))))).2.2.cell 1
      have r2_2 := (hz.out.bx _ (.tail _ (.tail _ (.tail _ (.tail _ (.head _)))))).2.2.cell 2
      have r2_3 := (hz.out.bx _ (.tail _ (.tail _ (.tail _ (.tail _ (.head _)))))).2.2.cell 3
      simp at r0_0 r0_1 r1_0 r1_1 r2_0 r2_1 r2_2 r2_3
      go_wp2
      refine bodyPost_ret (v := .tuple #[.agg #[.int .i64 p, .slice ga gn gc], .agg #[.int .i64 q, .slice ha hn hc9], .agg #[.int .i64 s2, .slice ea2 en2 ec2, .int .i64 k2, .slice ta2 tn2 tc2]]) ?_ rfl ?_
      · simp [results, Tryd.results36, go_sem, r0_0, r0_1, r1_0, r1_1, r2_0, r2_1, r2_2, r2_3]
      · exact ⟨p, _, g, q, _, hs, s2, _, e2, k2, _, t2, rfl, HPQ.out.1, HPQ.out.2, own_li (hz.out.ls _ (.head _)).1 HL.out.1.1 HL.out.1.2, own_li (hz.out.ls _ (.tail _ (.head _))).1 HL.out.2.1.1 HL.out.2.1.2, own_li (hz.out.ls _ (.tail _ (.tail _ (.tail _ (.tail _ (.head _)))))).1 HL.out.2.2.2.2.1.1 HL.out.2.2.2.2.1.2, own_li (hz.out.ls _ (.tail _ (.tail _ (.tail _ (.tail _ (.tail _ (.head _))))))).1 HL.out.2.2.2.2.2.1 HL.out.2.2.2.2.2.2, hz.out.be⟩
  · have hbd : (b == 0) = false := by simp [hb]
    clear hb
    go_wp2_with fail
    apply wp_region_H (Z := List (Nat × List Value) × Option Nat) (S := fun k => k == 3 || k == 4 || k == 5) (C := fun z w' => Hid (Dn w W0.heap.size ((w2.heap.size + 1 + 1 + 1, [.int .i64 s2, .slice ea2 en2 ec2, .int .i64 k2, .slice ta2 tn2 tc2]) :: (w2.heap.size + 1 + 1, [.int .i64 s1, .slice ea1 en1 ec1, .int .i64 k1, .slice ta1 tn1 tc1]) :: (w2.heap.size + 1, [.int .i64 q, .slice ha hn hc9]) :: (w2.heap.size, [.int .i64 p, .slice ga gn gc]) :: z.1) [(.slice ga gn gc, g), (.slice ha hn hc9, hs), (.slice ea1 en1 ec1, e1), (.slice ta1 tn1 tc1, t1), (.slice ea2 en2 ec2, e2), (.slice ta2 tn2 tc2, t2)] z.2 w')) [0, 1, 2] ([(w.heap.size + 1 + 1, [.int .i64 0, .slice none 0 0, .int .i64 0, .slice none 0 0]), (w.heap.size + 1, [.int .i64 0, .slice none 0 0]), (w.heap.size, [.int .i64 0, .slice none 0 0])], some (k9 + 1))
    · kernel_rfl
    · kernel_rfl
    · kernel_rfl
    · exact ⟨rfl, rfl, rfl, trivial⟩
    · rfl
    · decide
    · exact Lib.hid (D4.out.on (Below.refl _ _).drew)
    · intro z
      dsimp only [pickL, nthO]
      go_big_quiet_want
      go_big_quiet_op
      refine ⟨.agg #[.int .i64 p, .slice ga gn gc], fun w' hw' => ?_, ?_⟩
      · have q9 := (hw'.out.bx _ (.tail _ (.tail _ (.tail _ (.head _))))).2.2
        have q0 := q9.cell 0
        have q1 := q9.cell 1
        simp at q0 q1
        simp [go_sem, q0, q1]
      go_big_quiet_on
      go_big_quiet_want
      go_big_quiet_op
      refine ⟨.agg #[.int .i64 q, .slice ha hn hc9], fun w' hw' => ?_, ?_⟩
      · have q9 := (hw'.out.bx _ (.tail _ (.tail _ (.head _)))).2.2
        have q0 := q9.cell 0
        have q1 := q9.cell 1
        simp at q0 q1
        simp [go_sem, q0, q1]
      go_big_quiet_on
      go_big_quiet_want
      go_big_quiet_op
      refine ⟨.agg #[.int .i64 s1, .slice ea1 en1 ec1, .int .i64 k1, .slice ta1 tn1 tc1], fun w' hw' => ?_, ?_⟩
      · have q9 := (hw'.out.bx _ (.tail _ (.head _))).2.2
        have q0 := q9.cell 0
        have q1 := q9.cell 1
        have q2 := q9.cell 2
        have q3 := q9.cell 3
        simp at q0 q1 q2 q3
        simp [go_sem, q0, q1, q2, q3]
      go_big_quiet_on
      exact wpQuiet_nil rfl
    · skip
      refine wpAnyH_special (i := 3) (d := none) rfl (by kernel_rfl) rfl rfl (by kernel_rfl) fun we he => ?_
      have kb := (he.out.bx _ (.tail _ (.tail _ (.tail _ (.tail _ (.tail _ (.tail _ (.head _)))))))).2.2
      have k0_ := kb.cell 0; have f0_ := kb.frozen 0
      have k1_ := kb.cell 1; have f1_ := kb.frozen 1
      simp at k0_ k1_
      refine ⟨undef, ((we.setCell ⟨w.heap.size, 0, none⟩ (.int .i64 p)).setCell ⟨w.heap.size, 1, none⟩ (.slice ga gn gc)), ([(w.heap.size + 1 + 1, [.int .i64 0, .slice none 0 0, .int .i64 0, .slice none 0 0]), (w.heap.size + 1, [.int .i64 0, .slice none 0 0]), (w.heap.size, [.int .i64 p, .slice ga gn gc])], none), .inr ⟨by simp [go_sem, k0_, k1_, f0_, f1_], rfl⟩, Lib.hid ((he.out.put (B1 := ((w2.heap.size + 1 + 1 + 1, [.int .i64 s2, .slice ea2 en2 ec2, .int .i64 k2, .slice ta2 tn2 tc2]) :: (w2.heap.size + 1 + 1, [.int .i64 s1, .slice ea1 en1 ec1, .int .i64 k1, .slice ta1 tn1 tc1]) :: (w2.heap.size + 1, [.int .i64 q, .slice ha hn hc9]) :: (w2.heap.size, [.int .i64 p, .slice ga gn gc]) :: [(w.heap.size + 1 + 1, [.int .i64 0, .slice none 0 0, .int .i64 0, .slice none 0 0]), (w.heap.size + 1, [.int .i64 0, .slice none 0 0])])) (B2 := []) (fun b mb => by simp at mb; have n6 := HN6.out; rcases mb with rfl | rfl | rfl | rfl | rfl | rfl <;> (dsimp only; omega)) 0 (.int .i64 p)).put (B1 := ((w2.heap.size + 1 + 1 + 1, [.int .i64 s2, .slice ea2 en2 ec2, .int .i64 k2, .slice ta2 tn2 tc2]) :: (w2.heap.size + 1 + 1, [.int .i64 s1, .slice ea1 en1 ec1, .int .i64 k1, .slice ta1 tn1 tc1]) :: (w2.heap.size + 1, [.int .i64 q, .slice ha hn hc9]) :: (w2.heap.size, [.int .i64 p, .slice ga gn gc]) :: [(w.heap.size + 1 + 1, [.int .i64 0, .slice none 0 0, .int .i64 0, .slice none 0 0]), (w.heap.size + 1, [.int .i64 0, .slice none 0 0])])) (B2 := []) (fun b mb => by simp at mb; have n6 := HN6.out; rcases mb with rfl | rfl | rfl | rfl | rfl | rfl <;> (dsimp only; omega)) 1 (.slice ga gn gc)), ?_⟩
      clear he kb k0_ k1_ f0_ f1_
      refine wpAnyH_special (i := 4) (d := none) rfl (by kernel_rfl) rfl rfl (by kernel_rfl) fun we he => ?_
      have kb := (he.out.bx _ (.tail _ (.tail _ (.tail _ (.tail _ (.tail _ (.head _))))))).2.2
      have k0_ := kb.cell 0; have f0_ := kb.frozen 0
      have k1_ := kb.cell 1; have f1_ := kb.frozen 1
      simp at k0_ k1_
      refine ⟨undef, ((we.setCell ⟨w.heap.size + 1, 0, none⟩ (.int .i64 q)).setCell ⟨w.heap.size + 1, 1, none⟩ (.slice ha hn hc9)), ([(w.heap.size + 1 + 1, [.int .i64 0, .slice none 0 0, .int .i64 0, .slice none 0 0]), (w.heap.size + 1, [.int .i64 q, .slice ha hn hc9]), (w.heap.size, [.int .i64 p, .slice ga gn gc])], none), .inr ⟨by simp [go_sem, Act.put, k0_, k1_, f0_, f1_], rfl⟩, Lib.hid ((he.out.put (B1 := ((w2.heap.size + 1 + 1 + 1, [.int .i64 s2, .slice ea2 en2 ec2, .int .i64 k2, .slice ta2 tn2 tc2]) :: (w2.heap.size + 1 + 1, [.int .i64 s1, .slice ea1 en1 ec1, .int .i64 k1, .slice ta1 tn1 tc1]) :: (w2.heap.size + 1, [.int .i64 q, .slice ha hn hc9]) :: (w2.heap.size, [.int .i64 p, .slice ga gn gc]) :: [(w.heap.size + 1 + 1, [.int .i64 0, .slice none 0 0, .int .i64 0, .slice none 0 0])])) (B2 := [(w.heap.size, [.int .i64 p, .slice ga gn gc])]) (fun b mb => by simp at mb; have n6 := HN6.out; rcases mb with rfl | rfl | rfl | rfl | rfl | rfl <;> (dsimp only; omega)) 0 (.int .i64 q)).put (B1 := ((w2.heap.size + 1 + 1 + 1, [.int .i64 s2, .slice ea2 en2 ec2, .int .i64 k2, .slice ta2 tn2 tc2]) :: (w2.heap.size + 1 + 1, [.int .i64 s1, .slice ea1 en1 ec1, .int .i64 k1, .slice ta1 tn1 tc1]) :: (w2.heap.size + 1, [.int .i64 q, .slice ha hn hc9]) :: (w2.heap.size, [.int .i64 p, .slice ga gn gc]) :: [(w.heap.size + 1 + 1, [.int .i64 0, .slice none 0 0, .int .i64 0, .slice none 0 0])])) (B2 := [(w.heap.size, [.int .i64 p, .slice ga gn gc])]) (fun b mb => by simp at mb; have n6 := HN6.out; rcases mb with rfl | rfl | rfl | rfl | rfl | rfl <;> (dsimp only; omega)) 1 (.slice ha hn hc9)), ?_⟩
      clear he kb k0_ k1_ f0_ f1_
      refine wpAnyH_special (i := 5) (d := none) rfl (by kernel_rfl) rfl rfl (by kernel_rfl) fun we he => ?_
      have kb := (he.out.bx _ (.tail _ (.tail _ (.tail _ (.tail _ (.head _)))))).2.2
      have k0_ := kb.cell 0; have f0_ := kb.frozen 0
      have k1_ := kb.cell 1; have f1_ := kb.frozen 1
      have k2_ := kb.cell 2; have f2_ := kb.frozen 2
      have k3_ := kb.cell 3; have f3_ := kb.frozen 3
      simp at k0_ k1_ k2_ k3_
      refine ⟨undef, ((((we.setCell ⟨w.heap.size + 1 + 1, 0, none⟩ (.int .i64 s1)).setCell ⟨w.heap.size + 1 + 1, 1, none⟩ (.slice ea1 en1 ec1)).setCell ⟨w.heap.size + 1 + 1, 2, none⟩ (.int .i64 k1)).setCell ⟨w.heap.size + 1 + 1, 3, none⟩ (.slice ta1 tn1 tc1)), ([(w.heap.size + 1 + 1, [.int .i64 s1, .slice ea1 en1 ec1, .int .i64 k1, .slice ta1 tn1 tc1]), (w.heap.size + 1, [.int .i64 q, .slice ha hn hc9]), (w.heap.size, [.int .i64 p, .slice ga gn gc])], none), .inr ⟨by simp [go_sem, Act.put, k0_, k1_, k2_, k3_, f0_, f1_, f2_, f3_], rfl⟩, Lib.hid ((((he.out.put (B1 := ((w2.heap.size + 1 + 1 + 1, [.int .i64 s2, .slice ea2 en2 ec2, .int .i64 k2, .slice ta2 tn2 tc2]) :: (w2.heap.size + 1 + 1, [.int .i64 s1, .slice ea1 en1 ec1, .int .i64 k1, .slice ta1 tn1 tc1]) :: (w2.heap.size + 1, [.int .i64 q, .slice ha hn hc9]) :: (w2.heap.size, [.int .i64 p, .slice ga gn gc]) :: [])) (B2 := [(w.heap.size + 1, [.int .i64 q, .slice ha hn hc9]), (w.heap.size, [.int .i64 p, .slice ga gn gc])]) (fun b mb => by simp at mb; have n6 := HN6.out; rcases mb with rfl | rfl | rfl | rfl | rfl | rfl <;> (dsimp only; omega)) 0 (.int .i64 s1)).put (B1 := ((w2.heap.size + 1 + 1 + 1, [.int .i64 s2, .slice ea2 en2 ec2, .int .i64 k2, .slice ta2 tn2 tc2]) :: (w2.heap.size + 1 + 1, [.int .i64 s1, .slice ea1 en1 ec1, .int .i64 k1, .slice ta1 tn1 tc1]) :: (w2.heap.size + 1, [.int .i64 q, .slice ha hn hc9]) :: (w2.heap.size, [.int .i64 p, .slice ga gn gc]) :: [])) (B2 := [(w.heap.size + 1, [.int .i64 q, .slice ha hn hc9]), (w.heap.size, [.int .i64 p, .slice ga gn gc])]) (fun b mb => by simp at mb; have n6 := HN6.out; rcases mb with rfl | rfl | rfl | rfl | rfl | rfl <;> (dsimp only; omega)) 1 (.slice ea1 en1 ec1)).put (B1 := ((w2.heap.size + 1 + 1 + 1, [.int .i64 s2, .slice ea2 en2 ec2, .int .i64 k2, .slice ta2 tn2 tc2]) :: (w2.heap.size + 1 + 1, [.int .i64 s1, .slice ea1 en1 ec1, .int .i64 k1, .slice ta1 tn1 tc1]) :: (w2.heap.size + 1, [.int .i64 q, .slice ha hn hc9]) :: (w2.heap.size, [.int .i64 p, .slice ga gn gc]) :: [])) (B2 := [(w.heap.size + 1, [.int .i64 q, .slice ha hn hc9]), (w.heap.size, [.int .i64 p, .slice ga gn gc])]) (fun b mb => by simp at mb; have n6 := HN6.out; rcases mb with rfl | rfl | rfl | rfl | rfl | rfl <;> (dsimp only; omega)) 2 (.int .i64 k1)).put (B1 := ((w2.heap.size + 1 + 1 + 1, [.int .i64 s2, .slice ea2 en2 ec2, .int .i64 k2, .slice ta2 tn2 tc2]) :: (w2.heap.size + 1 + 1, [.int .i64 s1, .slice ea1 en1 ec1, .int .i64 k1, .slice ta1 tn1 tc1]) :: (w2.heap.size + 1, [.int .i64 q, .slice ha hn hc9]) :: (w2.heap.size, [.int .i64 p, .slice ga gn gc]) :: [])) (B2 := [(w.heap.size + 1, [.int .i64 q, .slice ha hn hc9]), (w.heap.size, [.int .i64 p, .slice ga gn gc])]) (fun b mb => by simp at mb; have n6 := HN6.out; rcases mb with rfl | rfl | rfl | rfl | rfl | rfl <;> (dsimp only; omega)) 3 (.slice ta1 tn1 tc1)), ?_⟩
      clear he kb k0_ k1_ k2_ k3_ f0_ f1_ f2_ f3_
      refine ⟨by kernel_rfl, fun w9 hz => ?_⟩
      simp only [Act.put]
      dsimp only at hz
      have r0_0 := (hz.out.bx _ (.tail _ (.tail _ (.tail _ (.tail _ (.tail _ (.tail _ (.head _)))))))).2.2.cell 0
      have r0_1 := (hz.out.bx _ (.tail _ (.tail _ (.tail _ (.tail _ (.tail _ (.tail _ (.head _)))))))).2.2.cell 1
      have r1_0 := (hz.out.bx _ (.tail _ (.tail _ (.tail _ (.tail _ (.tail _ (.head _))))))).2.2.cell 0
      have r1_1 := (hz.out.bx _ (.tail _ (.tail _ (.tail _ (.tail _ (.tail _ (.head _))))))).2.2.cell 1
      have r2_0 := (hz.out.bx _ (.tail _ (.tail _ (.tail _ (.tail _ (.head _)))))).2.2.cell 0
      have r2_1 := (hz.out.bx _ (.tail _ (.tail _ (.tail _ (.tail _ (.head _)))))).2.2.cell 1
      have r2_2 := (hz.out.bx _ (.tail _ (.tail _ (.tail _ (.tail _ (.head _)))))).2.2.cell 2
      have r2_3 := (hz.out.bx _ (.tail _ (.tail _ (.tail _ (.tail _ (.head _)))))).2.2.cell 3
      simp at r0_0 r0_1 r1_0 r1_1 r2_0 r2_1 r2_2 r2_3
      go_wp2
      refine bodyPost_ret (v := .tuple #[.agg #[.int .i64 p, .slice ga gn gc], .agg #[.int .i64 q, .slice ha hn hc9], .agg #[.int .i64 s1, .slice ea1 en1 ec1, .int .i64 k1, .slice ta1 tn1 tc1]]) ?_ rfl ?_
      · simp [results, Tryd.results36, go_sem, r0_0, r0_1, r1_0, r1_1, r2_0, r2_1, r2_2, r2_3]
      · exact ⟨p, _, g, q, _, hs, s1, _, e1, k1, _, t1, rfl, HPQ.out.1, HPQ.out.2, own_li (hz.out.ls _ (.head _)).1 HL.out.1.1 HL.out.1.2, own_li (hz.out.ls _ (.tail _ (.head _))).1 HL.out.2.1.1 HL.out.2.1.2, own_li (hz.out.ls _ (.tail _ (.tail _ (.head _)))).1 HL.out.2.2.1.1 HL.out.2.2.1.2, own_li (hz.out.ls _ (.tail _ (.tail _ (.tail _ (.head _))))).1 HL.out.2.2.2.1.1 HL.out.2.2.2.1.2, hz.out.be⟩
end Go.Proofs.YtipndddmjgjgpabDoor
