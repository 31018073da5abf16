/- Draws: l20Turn. -/
import Derived.Test.YtipndddmjgjgpabDoorDrK
import Derived.Test.YtipndddmjgjgpabDoorTrnX
namespace Go.Proofs.YtipndddmjgjgpabDoor
open Go.RowKit

theorem Dx.mades {w w' w'' : World} {R k K : Nat} {Bs : List (Nat × List Value)} {L L'' : List (Value × List Int)} (h : Dx w R Bs L k w') (hg : w'.grownBy w'' (some R)) (hr : Rd w'' R K) (ho : ∀ x, x ∈ L'' → Own w'' w'.heap.size x.1 x.2) : Dx w R Bs (L'' ++ L) K w'' := by
  have h2 := h.draw hg hr
  refine ⟨h2.rd, h2.gr, h2.rl, h2.bx, fun x m => ?_, fun b mb x m q hq => ?_⟩
  · rcases List.mem_append.1 m with m | m
    · exact own_mono (ho x m) h.gr.size
    · exact h2.ls x m
  · rcases List.mem_append.1 m with m | m
    · have := ((ho x m).lt q hq).1; have := (h.bx b mb).2.lt; omega
    · exact h2.ap b mb x m q hq
theorem of_small (p : Int) (g : List Int) (q : Int) (h known further : List Int) (ask : Int) (p0 : 0 ≤ p) (p5 : p ≤ 5) (a0 : 0 ≤ ask) (a1 : ask ≤ 1) :
    ((ofEx p g q h known further ask).length ≤ 50 ∧ Sml (ofEx p g q h known further ask)) ∧ ((ofYx p g q h known further ask).length ≤ 50 ∧ Sml (ofYx p g q h known further ask)) ∧ (0 ≤ ofPx p g q h known further ask ∧ ofPx p g q h known further ask ≤ 5) ∧ (0 ≤ ofNx p g q h known further ask ∧ ofNx p g q h known further ask ≤ 1) := by
  cases b : ofT p g q h known further ask
  · simp only [ofEx, ofYx, ofPx, ofNx, b]
    refine ⟨⟨by simp, fun j hj => by simp at hj⟩, ⟨by simp, fun j hj => by simp at hj⟩, by simp, by simp⟩
  · have k := ofT_true.1 b
    simp only [ofEx, ofYx, ofPx, ofNx, b, if_true]
    exact ⟨gk_dr (mov_gk k.of k.gg), od_dr k.told, ⟨p0, p5⟩, ⟨a0, a1⟩⟩
theorem fits60 {xs : List Int} (h : xs.length ≤ 50) : xs.length ≤ maxLen := by unfold maxLen; omega
/-- Two graphs and two turns, drawn. -/
structure Four (w' : World) (B : Nat) (p : Int) (gv : Value) (g : List Int) (q : Int) (hv : Value) (h : List Int) (s1 : Int) (v1 : Value) (e1 : List Int) (a1 : Int) (u1 : Value) (t1 : List Int) (s2 : Int) (v2 : Value) (e2 : List Int) (a2 : Int) (u2 : Value) (t2 : List Int) : Prop where
  og : Own w' B gv g
  oh : Own w' B hv h
  o1 : Own w' B v1 e1
  o2 : Own w' B v2 e2
  x1 : Own w' B u1 t1
  x2 : Own w' B u2 t2
  lg : g.length ≤ 50 ∧ Sml g
  lh : h.length ≤ 50 ∧ Sml h
  l1 : e1.length ≤ 50 ∧ Sml e1
  l2 : e2.length ≤ 50 ∧ Sml e2
  m1 : t1.length ≤ 50 ∧ Sml t1
  m2 : t2.length ≤ 50 ∧ Sml t2
  hp : 0 ≤ p ∧ p ≤ 5
  hq : 0 ≤ q ∧ q ≤ 5
def FourDr (R k d : Nat) (w : World) (e : Ending) (w' : World) : Prop :=
  ∃ p gv g q hv h s1 v1 e1 a1 u1 t1 s2 v2 e2 a2 u2 t2 k', e = .returned (.tuple #[.agg #[.int .i64 p, gv], .agg #[.int .i64 q, hv], .agg #[.int .i64 s1, v1, .int .i64 a1, u1], .agg #[.int .i64 s2, v2, .int .i64 a2, u2]]) ∧ Four w' w.heap.size p gv g q hv h s1 v1 e1 a1 u1 t1 s2 v2 e2 a2 u2 t2 ∧ k' ≤ k + d ∧ w.grownBy w' (some R) ∧ Rd w' R k'

set_option maxRecDepth 100000 in
set_option maxHeartbeats 6400000 in
theorem turns_any (R k : Nat) (w : World) (h : Rd w R k) (hk : k ≤ 60000) : Calls Tryd.prog 72 #[.pointer (some ⟨R, 0, none⟩)] w (FourDr R k 300 w) := by
  obtain ⟨w1, hw1⟩ : ∃ z, z = ((((w.alloc (.cells #[.int .i64 0, .slice none 0 0] 25)).alloc (.cells #[.int .i64 0, .slice none 0 0] 25)).alloc (.cells #[.int .i64 0, .slice none 0 0, .int .i64 0, .slice none 0 0] 50)).alloc (.cells #[.int .i64 0, .slice none 0 0, .int .i64 0, .slice none 0 0] 50)) := ⟨_, rfl⟩
  have D1 : Hid (Dx w R [(w.heap.size + 1 + 1 + 1, [.int .i64 0, .slice none 0 0, .int .i64 0, .slice none 0 0]), (w.heap.size + 1 + 1, [.int .i64 0, .slice none 0 0, .int .i64 0, .slice none 0 0]), (w.heap.size + 1, [.int .i64 0, .slice none 0 0]), (w.heap.size, [.int .i64 0, .slice none 0 0])] [] k w1) := Lib.hid (by
    rw [hw1]
    have h4 := ((((Dx.start h).box (T := 25) [.int .i64 0, .slice none 0 0]).box (T := 25) [.int .i64 0, .slice none 0 0]).box (T := 50) [.int .i64 0, .slice none 0 0, .int .i64 0, .slice none 0 0]).box (T := 50) [.int .i64 0, .slice none 0 0, .int .i64 0, .slice none 0 0]
    simpa using h4)
  have HW1 := Lib.hid hw1
  clear h hw1
  go_enter Tryd.func72, Tryd.ntmps72
  go_wp2_with fail
  rw [← HW1.out]
  refine (two_any _ _ 20 _ D1.out.rd (by omega) (by omega)).mono ?_
  rintro e w2 ⟨p, gv, g, q, hv, hs, ov, os, k2, rfl, tw, hk2, hg, hr⟩
  have D2 := Lib.hid (D1.out.mades (L'' := [(gv, g), (hv, hs), (ov, os)]) hg hr (fun x m => by
    simp at m
    rcases m with rfl | rfl | rfl
    · exact tw.og
    · exact tw.oh
    · exact tw.oo))
  obtain ⟨ga, gc, e1⟩ := Own.form tw.og
  obtain ⟨ha, hc9, e2⟩ := Own.form tw.oh
  obtain ⟨oa, oc, e3⟩ := Own.form tw.oo
  obtain ⟨m, m1, m5, hod⟩ := tw.od
  have hom : os.length = m := by have := hod.len; omega
  have HG := Lib.hid (show g.length ≤ 50 ∧ Sml g from ⟨tw.lg, tw.sg⟩)
  have HH := Lib.hid (show hs.length ≤ 50 ∧ Sml hs from ⟨tw.lh, tw.sh⟩)
  have HO := Lib.hid (od_dr hod)
  have HP := Lib.hid (show 0 ≤ p ∧ p ≤ 5 from ⟨tw.p0, tw.p5⟩)
  have HQ := Lib.hid (show 0 ≤ q ∧ q ≤ 5 from ⟨tw.q0, tw.q5⟩)
  have IP : Hid (intIn p) := Lib.hid ⟨by have := tw.p0; omega, by have := tw.p5; omega⟩
  have IQ : Hid (intIn q) := Lib.hid ⟨by have := tw.q0; omega, by have := tw.q5; omega⟩
  subst e1 e2 e3
  have HN6 : Hid (w.heap.size + 1 + 1 + 1 < w2.heap.size) := Lib.hid ((D2.out.bx _ (.head _)).2.lt)
  obtain ⟨gn, hgn⟩ : ∃ gn, g.length = gn := ⟨_, rfl⟩
  obtain ⟨hn, hhn⟩ : ∃ gn, hs.length = gn := ⟨_, rfl⟩
  rw [hgn, hhn, hom] at D2
  rw [hgn, hhn, hom]
  have HMX : Hid (g.length ≤ maxLen ∧ hs.length ≤ maxLen ∧ os.length ≤ maxLen) := Lib.hid ⟨fits60 HG.out.1, fits60 HH.out.1, fits60 HO.out.1⟩
  have HNU : Hid ((∀ j, j < g.length → intIn (nth g j)) ∧ ∀ j, j < hs.length → intIn (nth hs j)) := Lib.hid ⟨fun j hj => by have := HG.out.2 j hj; exact ⟨by omega, by omega⟩, fun j hj => by have := HH.out.2 j hj; exact ⟨by omega, by omega⟩⟩
  clear hg hr tw hod hom hgn hhn D1 HW1
  obtain ⟨w3, hw3⟩ : ∃ z, z = (w2.alloc (.cells #[.int .i64 p, .slice ga gn gc] 25)).alloc (.cells #[.int .i64 q, .slice ha hn hc9] 25) := ⟨_, rfl⟩
  have D3 : Hid (Dx w R ((w2.heap.size + 1, [.int .i64 q, .slice ha hn hc9]) :: (w2.heap.size, [.int .i64 p, .slice ga gn gc]) :: [(w.heap.size + 1 + 1 + 1, [.int .i64 0, .slice none 0 0, .int .i64 0, .slice none 0 0]), (w.heap.size + 1 + 1, [.int .i64 0, .slice none 0 0, .int .i64 0, .slice none 0 0]), (w.heap.size + 1, [.int .i64 0, .slice none 0 0]), (w.heap.size, [.int .i64 0, .slice none 0 0])]) [(.slice ga gn gc, g), (.slice ha hn hc9, hs), (.slice oa m oc, os)] k2 w3) := Lib.hid (by
    have h1 := (D2.out.box (T := 25) [.int .i64 p, .slice ga gn gc]).box (T := 25) [.int .i64 q, .slice ha hn hc9]
    rw [show (w2.alloc (.cells [.int .i64 p, .slice ga gn gc].toArray 25)).heap.size = w2.heap.size + 1 by simp] at h1
    rw [hw3]; exact h1)
  have HZ3 : Hid (w3.heap.size = w2.heap.size + 1 + 1) := Lib.hid (by rw [hw3]; simp)
  have HW3 := Lib.hid hw3
  clear hw3 D2
  have HT := Lib.hid (drord_any _ _ m 0 w3 D3.out.rd (by omega) m1 m5 (by omega))
  go_wp2_with fail
  rw [← HW3.out]
  refine HT.out.mono ?_
  rintro e w4 ⟨fv, fs, k4, rfl, ow, hl, hsm, _, hk4, hg, hr⟩
  have D4 := Lib.hid (D3.out.made hg hr ow)
  have HFS := Lib.hid (show fs.length ≤ 50 ∧ Sml fs from ⟨by omega, small_sml hsm⟩)
  have HMF : Hid (fs.length ≤ maxLen) := Lib.hid (fits60 HFS.out.1)
  have HZ4 := Lib.hid hg.size
  obtain ⟨fa, fc, e4⟩ := Own.form ow
  subst e4
  clear ow hg hr hl hsm HT D3 HW3
  obtain ⟨P1, hP1⟩ : ∃ r, ofPx p g q hs os fs 0 = r := ⟨_, rfl⟩
  obtain ⟨E1, hE1⟩ : ∃ r, ofEx p g q hs os fs 0 = r := ⟨_, rfl⟩
  obtain ⟨I1, hI1⟩ : ∃ r, ofNx p g q hs os fs 0 = r := ⟨_, rfl⟩
  obtain ⟨Y1, hY1⟩ : ∃ r, ofYx p g q hs os fs 0 = r := ⟨_, rfl⟩
  obtain ⟨BB0, hBB0⟩ : ∃ r, ofT p g q hs os fs 0 = r := ⟨_, rfl⟩
  have HS0 := Lib.hid (of_small p g q hs os fs 0 HP.out.1 HP.out.2 (by omega) (by omega))
  rw [hP1, hE1, hI1, hY1] at HS0
  have HP1 := Lib.hid hP1
  have HE1 := Lib.hid hE1
  have HI1 := Lib.hid hI1
  have HY1 := Lib.hid hY1
  have HBB0 := Lib.hid hBB0
  clear hP1 hE1 hI1 hY1 hBB0
  have q6_0 := (D4.out.bx _ (.tail _ (.head _))).2.cell 0
  have q6_1 := (D4.out.bx _ (.tail _ (.head _))).2.cell 1
  have q7_0 := (D4.out.bx _ (.head _)).2.cell 0
  have q7_1 := (D4.out.bx _ (.head _)).2.cell 1
  simp at q6_0 q6_1 q7_0 q7_1
  go_wp2_with fail
  refine ((stof_any p q 0 _ _ _ _ g hs os fs _ (Ints.of_own (D4.out.ls _ (.tail _ (.head _))) HMX.out.1) (Ints.of_own (D4.out.ls _ (.tail _ (.tail _ (.head _)))) HMX.out.2.1) (Ints.of_own (D4.out.ls _ (.tail _ (.tail _ (.tail _ (.head _))))) HMX.out.2.2) (Ints.of_own (D4.out.ls _ (.head _)) HMF.out) IP.out IQ.out HNU.out.1 HNU.out.2).mono fun _ _ h => h.x).mono ?_
  rintro e w5 ⟨v9, u9, rfl, oo, o2, oa9, hb⟩
  rw [HE1.out] at oo
  rw [HY1.out] at o2
  rw [HP1.out, HI1.out, HBB0.out]
  obtain ⟨A1, C1, ef⟩ := Own.form oo
  obtain ⟨B1, D1, eg⟩ := Own.form o2
  subst ef eg
  have D5a := Lib.hid (D4.out.mades (L'' := [(.slice A1 E1.length C1, E1), (.slice B1 Y1.length D1, Y1)]) (grown_below R hb) (D4.out.rd.below hb) (fun x m => by
    simp at m
    rcases m with rfl | rfl
    · exact oo
    · exact o2))
  have HZ1 := Lib.hid hb.size
  clear oo o2 oa9 hb q6_0 q6_1 q7_0 q7_1 D4
  obtain ⟨w6, hw6⟩ : ∃ z, z = w5.alloc (.cells #[.int .i64 P1, .slice A1 E1.length C1, .int .i64 I1, .slice B1 Y1.length D1] 50) := ⟨_, rfl⟩
  have D5 := Lib.hid (D5a.out.box (T := 50) [.int .i64 P1, .slice A1 E1.length C1, .int .i64 I1, .slice B1 Y1.length D1])
  rw [show w5.alloc (.cells [.int .i64 P1, .slice A1 E1.length C1, .int .i64 I1, .slice B1 Y1.length D1].toArray 50) = w6 from hw6.symm] at D5
  have HY1 : Hid (w6.heap.size = w5.heap.size + 1) := Lib.hid (by rw [hw6]; simp)
  have Hw6 := Lib.hid hw6
  clear hw6 D5a
  obtain ⟨P2, hP2⟩ : ∃ r, ofPx p g q hs os fs 1 = r := ⟨_, rfl⟩
  obtain ⟨E2, hE2⟩ : ∃ r, ofEx p g q hs os fs 1 = r := ⟨_, rfl⟩
  obtain ⟨I2, hI2⟩ : ∃ r, ofNx p g q hs os fs 1 = r := ⟨_, rfl⟩
  obtain ⟨Y2, hY2⟩ : ∃ r, ofYx p g q hs os fs 1 = r := ⟨_, rfl⟩
  obtain ⟨BB1, hBB1⟩ : ∃ r, ofT p g q hs os fs 1 = r := ⟨_, rfl⟩
  have HS1 := Lib.hid (of_small p g q hs os fs 1 HP.out.1 HP.out.2 (by omega) (by omega))
  rw [hP2, hE2, hI2, hY2] at HS1
  have HP2 := Lib.hid hP2
  have HE2 := Lib.hid hE2
  have HI2 := Lib.hid hI2
  have HY2 := Lib.hid hY2
  have HBB1 := Lib.hid hBB1
  clear hP2 hE2 hI2 hY2 hBB1
  have q6_0 := (D5.out.bx _ (.tail _ (.tail _ (.head _)))).2.cell 0
  have q6_1 := (D5.out.bx _ (.tail _ (.tail _ (.head _)))).2.cell 1
  have q7_0 := (D5.out.bx _ (.tail _ (.head _))).2.cell 0
  have q7_1 := (D5.out.bx _ (.tail _ (.head _))).2.cell 1
  simp at q6_0 q6_1 q7_0 q7_1
  rw [Hw6.out] at q6_0 q6_1 q7_0 q7_1
  go_wp2_with fail
  rw [← Hw6.out]
  refine ((stof_any p q 1 _ _ _ _ g hs os fs _ (Ints.of_own (D5.out.ls _ (.tail _ (.tail _ (.tail _ (.head _))))) HMX.out.1) (Ints.of_own (D5.out.ls _ (.tail _ (.tail _ (.tail _ (.tail _ (.head _)))))) HMX.out.2.1) (Ints.of_own (D5.out.ls _ (.tail _ (.tail _ (.tail _ (.tail _ (.tail _ (.head _))))))) HMX.out.2.2) (Ints.of_own (D5.out.ls _ (.tail _ (.tail _ (.head _)))) HMF.out) IP.out IQ.out HNU.out.1 HNU.out.2).mono fun _ _ h => h.x).mono ?_
  rintro e w7 ⟨v9, u9, rfl, oo, o2, oa9, hb⟩
  rw [HE2.out] at oo
  rw [HY2.out] at o2
  rw [HP2.out, HI2.out, HBB1.out]
  obtain ⟨A2, C2, ef⟩ := Own.form oo
  obtain ⟨B2, D2, eg⟩ := Own.form o2
  subst ef eg
  have D6a := Lib.hid (D5.out.mades (L'' := [(.slice A2 E2.length C2, E2), (.slice B2 Y2.length D2, Y2)]) (grown_below R hb) (D5.out.rd.below hb) (fun x m => by
    simp at m
    rcases m with rfl | rfl
    · exact oo
    · exact o2))
  have HZ2 := Lib.hid hb.size
  clear oo o2 oa9 hb q6_0 q6_1 q7_0 q7_1 D5
  obtain ⟨w8, hw8⟩ : ∃ z, z = w7.alloc (.cells #[.int .i64 P2, .slice A2 E2.length C2, .int .i64 I2, .slice B2 Y2.length D2] 50) := ⟨_, rfl⟩
  have D6 := Lib.hid (D6a.out.box (T := 50) [.int .i64 P2, .slice A2 E2.length C2, .int .i64 I2, .slice B2 Y2.length D2])
  rw [show w7.alloc (.cells [.int .i64 P2, .slice A2 E2.length C2, .int .i64 I2, .slice B2 Y2.length D2].toArray 50) = w8 from hw8.symm] at D6
  have HY2 : Hid (w8.heap.size = w7.heap.size + 1) := Lib.hid (by rw [hw8]; simp)
  have Hw8 := Lib.hid hw8
  clear hw8 D6a
  go_wp2_with fail
  rw [← Hw8.out]
  refine (odd_any R _ 6 _ D6.out.rd (by omega) (by omega) (by omega)).mono ?_
  rintro e w10 ⟨bbw10, rfl, mmw10, hw⟩
  have D7 := Lib.hid (D6.out.next hw)
  clear hw
  cases bbw10
  · skip
    go_wp2_with fail
    refine (odd_any R _ 6 _ D7.out.rd (by omega) (by omega) (by omega)).mono ?_
    rintro e w11 ⟨bbw11, rfl, mmw11, hw⟩
    have D8 := Lib.hid (D7.out.next hw)
    clear hw
    cases bbw11
    · skip
      go_wp2_with fail
      apply wp_region_H (Z := List (Nat × List Value)) (S := fun k => k == 4 || k == 5 || k == 6 || k == 7) (C := fun z w' => Hid (Dx w R ((w7.heap.size, [.int .i64 P2, .slice A2 E2.length C2, .int .i64 I2, .slice B2 Y2.length D2]) :: (w5.heap.size, [.int .i64 P1, .slice A1 E1.length C1, .int .i64 I1, .slice B1 Y1.length D1]) :: (w2.heap.size + 1, [.int .i64 q, .slice ha hn hc9]) :: (w2.heap.size, [.int .i64 p, .slice ga gn gc]) :: z) [(.slice A2 E2.length C2, E2), (.slice B2 Y2.length D2, Y2), (.slice A1 E1.length C1, E1), (.slice B1 Y1.length D1, Y1), (.slice fa fs.length fc, fs), (.slice ga gn gc, g), (.slice ha hn hc9, hs), (.slice oa m oc, os)] (k4 + 1 + 1) w')) [0, 1, 2, 3] [(w.heap.size + 1 + 1 + 1, [.int .i64 0, .slice none 0 0, .int .i64 0, .slice none 0 0]), (w.heap.size + 1 + 1, [.int .i64 0, .slice none 0 0, .int .i64 0, .slice none 0 0]), (w.heap.size + 1, [.int .i64 0, .slice none 0 0]), (w.heap.size, [.int .i64 0, .slice none 0 0])]
      · kernel_rfl
      · kernel_rfl
      · kernel_rfl
      · exact ⟨rfl, rfl, rfl, rfl, trivial⟩
      · rfl
      · decide
      · exact Lib.hid (D8.out.on (Below.refl _ _).drew)
      · intro z
        dsimp only [pickL, nthO]
        go_big_quiet_want
        go_big_quiet_op
        refine ⟨.agg #[.int .i64 p, .slice ga gn gc], fun w' hw' => ?_, ?_⟩
        · have q9 := (hw'.out.bx _ (.tail _ (.tail _ (.tail _ (.head _))))).2
          have q0 := q9.cell 0
          have q1 := q9.cell 1
          simp at q0 q1
          simp [go_sem, q0, q1]
        go_big_quiet_on
        go_big_quiet_want
        go_big_quiet_op
        refine ⟨.agg #[.int .i64 q, .slice ha hn hc9], fun w' hw' => ?_, ?_⟩
        · have q9 := (hw'.out.bx _ (.tail _ (.tail _ (.head _)))).2
          have q0 := q9.cell 0
          have q1 := q9.cell 1
          simp at q0 q1
          simp [go_sem, q0, q1]
        go_big_quiet_on
        go_big_quiet_want
        go_big_quiet_op
        refine ⟨.agg #[.int .i64 P1, .slice A1 E1.length C1, .int .i64 I1, .slice B1 Y1.length D1], fun w' hw' => ?_, ?_⟩
        · have q9 := (hw'.out.bx _ (.tail _ (.head _))).2
          have q0 := q9.cell 0
          have q1 := q9.cell 1
          have q2 := q9.cell 2
          have q3 := q9.cell 3
          simp at q0 q1 q2 q3
          simp [go_sem, q0, q1, q2, q3]
        go_big_quiet_on
        go_big_quiet_want
        go_big_quiet_op
        refine ⟨.agg #[.int .i64 P2, .slice A2 E2.length C2, .int .i64 I2, .slice B2 Y2.length D2], fun w' hw' => ?_, ?_⟩
        · have q9 := (hw'.out.bx _ (.head _)).2
          have q0 := q9.cell 0
          have q1 := q9.cell 1
          have q2 := q9.cell 2
          have q3 := q9.cell 3
          simp at q0 q1 q2 q3
          simp [go_sem, q0, q1, q2, q3]
        go_big_quiet_on
        exact wpQuiet_nil rfl
      · skip
        refine wpAnyH_special (i := 4) (d := none) rfl (by kernel_rfl) rfl rfl (by kernel_rfl) fun we he => ?_
        have kb := (he.out.bx _ (.tail _ (.tail _ (.tail _ (.tail _ (.tail _ (.tail _ (.tail _ (.head _))))))))).2
        have k0 := kb.cell 0; have f0 := kb.frozen 0
        have k1 := kb.cell 1; have f1 := kb.frozen 1
        simp at k0 k1
        refine ⟨undef, ((we.setCell ⟨w.heap.size, 0, none⟩ (.int .i64 p)).setCell ⟨w.heap.size, 1, none⟩ (.slice ga gn gc)), [(w.heap.size + 1 + 1 + 1, [.int .i64 0, .slice none 0 0, .int .i64 0, .slice none 0 0]), (w.heap.size + 1 + 1, [.int .i64 0, .slice none 0 0, .int .i64 0, .slice none 0 0]), (w.heap.size + 1, [.int .i64 0, .slice none 0 0]), (w.heap.size, [.int .i64 p, .slice ga gn gc])], .inr ⟨by simp [go_sem, k0, k1, f0, f1], rfl⟩, Lib.hid ((he.out.putAt (B1 := ((w7.heap.size, [.int .i64 P2, .slice A2 E2.length C2, .int .i64 I2, .slice B2 Y2.length D2]) :: (w5.heap.size, [.int .i64 P1, .slice A1 E1.length C1, .int .i64 I1, .slice B1 Y1.length D1]) :: (w2.heap.size + 1, [.int .i64 q, .slice ha hn hc9]) :: (w2.heap.size, [.int .i64 p, .slice ga gn gc]) :: [(w.heap.size + 1 + 1 + 1, [.int .i64 0, .slice none 0 0, .int .i64 0, .slice none 0 0]), (w.heap.size + 1 + 1, [.int .i64 0, .slice none 0 0, .int .i64 0, .slice none 0 0]), (w.heap.size + 1, [.int .i64 0, .slice none 0 0])])) (B2 := []) (fun b mb => by simp at mb; have n6 := HN6.out; have z3 := HZ3.out; have z4 := HZ4.out; have z1 := HZ1.out; have y1 := HY1.out; have z2 := HZ2.out; rcases mb with rfl | rfl | rfl | rfl | rfl | rfl | rfl <;> (dsimp only; omega)) 0 _).putAt (B1 := ((w7.heap.size, [.int .i64 P2, .slice A2 E2.length C2, .int .i64 I2, .slice B2 Y2.length D2]) :: (w5.heap.size, [.int .i64 P1, .slice A1 E1.length C1, .int .i64 I1, .slice B1 Y1.length D1]) :: (w2.heap.size + 1, [.int .i64 q, .slice ha hn hc9]) :: (w2.heap.size, [.int .i64 p, .slice ga gn gc]) :: [(w.heap.size + 1 + 1 + 1, [.int .i64 0, .slice none 0 0, .int .i64 0, .slice none 0 0]), (w.heap.size + 1 + 1, [.int .i64 0, .slice none 0 0, .int .i64 0, .slice none 0 0]), (w.heap.size + 1, [.int .i64 0, .slice none 0 0])])) (B2 := []) (fun b mb => by simp at mb; have n6 := HN6.out; have z3 := HZ3.out; have z4 := HZ4.out; have z1 := HZ1.out; have y1 := HY1.out; have z2 := HZ2.out; rcases mb with rfl | rfl | rfl | rfl | rfl | rfl | rfl <;> (dsimp only; omega)) 1 _), ?_⟩
        clear he kb k0 k1 f0 f1
        refine wpAnyH_special (i := 5) (d := none) rfl (by kernel_rfl) rfl rfl (by kernel_rfl) fun we he => ?_
        have kb := (he.out.bx _ (.tail _ (.tail _ (.tail _ (.tail _ (.tail _ (.tail _ (.head _)))))))).2
        have k0 := kb.cell 0; have f0 := kb.frozen 0
        have k1 := kb.cell 1; have f1 := kb.frozen 1
        simp at k0 k1
        refine ⟨undef, ((we.setCell ⟨w.heap.size + 1, 0, none⟩ (.int .i64 q)).setCell ⟨w.heap.size + 1, 1, none⟩ (.slice ha hn hc9)), [(w.heap.size + 1 + 1 + 1, [.int .i64 0, .slice none 0 0, .int .i64 0, .slice none 0 0]), (w.heap.size + 1 + 1, [.int .i64 0, .slice none 0 0, .int .i64 0, .slice none 0 0]), (w.heap.size + 1, [.int .i64 q, .slice ha hn hc9]), (w.heap.size, [.int .i64 p, .slice ga gn gc])], .inr ⟨by simp [go_sem, Act.put, k0, k1, f0, f1], rfl⟩, Lib.hid ((he.out.putAt (B1 := ((w7.heap.size, [.int .i64 P2, .slice A2 E2.length C2, .int .i64 I2, .slice B2 Y2.length D2]) :: (w5.heap.size, [.int .i64 P1, .slice A1 E1.length C1, .int .i64 I1, .slice B1 Y1.length D1]) :: (w2.heap.size + 1, [.int .i64 q, .slice ha hn hc9]) :: (w2.heap.size, [.int .i64 p, .slice ga gn gc]) :: [(w.heap.size + 1 + 1 + 1, [.int .i64 0, .slice none 0 0, .int .i64 0, .slice none 0 0]), (w.heap.size + 1 + 1, [.int .i64 0, .slice none 0 0, .int .i64 0, .slice none 0 0])])) (B2 := [(w.heap.size, [.int .i64 p, .slice ga gn gc])]) (fun b mb => by simp at mb; have n6 := HN6.out; have z3 := HZ3.out; have z4 := HZ4.out; have z1 := HZ1.out; have y1 := HY1.out; have z2 := HZ2.out; rcases mb with rfl | rfl | rfl | rfl | rfl | rfl | rfl <;> (dsimp only; omega)) 0 _).putAt (B1 := ((w7.heap.size, [.int .i64 P2, .slice A2 E2.length C2, .int .i64 I2, .slice B2 Y2.length D2]) :: (w5.heap.size, [.int .i64 P1, .slice A1 E1.length C1, .int .i64 I1, .slice B1 Y1.length D1]) :: (w2.heap.size + 1, [.int .i64 q, .slice ha hn hc9]) :: (w2.heap.size, [.int .i64 p, .slice ga gn gc]) :: [(w.heap.size + 1 + 1 + 1, [.int .i64 0, .slice none 0 0, .int .i64 0, .slice none 0 0]), (w.heap.size + 1 + 1, [.int .i64 0, .slice none 0 0, .int .i64 0, .slice none 0 0])])) (B2 := [(w.heap.size, [.int .i64 p, .slice ga gn gc])]) (fun b mb => by simp at mb; have n6 := HN6.out; have z3 := HZ3.out; have z4 := HZ4.out; have z1 := HZ1.out; have y1 := HY1.out; have z2 := HZ2.out; rcases mb with rfl | rfl | rfl | rfl | rfl | rfl | rfl <;> (dsimp only; omega)) 1 _), ?_⟩
        clear he kb k0 k1 f0 f1
        refine wpAnyH_special (i := 6) (d := none) rfl (by kernel_rfl) rfl rfl (by kernel_rfl) fun we he => ?_
        have kb := (he.out.bx _ (.tail _ (.tail _ (.tail _ (.tail _ (.tail _ (.head _))))))).2
        have k0 := kb.cell 0; have f0 := kb.frozen 0
        have k1 := kb.cell 1; have f1 := kb.frozen 1
        have k2 := kb.cell 2; have f2 := kb.frozen 2
        have k3 := kb.cell 3; have f3 := kb.frozen 3
        simp at k0 k1 k2 k3
        refine ⟨undef, ((((we.setCell ⟨w.heap.size + 1 + 1, 0, none⟩ (.int .i64 P1)).setCell ⟨w.heap.size + 1 + 1, 1, none⟩ (.slice A1 E1.length C1)).setCell ⟨w.heap.size + 1 + 1, 2, none⟩ (.int .i64 I1)).setCell ⟨w.heap.size + 1 + 1, 3, none⟩ (.slice B1 Y1.length D1)), [(w.heap.size + 1 + 1 + 1, [.int .i64 0, .slice none 0 0, .int .i64 0, .slice none 0 0]), (w.heap.size + 1 + 1, [.int .i64 P1, .slice A1 E1.length C1, .int .i64 I1, .slice B1 Y1.length D1]), (w.heap.size + 1, [.int .i64 q, .slice ha hn hc9]), (w.heap.size, [.int .i64 p, .slice ga gn gc])], .inr ⟨by simp [go_sem, Act.put, k0, k1, k2, k3, f0, f1, f2, f3], rfl⟩, Lib.hid ((((he.out.putAt (B1 := ((w7.heap.size, [.int .i64 P2, .slice A2 E2.length C2, .int .i64 I2, .slice B2 Y2.length D2]) :: (w5.heap.size, [.int .i64 P1, .slice A1 E1.length C1, .int .i64 I1, .slice B1 Y1.length D1]) :: (w2.heap.size + 1, [.int .i64 q, .slice ha hn hc9]) :: (w2.heap.size, [.int .i64 p, .slice ga gn gc]) :: [(w.heap.size + 1 + 1 + 1, [.int .i64 0, .slice none 0 0, .int .i64 0, .slice none 0 0])])) (B2 := [(w.heap.size + 1, [.int .i64 q, .slice ha hn hc9]), (w.heap.size, [.int .i64 p, .slice ga gn gc])]) (fun b mb => by simp at mb; have n6 := HN6.out; have z3 := HZ3.out; have z4 := HZ4.out; have z1 := HZ1.out; have y1 := HY1.out; have z2 := HZ2.out; rcases mb with rfl | rfl | rfl | rfl | rfl | rfl | rfl <;> (dsimp only; omega)) 0 _).putAt (B1 := ((w7.heap.size, [.int .i64 P2, .slice A2 E2.length C2, .int .i64 I2, .slice B2 Y2.length D2]) :: (w5.heap.size, [.int .i64 P1, .slice A1 E1.length C1, .int .i64 I1, .slice B1 Y1.length D1]) :: (w2.heap.size + 1, [.int .i64 q, .slice ha hn hc9]) :: (w2.heap.size, [.int .i64 p, .slice ga gn gc]) :: [(w.heap.size + 1 + 1 + 1, [.int .i64 0, .slice none 0 0, .int .i64 0, .slice none 0 0])])) (B2 := [(w.heap.size + 1, [.int .i64 q, .slice ha hn hc9]), (w.heap.size, [.int .i64 p, .slice ga gn gc])]) (fun b mb => by simp at mb; have n6 := HN6.out; have z3 := HZ3.out; have z4 := HZ4.out; have z1 := HZ1.out; have y1 := HY1.out; have z2 := HZ2.out; rcases mb with rfl | rfl | rfl | rfl | rfl | rfl | rfl <;> (dsimp only; omega)) 1 _).putAt (B1 := ((w7.heap.size, [.int .i64 P2, .slice A2 E2.length C2, .int .i64 I2, .slice B2 Y2.length D2]) :: (w5.heap.size, [.int .i64 P1, .slice A1 E1.length C1, .int .i64 I1, .slice B1 Y1.length D1]) :: (w2.heap.size + 1, [.int .i64 q, .slice ha hn hc9]) :: (w2.heap.size, [.int .i64 p, .slice ga gn gc]) :: [(w.heap.size + 1 + 1 + 1, [.int .i64 0, .slice none 0 0, .int .i64 0, .slice none 0 0])])) (B2 := [(w.heap.size + 1, [.int .i64 q, .slice ha hn hc9]), (w.heap.size, [.int .i64 p, .slice ga gn gc])]) (fun b mb => by simp at mb; have n6 := HN6.out; have z3 := HZ3.out; have z4 := HZ4.out; have z1 := HZ1.out; have y1 := HY1.out; have z2 := HZ2.out; rcases mb with rfl | rfl | rfl | rfl | rfl | rfl | rfl <;> (dsimp only; omega)) 2 _).putAt (B1 := ((w7.heap.size, [.int .i64 P2, .slice A2 E2.length C2, .int .i64 I2, .slice B2 Y2.length D2]) :: (w5.heap.size, [.int .i64 P1, .slice A1 E1.length C1, .int .i64 I1, .slice B1 Y1.length D1]) :: (w2.heap.size + 1, [.int .i64 q, .slice ha hn hc9]) :: (w2.heap.size, [.int .i64 p, .slice ga gn gc]) :: [(w.heap.size + 1 + 1 + 1, [.int .i64 0, .slice none 0 0, .int .i64 0, .slice none 0 0])])) (B2 := [(w.heap.size + 1, [.int .i64 q, .slice ha hn hc9]), (w.heap.size, [.int .i64 p, .slice ga gn gc])]) (fun b mb => by simp at mb; have n6 := HN6.out; have z3 := HZ3.out; have z4 := HZ4.out; have z1 := HZ1.out; have y1 := HY1.out; have z2 := HZ2.out; rcases mb with rfl | rfl | rfl | rfl | rfl | rfl | rfl <;> (dsimp only; omega)) 3 _), ?_⟩
        clear he kb k0 k1 k2 k3 f0 f1 f2 f3
        refine wpAnyH_special (i := 7) (d := none) rfl (by kernel_rfl) rfl rfl (by kernel_rfl) fun we he => ?_
        have kb := (he.out.bx _ (.tail _ (.tail _ (.tail _ (.tail _ (.head _)))))).2
        have k0 := kb.cell 0; have f0 := kb.frozen 0
        have k1 := kb.cell 1; have f1 := kb.frozen 1
        have k2 := kb.cell 2; have f2 := kb.frozen 2
        have k3 := kb.cell 3; have f3 := kb.frozen 3
        simp at k0 k1 k2 k3
        refine ⟨undef, ((((we.setCell ⟨w.heap.size + 1 + 1 + 1, 0, none⟩ (.int .i64 P2)).setCell ⟨w.heap.size + 1 + 1 + 1, 1, none⟩ (.slice A2 E2.length C2)).setCell ⟨w.heap.size + 1 + 1 + 1, 2, none⟩ (.int .i64 I2)).setCell ⟨w.heap.size + 1 + 1 + 1, 3, none⟩ (.slice B2 Y2.length D2)), [(w.heap.size + 1 + 1 + 1, [.int .i64 P2, .slice A2 E2.length C2, .int .i64 I2, .slice B2 Y2.length D2]), (w.heap.size + 1 + 1, [.int .i64 P1, .slice A1 E1.length C1, .int .i64 I1, .slice B1 Y1.length D1]), (w.heap.size + 1, [.int .i64 q, .slice ha hn hc9]), (w.heap.size, [.int .i64 p, .slice ga gn gc])], .inr ⟨by simp [go_sem, Act.put, k0, k1, k2, k3, f0, f1, f2, f3], rfl⟩, Lib.hid ((((he.out.putAt (B1 := ((w7.heap.size, [.int .i64 P2, .slice A2 E2.length C2, .int .i64 I2, .slice B2 Y2.length D2]) :: (w5.heap.size, [.int .i64 P1, .slice A1 E1.length C1, .int .i64 I1, .slice B1 Y1.length D1]) :: (w2.heap.size + 1, [.int .i64 q, .slice ha hn hc9]) :: (w2.heap.size, [.int .i64 p, .slice ga gn gc]) :: [])) (B2 := [(w.heap.size + 1 + 1, [.int .i64 P1, .slice A1 E1.length C1, .int .i64 I1, .slice B1 Y1.length D1]), (w.heap.size + 1, [.int .i64 q, .slice ha hn hc9]), (w.heap.size, [.int .i64 p, .slice ga gn gc])]) (fun b mb => by simp at mb; have n6 := HN6.out; have z3 := HZ3.out; have z4 := HZ4.out; have z1 := HZ1.out; have y1 := HY1.out; have z2 := HZ2.out; rcases mb with rfl | rfl | rfl | rfl | rfl | rfl | rfl <;> (dsimp only; omega)) 0 _).putAt (B1 := ((w7.heap.size, [.int .i64 P2, .slice A2 E2.length C2, .int .i64 I2, .slice B2 Y2.length D2]) :: (w5.heap.size, [.int .i64 P1, .slice A1 E1.length C1, .int .i64 I1, .slice B1 Y1.length D1]) :: (w2.heap.size + 1, [.int .i64 q, .slice ha hn hc9]) :: (w2.heap.size, [.int .i64 p, .slice ga gn gc]) :: [])) (B2 := [(w.heap.size + 1 + 1, [.int .i64 P1, .slice A1 E1.length C1, .int .i64 I1, .slice B1 Y1.length D1]), (w.heap.size + 1, [.int .i64 q, .slice ha hn hc9]), (w.heap.size, [.int .i64 p, .slice ga gn gc])]) (fun b mb => by simp at mb; have n6 := HN6.out; have z3 := HZ3.out; have z4 := HZ4.out; have z1 := HZ1.out; have y1 := HY1.out; have z2 := HZ2.out; rcases mb with rfl | rfl | rfl | rfl | rfl | rfl | rfl <;> (dsimp only; omega)) 1 _).putAt (B1 := ((w7.heap.size, [.int .i64 P2, .slice A2 E2.length C2, .int .i64 I2, .slice B2 Y2.length D2]) :: (w5.heap.size, [.int .i64 P1, .slice A1 E1.length C1, .int .i64 I1, .slice B1 Y1.length D1]) :: (w2.heap.size + 1, [.int .i64 q, .slice ha hn hc9]) :: (w2.heap.size, [.int .i64 p, .slice ga gn gc]) :: [])) (B2 := [(w.heap.size + 1 + 1, [.int .i64 P1, .slice A1 E1.length C1, .int .i64 I1, .slice B1 Y1.length D1]), (w.heap.size + 1, [.int .i64 q, .slice ha hn hc9]), (w.heap.size, [.int .i64 p, .slice ga gn gc])]) (fun b mb => by simp at mb; have n6 := HN6.out; have z3 := HZ3.out; have z4 := HZ4.out; have z1 := HZ1.out; have y1 := HY1.out; have z2 := HZ2.out; rcases mb with rfl | rfl | rfl | rfl | rfl | rfl | rfl <;> (dsimp only; omega)) 2 _).putAt (B1 := ((w7.heap.size, [.int .i64 P2, .slice A2 E2.length C2, .int .i64 I2, .slice B2 Y2.length D2]) :: (w5.heap.size, [.int .i64 P1, .slice A1 E1.length C1, .int .i64 I1, .slice B1 Y1.length D1]) :: (w2.heap.size + 1, [.int .i64 q, .slice ha hn hc9]) :: (w2.heap.size, [.int .i64 p, .slice ga gn gc]) :: [])) (B2 := [(w.heap.size + 1 + 1, [.int .i64 P1, .slice A1 E1.length C1, .int .i64 I1, .slice B1 Y1.length D1]), (w.heap.size + 1, [.int .i64 q, .slice ha hn hc9]), (w.heap.size, [.int .i64 p, .slice ga gn gc])]) (fun b mb => by simp at mb; have n6 := HN6.out; have z3 := HZ3.out; have z4 := HZ4.out; have z1 := HZ1.out; have y1 := HY1.out; have z2 := HZ2.out; rcases mb with rfl | rfl | rfl | rfl | rfl | rfl | rfl <;> (dsimp only; omega)) 3 _), ?_⟩
        clear he kb k0 k1 k2 k3 f0 f1 f2 f3
        refine ⟨by kernel_rfl, fun w9 hz => ?_⟩
        simp only [Act.put]
        have r0_0 := (hz.out.bx _ (.tail _ (.tail _ (.tail _ (.tail _ (.tail _ (.tail _ (.tail _ (.head _))))))))).2.cell 0
        have r0_1 := (hz.out.bx _ (.tail _ (.tail _ (.tail _ (.tail _ (.tail _ (.tail _ (.tail _ (.head _))))))))).2.cell 1
        have r1_0 := (hz.out.bx _ (.tail _ (.tail _ (.tail _ (.tail _ (.tail _ (.tail _ (.head _)))))))).2.cell 0
        have r1_1 := (hz.out.bx _ (.tail _ (.tail _ (.tail _ (.tail _ (.tail _ (.tail _ (.head _)))))))).2.cell 1
        have r2_0 := (hz.out.bx _ (.tail _ (.tail _ (.tail _ (.tail _ (.tail _ (.head _))))))).2.cell 0
        have r2_1 := (hz.out.bx _ (.tail _ (.tail _ (.tail _ (.tail _ (.tail _ (.head _))))))).2.cell 1
        have r2_2 := (hz.out.bx _ (.tail _ (.tail _ (.tail _ (.tail _ (.tail _ (.head _))))))).2.cell 2
        have r2_3 := (hz.out.bx _ (.tail _ (.tail _ (.tail _ (.tail _ (.tail _ (.head _))))))).2.cell 3
        have r3_0 := (hz.out.bx _ (.tail _ (.tail _ (.tail _ (.tail _ (.head _)))))).2.cell 0
        have r3_1 := (hz.out.bx _ (.tail _ (.tail _ (.tail _ (.tail _ (.head _)))))).2.cell 1
        have r3_2 := (hz.out.bx _ (.tail _ (.tail _ (.tail _ (.tail _ (.head _)))))).2.cell 2
        have r3_3 := (hz.out.bx _ (.tail _ (.tail _ (.tail _ (.tail _ (.head _)))))).2.cell 3
        simp at r0_0 r0_1 r1_0 r1_1 r2_0 r2_1 r2_2 r2_3 r3_0 r3_1 r3_2 r3_3
        go_wp2
        refine bodyPost_ret (v := .tuple #[.agg #[.int .i64 p, .slice ga gn gc], .agg #[.int .i64 q, .slice ha hn hc9], .agg #[.int .i64 P1, .slice A1 E1.length C1, .int .i64 I1, .slice B1 Y1.length D1], .agg #[.int .i64 P2, .slice A2 E2.length C2, .int .i64 I2, .slice B2 Y2.length D2]]) ?_ rfl ?_
        · simp [results, Tryd.results72, go_sem, r0_0, r0_1, r1_0, r1_1, r2_0, r2_1, r2_2, r2_3, r3_0, r3_1, r3_2, r3_3]
        · exact ⟨p, _, g, q, _, hs, P1, _, E1, I1, _, Y1, P2, _, E2, I2, _, Y2, (k4 + 1 + 1), rfl, ⟨hz.out.ls _ (.tail _ (.tail _ (.tail _ (.tail _ (.tail _ (.head _)))))), hz.out.ls _ (.tail _ (.tail _ (.tail _ (.tail _ (.tail _ (.tail _ (.head _))))))), hz.out.ls _ (.tail _ (.tail _ (.head _))), hz.out.ls _ (.head _), hz.out.ls _ (.tail _ (.tail _ (.tail _ (.head _)))), hz.out.ls _ (.tail _ (.head _)), HG.out, HH.out, HS0.out.1, HS1.out.1, HS0.out.2.1, HS1.out.2.1, HP.out, HQ.out⟩, by omega, hz.out.gr, hz.out.rd⟩
    · skip
      go_wp2_with fail
      apply wp_region_H (Z := List (Nat × List Value)) (S := fun k => k == 4 || k == 5 || k == 6 || k == 7) (C := fun z w' => Hid (Dx w R ((w7.heap.size, [.int .i64 P2, .slice A2 E2.length C2, .int .i64 I2, .slice B2 Y2.length D2]) :: (w5.heap.size, [.int .i64 P1, .slice A1 E1.length C1, .int .i64 I1, .slice B1 Y1.length D1]) :: (w2.heap.size + 1, [.int .i64 q, .slice ha hn hc9]) :: (w2.heap.size, [.int .i64 p, .slice ga gn gc]) :: z) [(.slice A2 E2.length C2, E2), (.slice B2 Y2.length D2, Y2), (.slice A1 E1.length C1, E1), (.slice B1 Y1.length D1, Y1), (.slice fa fs.length fc, fs), (.slice ga gn gc, g), (.slice ha hn hc9, hs), (.slice oa m oc, os)] (k4 + 1 + 1) w')) [0, 1, 2, 3] [(w.heap.size + 1 + 1 + 1, [.int .i64 0, .slice none 0 0, .int .i64 0, .slice none 0 0]), (w.heap.size + 1 + 1, [.int .i64 0, .slice none 0 0, .int .i64 0, .slice none 0 0]), (w.heap.size + 1, [.int .i64 0, .slice none 0 0]), (w.heap.size, [.int .i64 0, .slice none 0 0])]
      · kernel_rfl
      · kernel_rfl
      · kernel_rfl
      · exact ⟨rfl, rfl, rfl, rfl, trivial⟩
      · rfl
      · decide
      · exact Lib.hid (D8.out.on (Below.refl _ _).drew)
      · intro z
        dsimp only [pickL, nthO]
        go_big_quiet_want
        go_big_quiet_op
        refine ⟨.agg #[.int .i64 p, .slice ga gn gc], fun w' hw' => ?_, ?_⟩
        · have q9 := (hw'.out.bx _ (.tail _ (.tail _ (.tail _ (.head _))))).2
          have q0 := q9.cell 0
          have q1 := q9.cell 1
          simp at q0 q1
          simp [go_sem, q0, q1]
        go_big_quiet_on
        go_big_quiet_want
        go_big_quiet_op
        refine ⟨.agg #[.int .i64 q, .slice ha hn hc9], fun w' hw' => ?_, ?_⟩
        · have q9 := (hw'.out.bx _ (.tail _ (.tail _ (.head _)))).2
          have q0 := q9.cell 0
          have q1 := q9.cell 1
          simp at q0 q1
          simp [go_sem, q0, q1]
        go_big_quiet_on
        go_big_quiet_want
        go_big_quiet_op
        refine ⟨.agg #[.int .i64 P2, .slice A2 E2.length C2, .int .i64 I2, .slice B2 Y2.length D2], fun w' hw' => ?_, ?_⟩
        · have q9 := (hw'.out.bx _ (.head _)).2
          have q0 := q9.cell 0
          have q1 := q9.cell 1
          have q2 := q9.cell 2
          have q3 := q9.cell 3
          simp at q0 q1 q2 q3
          simp [go_sem, q0, q1, q2, q3]
        go_big_quiet_on
        go_big_quiet_want
        go_big_quiet_op
        refine ⟨.agg #[.int .i64 P1, .slice A1 E1.length C1, .int .i64 I1, .slice B1 Y1.length D1], fun w' hw' => ?_, ?_⟩
        · have q9 := (hw'.out.bx _ (.tail _ (.head _))).2
          have q0 := q9.cell 0
          have q1 := q9.cell 1
          have q2 := q9.cell 2
          have q3 := q9.cell 3
          simp at q0 q1 q2 q3
          simp [go_sem, q0, q1, q2, q3]
        go_big_quiet_on
        exact wpQuiet_nil rfl
      · skip
        refine wpAnyH_special (i := 4) (d := none) rfl (by kernel_rfl) rfl rfl (by kernel_rfl) fun we he => ?_
        have kb := (he.out.bx _ (.tail _ (.tail _ (.tail _ (.tail _ (.tail _ (.tail _ (.tail _ (.head _))))))))).2
        have k0 := kb.cell 0; have f0 := kb.frozen 0
        have k1 := kb.cell 1; have f1 := kb.frozen 1
        simp at k0 k1
        refine ⟨undef, ((we.setCell ⟨w.heap.size, 0, none⟩ (.int .i64 p)).setCell ⟨w.heap.size, 1, none⟩ (.slice ga gn gc)), [(w.heap.size + 1 + 1 + 1, [.int .i64 0, .slice none 0 0, .int .i64 0, .slice none 0 0]), (w.heap.size + 1 + 1, [.int .i64 0, .slice none 0 0, .int .i64 0, .slice none 0 0]), (w.heap.size + 1, [.int .i64 0, .slice none 0 0]), (w.heap.size, [.int .i64 p, .slice ga gn gc])], .inr ⟨by simp [go_sem, k0, k1, f0, f1], rfl⟩, Lib.hid ((he.out.putAt (B1 := ((w7.heap.size, [.int .i64 P2, .slice A2 E2.length C2, .int .i64 I2, .slice B2 Y2.length D2]) :: (w5.heap.size, [.int .i64 P1, .slice A1 E1.length C1, .int .i64 I1, .slice B1 Y1.length D1]) :: (w2.heap.size + 1, [.int .i64 q, .slice ha hn hc9]) :: (w2.heap.size, [.int .i64 p, .slice ga gn gc]) :: [(w.heap.size + 1 + 1 + 1, [.int .i64 0, .slice none 0 0, .int .i64 0, .slice none 0 0]), (w.heap.size + 1 + 1, [.int .i64 0, .slice none 0 0, .int .i64 0, .slice none 0 0]), (w.heap.size + 1, [.int .i64 0, .slice none 0 0])])) (B2 := []) (fun b mb => by simp at mb; have n6 := HN6.out; have z3 := HZ3.out; have z4 := HZ4.out; have z1 := HZ1.out; have y1 := HY1.out; have z2 := HZ2.out; rcases mb with rfl | rfl | rfl | rfl | rfl | rfl | rfl <;> (dsimp only; omega)) 0 _).putAt (B1 := ((w7.heap.size, [.int .i64 P2, .slice A2 E2.length C2, .int .i64 I2, .slice B2 Y2.length D2]) :: (w5.heap.size, [.int .i64 P1, .slice A1 E1.length C1, .int .i64 I1, .slice B1 Y1.length D1]) :: (w2.heap.size + 1, [.int .i64 q, .slice ha hn hc9]) :: (w2.heap.size, [.int .i64 p, .slice ga gn gc]) :: [(w.heap.size + 1 + 1 + 1, [.int .i64 0, .slice none 0 0, .int .i64 0, .slice none 0 0]), (w.heap.size + 1 + 1, [.int .i64 0, .slice none 0 0, .int .i64 0, .slice none 0 0]), (w.heap.size + 1, [.int .i64 0, .slice none 0 0])])) (B2 := []) (fun b mb => by simp at mb; have n6 := HN6.out; have z3 := HZ3.out; have z4 := HZ4.out; have z1 := HZ1.out; have y1 := HY1.out; have z2 := HZ2.out; rcases mb with rfl | rfl | rfl | rfl | rfl | rfl | rfl <;> (dsimp only; omega)) 1 _), ?_⟩
        clear he kb k0 k1 f0 f1
        refine wpAnyH_special (i := 5) (d := none) rfl (by kernel_rfl) rfl rfl (by kernel_rfl) fun we he => ?_
        have kb := (he.out.bx _ (.tail _ (.tail _ (.tail _ (.tail _ (.tail _ (.tail _ (.head _)))))))).2
        have k0 := kb.cell 0; have f0 := kb.frozen 0
        have k1 := kb.cell 1; have f1 := kb.frozen 1
        simp at k0 k1
        refine ⟨undef, ((we.setCell ⟨w.heap.size + 1, 0, none⟩ (.int .i64 q)).setCell ⟨w.heap.size + 1, 1, none⟩ (.slice ha hn hc9)), [(w.heap.size + 1 + 1 + 1, [.int .i64 0, .slice none 0 0, .int .i64 0, .slice none 0 0]), (w.heap.size + 1 + 1, [.int .i64 0, .slice none 0 0, .int .i64 0, .slice none 0 0]), (w.heap.size + 1, [.int .i64 q, .slice ha hn hc9]), (w.heap.size, [.int .i64 p, .slice ga gn gc])], .inr ⟨by simp [go_sem, Act.put, k0, k1, f0, f1], rfl⟩, Lib.hid ((he.out.putAt (B1 := ((w7.heap.size, [.int .i64 P2, .slice A2 E2.length C2, .int .i64 I2, .slice B2 Y2.length D2]) :: (w5.heap.size, [.int .i64 P1, .slice A1 E1.length C1, .int .i64 I1, .slice B1 Y1.length D1]) :: (w2.heap.size + 1, [.int .i64 q, .slice ha hn hc9]) :: (w2.heap.size, [.int .i64 p, .slice ga gn gc]) :: [(w.heap.size + 1 + 1 + 1, [.int .i64 0, .slice none 0 0, .int .i64 0, .slice none 0 0]), (w.heap.size + 1 + 1, [.int .i64 0, .slice none 0 0, .int .i64 0, .slice none 0 0])])) (B2 := [(w.heap.size, [.int .i64 p, .slice ga gn gc])]) (fun b mb => by simp at mb; have n6 := HN6.out; have z3 := HZ3.out; have z4 := HZ4.out; have z1 := HZ1.out; have y1 := HY1.out; have z2 := HZ2.out; rcases mb with rfl | rfl | rfl | rfl | rfl | rfl | rfl <;> (dsimp only; omega)) 0 _).putAt (B1 := ((w7.heap.size, [.int .i64 P2, .slice A2 E2.length C2, .int .i64 I2, .slice B2 Y2.length D2]) :: (w5.heap.size, [.int .i64 P1, .slice A1 E1.length C1, .int .i64 I1, .slice B1 Y1.length D1]) :: (w2.heap.size + 1, [.int .i64 q, .slice ha hn hc9]) :: (w2.heap.size, [.int .i64 p, .slice ga gn gc]) :: [(w.heap.size + 1 + 1 + 1, [.int .i64 0, .slice none 0 0, .int .i64 0, .slice none 0 0]), (w.heap.size + 1 + 1, [.int .i64 0, .slice none 0 0, .int .i64 0, .slice none 0 0])])) (B2 := [(w.heap.size, [.int .i64 p, .slice ga gn gc])]) (fun b mb => by simp at mb; have n6 := HN6.out; have z3 := HZ3.out; have z4 := HZ4.out; have z1 := HZ1.out; have y1 := HY1.out; have z2 := HZ2.out; rcases mb with rfl | rfl | rfl | rfl | rfl | rfl | rfl <;> (dsimp only; omega)) 1 _), ?_⟩
        clear he kb k0 k1 f0 f1
        refine wpAnyH_special (i := 6) (d := none) rfl (by kernel_rfl) rfl rfl (by kernel_rfl) fun we he => ?_
        have kb := (he.out.bx _ (.tail _ (.tail _ (.tail _ (.tail _ (.tail _ (.head _))))))).2
        have k0 := kb.cell 0; have f0 := kb.frozen 0
        have k1 := kb.cell 1; have f1 := kb.frozen 1
        have k2 := kb.cell 2; have f2 := kb.frozen 2
        have k3 := kb.cell 3; have f3 := kb.frozen 3
        simp at k0 k1 k2 k3
        refine ⟨undef, ((((we.setCell ⟨w.heap.size + 1 + 1, 0, none⟩ (.int .i64 P2)).setCell ⟨w.heap.size + 1 + 1, 1, none⟩ (.slice A2 E2.length C2)).setCell ⟨w.heap.size + 1 + 1, 2, none⟩ (.int .i64 I2)).setCell ⟨w.heap.size + 1 + 1, 3, none⟩ (.slice B2 Y2.length D2)), [(w.heap.size + 1 + 1 + 1, [.int .i64 0, .slice none 0 0, .int .i64 0, .slice none 0 0]), (w.heap.size + 1 + 1, [.int .i64 P2, .slice A2 E2.length C2, .int .i64 I2, .slice B2 Y2.length D2]), (w.heap.size + 1, [.int .i64 q, .slice ha hn hc9]), (w.heap.size, [.int .i64 p, .slice ga gn gc])], .inr ⟨by simp [go_sem, Act.put, k0, k1, k2, k3, f0, f1, f2, f3], rfl⟩, Lib.hid ((((he.out.putAt (B1 := ((w7.heap.size, [.int .i64 P2, .slice A2 E2.length C2, .int .i64 I2, .slice B2 Y2.length D2]) :: (w5.heap.size, [.int .i64 P1, .slice A1 E1.length C1, .int .i64 I1, .slice B1 Y1.length D1]) :: (w2.heap.size + 1, [.int .i64 q, .slice ha hn hc9]) :: (w2.heap.size, [.int .i64 p, .slice ga gn gc]) :: [(w.heap.size + 1 + 1 + 1, [.int .i64 0, .slice none 0 0, .int .i64 0, .slice none 0 0])])) (B2 := [(w.heap.size + 1, [.int .i64 q, .slice ha hn hc9]), (w.heap.size, [.int .i64 p, .slice ga gn gc])]) (fun b mb => by simp at mb; have n6 := HN6.out; have z3 := HZ3.out; have z4 := HZ4.out; have z1 := HZ1.out; have y1 := HY1.out; have z2 := HZ2.out; rcases mb with rfl | rfl | rfl | rfl | rfl | rfl | rfl <;> (dsimp only; omega)) 0 _).putAt (B1 := ((w7.heap.size, [.int .i64 P2, .slice A2 E2.length C2, .int .i64 I2, .slice B2 Y2.length D2]) :: (w5.heap.size, [.int .i64 P1, .slice A1 E1.length C1, .int .i64 I1, .slice B1 Y1.length D1]) :: (w2.heap.size + 1, [.int .i64 q, .slice ha hn hc9]) :: (w2.heap.size, [.int .i64 p, .slice ga gn gc]) :: [(w.heap.size + 1 + 1 + 1, [.int .i64 0, .slice none 0 0, .int .i64 0, .slice none 0 0])])) (B2 := [(w.heap.size + 1, [.int .i64 q, .slice ha hn hc9]), (w.heap.size, [.int .i64 p, .slice ga gn gc])]) (fun b mb => by simp at mb; have n6 := HN6.out; have z3 := HZ3.out; have z4 := HZ4.out; have z1 := HZ1.out; have y1 := HY1.out; have z2 := HZ2.out; rcases mb with rfl | rfl | rfl | rfl | rfl | rfl | rfl <;> (dsimp only; omega)) 1 _).putAt (B1 := ((w7.heap.size, [.int .i64 P2, .slice A2 E2.length C2, .int .i64 I2, .slice B2 Y2.length D2]) :: (w5.heap.size, [.int .i64 P1, .slice A1 E1.length C1, .int .i64 I1, .slice B1 Y1.length D1]) :: (w2.heap.size + 1, [.int .i64 q, .slice ha hn hc9]) :: (w2.heap.size, [.int .i64 p, .slice ga gn gc]) :: [(w.heap.size + 1 + 1 + 1, [.int .i64 0, .slice none 0 0, .int .i64 0, .slice none 0 0])])) (B2 := [(w.heap.size + 1, [.int .i64 q, .slice ha hn hc9]), (w.heap.size, [.int .i64 p, .slice ga gn gc])]) (fun b mb => by simp at mb; have n6 := HN6.out; have z3 := HZ3.out; have z4 := HZ4.out; have z1 := HZ1.out; have y1 := HY1.out; have z2 := HZ2.out; rcases mb with rfl | rfl | rfl | rfl | rfl | rfl | rfl <;> (dsimp only; omega)) 2 _).putAt (B1 := ((w7.heap.size, [.int .i64 P2, .slice A2 E2.length C2, .int .i64 I2, .slice B2 Y2.length D2]) :: (w5.heap.size, [.int .i64 P1, .slice A1 E1.length C1, .int .i64 I1, .slice B1 Y1.length D1]) :: (w2.heap.size + 1, [.int .i64 q, .slice ha hn hc9]) :: (w2.heap.size, [.int .i64 p, .slice ga gn gc]) :: [(w.heap.size + 1 + 1 + 1, [.int .i64 0, .slice none 0 0, .int .i64 0, .slice none 0 0])])) (B2 := [(w.heap.size + 1, [.int .i64 q, .slice ha hn hc9]), (w.heap.size, [.int .i64 p, .slice ga gn gc])]) (fun b mb => by simp at mb; have n6 := HN6.out; have z3 := HZ3.out; have z4 := HZ4.out; have z1 := HZ1.out; have y1 := HY1.out; have z2 := HZ2.out; rcases mb with rfl | rfl | rfl | rfl | rfl | rfl | rfl <;> (dsimp only; omega)) 3 _), ?_⟩
        clear he kb k0 k1 k2 k3 f0 f1 f2 f3
        refine wpAnyH_special (i := 7) (d := none) rfl (by kernel_rfl) rfl rfl (by kernel_rfl) fun we he => ?_
        have kb := (he.out.bx _ (.tail _ (.tail _ (.tail _ (.tail _ (.head _)))))).2
        have k0 := kb.cell 0; have f0 := kb.frozen 0
        have k1 := kb.cell 1; have f1 := kb.frozen 1
        have k2 := kb.cell 2; have f2 := kb.frozen 2
        have k3 := kb.cell 3; have f3 := kb.frozen 3
        simp at k0 k1 k2 k3
        refine ⟨undef, ((((we.setCell ⟨w.heap.size + 1 + 1 + 1, 0, none⟩ (.int .i64 P1)).setCell ⟨w.heap.size + 1 + 1 + 1, 1, none⟩ (.slice A1 E1.length C1)).setCell ⟨w.heap.size + 1 + 1 + 1, 2, none⟩ (.int .i64 I1)).setCell ⟨w.heap.size + 1 + 1 + 1, 3, none⟩ (.slice B1 Y1.length D1)), [(w.heap.size + 1 + 1 + 1, [.int .i64 P1, .slice A1 E1.length C1, .int .i64 I1, .slice B1 Y1.length D1]), (w.heap.size + 1 + 1, [.int .i64 P2, .slice A2 E2.length C2, .int .i64 I2, .slice B2 Y2.length D2]), (w.heap.size + 1, [.int .i64 q, .slice ha hn hc9]), (w.heap.size, [.int .i64 p, .slice ga gn gc])], .inr ⟨by simp [go_sem, Act.put, k0, k1, k2, k3, f0, f1, f2, f3], rfl⟩, Lib.hid ((((he.out.putAt (B1 := ((w7.heap.size, [.int .i64 P2, .slice A2 E2.length C2, .int .i64 I2, .slice B2 Y2.length D2]) :: (w5.heap.size, [.int .i64 P1, .slice A1 E1.length C1, .int .i64 I1, .slice B1 Y1.length D1]) :: (w2.heap.size + 1, [.int .i64 q, .slice ha hn hc9]) :: (w2.heap.size, [.int .i64 p, .slice ga gn gc]) :: [])) (B2 := [(w.heap.size + 1 + 1, [.int .i64 P2, .slice A2 E2.length C2, .int .i64 I2, .slice B2 Y2.length D2]), (w.heap.size + 1, [.int .i64 q, .slice ha hn hc9]), (w.heap.size, [.int .i64 p, .slice ga gn gc])]) (fun b mb => by simp at mb; have n6 := HN6.out; have z3 := HZ3.out; have z4 := HZ4.out; have z1 := HZ1.out; have y1 := HY1.out; have z2 := HZ2.out; rcases mb with rfl | rfl | rfl | rfl | rfl | rfl | rfl <;> (dsimp only; omega)) 0 _).putAt (B1 := ((w7.heap.size, [.int .i64 P2, .slice A2 E2.length C2, .int .i64 I2, .slice B2 Y2.length D2]) :: (w5.heap.size, [.int .i64 P1, .slice A1 E1.length C1, .int .i64 I1, .slice B1 Y1.length D1]) :: (w2.heap.size + 1, [.int .i64 q, .slice ha hn hc9]) :: (w2.heap.size, [.int .i64 p, .slice ga gn gc]) :: [])) (B2 := [(w.heap.size + 1 + 1, [.int .i64 P2, .slice A2 E2.length C2, .int .i64 I2, .slice B2 Y2.length D2]), (w.heap.size + 1, [.int .i64 q, .slice ha hn hc9]), (w.heap.size, [.int .i64 p, .slice ga gn gc])]) (fun b mb => by simp at mb; have n6 := HN6.out; have z3 := HZ3.out; have z4 := HZ4.out; have z1 := HZ1.out; have y1 := HY1.out; have z2 := HZ2.out; rcases mb with rfl | rfl | rfl | rfl | rfl | rfl | rfl <;> (dsimp only; omega)) 1 _).putAt (B1 := ((w7.heap.size, [.int .i64 P2, .slice A2 E2.length C2, .int .i64 I2, .slice B2 Y2.length D2]) :: (w5.heap.size, [.int .i64 P1, .slice A1 E1.length C1, .int .i64 I1, .slice B1 Y1.length D1]) :: (w2.heap.size + 1, [.int .i64 q, .slice ha hn hc9]) :: (w2.heap.size, [.int .i64 p, .slice ga gn gc]) :: [])) (B2 := [(w.heap.size + 1 + 1, [.int .i64 P2, .slice A2 E2.length C2, .int .i64 I2, .slice B2 Y2.length D2]), (w.heap.size + 1, [.int .i64 q, .slice ha hn hc9]), (w.heap.size, [.int .i64 p, .slice ga gn gc])]) (fun b mb => by simp at mb; have n6 := HN6.out; have z3 := HZ3.out; have z4 := HZ4.out; have z1 := HZ1.out; have y1 := HY1.out; have z2 := HZ2.out; rcases mb with rfl | rfl | rfl | rfl | rfl | rfl | rfl <;> (dsimp only; omega)) 2 _).putAt (B1 := ((w7.heap.size, [.int .i64 P2, .slice A2 E2.length C2, .int .i64 I2, .slice B2 Y2.length D2]) :: (w5.heap.size, [.int .i64 P1, .slice A1 E1.length C1, .int .i64 I1, .slice B1 Y1.length D1]) :: (w2.heap.size + 1, [.int .i64 q, .slice ha hn hc9]) :: (w2.heap.size, [.int .i64 p, .slice ga gn gc]) :: [])) (B2 := [(w.heap.size + 1 + 1, [.int .i64 P2, .slice A2 E2.length C2, .int .i64 I2, .slice B2 Y2.length D2]), (w.heap.size + 1, [.int .i64 q, .slice ha hn hc9]), (w.heap.size, [.int .i64 p, .slice ga gn gc])]) (fun b mb => by simp at mb; have n6 := HN6.out; have z3 := HZ3.out; have z4 := HZ4.out; have z1 := HZ1.out; have y1 := HY1.out; have z2 := HZ2.out; rcases mb with rfl | rfl | rfl | rfl | rfl | rfl | rfl <;> (dsimp only; omega)) 3 _), ?_⟩
        clear he kb k0 k1 k2 k3 f0 f1 f2 f3
        refine ⟨by kernel_rfl, fun w9 hz => ?_⟩
        simp only [Act.put]
        have r0_0 := (hz.out.bx _ (.tail _ (.tail _ (.tail _ (.tail _ (.tail _ (.tail _ (.tail _ (.head _))))))))).2.cell 0
        have r0_1 := (hz.out.bx _ (.tail _ (.tail _ (.tail _ (.tail _ (.tail _ (.tail _ (.tail _ (.head _))))))))).2.cell 1
        have r1_0 := (hz.out.bx _ (.tail _ (.tail _ (.tail _ (.tail _ (.tail _ (.tail _ (.head _)))))))).2.cell 0
        have r1_1 := (hz.out.bx _ (.tail _ (.tail _ (.tail _ (.tail _ (.tail _ (.tail _ (.head _)))))))).2.cell 1
        have r2_0 := (hz.out.bx _ (.tail _ (.tail _ (.tail _ (.tail _ (.tail _ (.head _))))))).2.cell 0
        have r2_1 := (hz.out.bx _ (.tail _ (.tail _ (.tail _ (.tail _ (.tail _ (.head _))))))).2.cell 1
        have r2_2 := (hz.out.bx _ (.tail _ (.tail _ (.tail _ (.tail _ (.tail _ (.head _))))))).2.cell 2
        have r2_3 := (hz.out.bx _ (.tail _ (.tail _ (.tail _ (.tail _ (.tail _ (.head _))))))).2.cell 3
        have r3_0 := (hz.out.bx _ (.tail _ (.tail _ (.tail _ (.tail _ (.head _)))))).2.cell 0
        have r3_1 := (hz.out.bx _ (.tail _ (.tail _ (.tail _ (.tail _ (.head _)))))).2.cell 1
        have r3_2 := (hz.out.bx _ (.tail _ (.tail _ (.tail _ (.tail _ (.head _)))))).2.cell 2
        have r3_3 := (hz.out.bx _ (.tail _ (.tail _ (.tail _ (.tail _ (.head _)))))).2.cell 3
        simp at r0_0 r0_1 r1_0 r1_1 r2_0 r2_1 r2_2 r2_3 r3_0 r3_1 r3_2 r3_3
        go_wp2
        refine bodyPost_ret (v := .tuple #[.agg #[.int .i64 p, .slice ga gn gc], .agg #[.int .i64 q, .slice ha hn hc9], .agg #[.int .i64 P2, .slice A2 E2.length C2, .int .i64 I2, .slice B2 Y2.length D2], .agg #[.int .i64 P1, .slice A1 E1.length C1, .int .i64 I1, .slice B1 Y1.length D1]]) ?_ rfl ?_
        · simp [results, Tryd.results72, go_sem, r0_0, r0_1, r1_0, r1_1, r2_0, r2_1, r2_2, r2_3, r3_0, r3_1, r3_2, r3_3]
        · exact ⟨p, _, g, q, _, hs, P2, _, E2, I2, _, Y2, P1, _, E1, I1, _, Y1, (k4 + 1 + 1), rfl, ⟨hz.out.ls _ (.tail _ (.tail _ (.tail _ (.tail _ (.tail _ (.head _)))))), hz.out.ls _ (.tail _ (.tail _ (.tail _ (.tail _ (.tail _ (.tail _ (.head _))))))), hz.out.ls _ (.head _), hz.out.ls _ (.tail _ (.tail _ (.head _))), hz.out.ls _ (.tail _ (.head _)), hz.out.ls _ (.tail _ (.tail _ (.tail _ (.head _)))), HG.out, HH.out, HS1.out.1, HS0.out.1, HS1.out.2.1, HS0.out.2.1, HP.out, HQ.out⟩, by omega, hz.out.gr, hz.out.rd⟩
  · have HT := Lib.hid (drord_any _ _ m 9 w10 D7.out.rd (by omega) m1 m5 (by omega))
    go_wp2_with fail
    refine HT.out.mono ?_
    rintro e w12 ⟨zv, zs, k12, rfl, ow, hl, hsm, _, hk12, hg, hr⟩
    have D8 := Lib.hid (D7.out.made hg hr ow)
    have HZL := Lib.hid (show zs.length ≤ 50 ∧ Sml zs from ⟨by omega, small_sml hsm⟩)
    obtain ⟨za, zc, e4⟩ := Own.form ow
    subst e4
    clear ow hg hr hl hsm HT D7
    have q3 := (D8.out.bx _ (.tail _ (.head _))).2.cell 3
    have f3 := (D8.out.bx _ (.tail _ (.head _))).2.frozen 3
    simp at q3
    have D9 := Lib.hid (D8.out.putAt (B1 := [(w7.heap.size, [.int .i64 P2, .slice A2 E2.length C2, .int .i64 I2, .slice B2 Y2.length D2])]) (B2 := (w2.heap.size + 1, [.int .i64 q, .slice ha hn hc9]) :: (w2.heap.size, [.int .i64 p, .slice ga gn gc]) :: [(w.heap.size + 1 + 1 + 1, [.int .i64 0, .slice none 0 0, .int .i64 0, .slice none 0 0]), (w.heap.size + 1 + 1, [.int .i64 0, .slice none 0 0, .int .i64 0, .slice none 0 0]), (w.heap.size + 1, [.int .i64 0, .slice none 0 0]), (w.heap.size, [.int .i64 0, .slice none 0 0])]) (fun b mb => by simp at mb; have n6 := HN6.out; have z3 := HZ3.out; have z4 := HZ4.out; have z1 := HZ1.out; have y1 := HY1.out; have z2 := HZ2.out; rcases mb with rfl | rfl | rfl | rfl | rfl | rfl | rfl <;> (dsimp only; omega)) 3 (.slice za zs.length zc))
    clear D8
    go_wp2_with fail
    obtain ⟨w13, hw13⟩ : ∃ z, z = w12.setCell ⟨w5.heap.size, 3, none⟩ (.slice za zs.length zc) := ⟨_, rfl⟩
    rw [← hw13] at D9 ⊢
    clear q3 f3 hw13
    refine (odd_any R _ 6 _ D9.out.rd (by omega) (by omega) (by omega)).mono ?_
    rintro e w11 ⟨bbw11, rfl, mmw11, hw⟩
    have D10 := Lib.hid (D9.out.next hw)
    clear hw D9
    cases bbw11
    · skip
      go_wp2_with fail
      apply wp_region_H (Z := List (Nat × List Value)) (S := fun k => k == 4 || k == 5 || k == 6 || k == 7) (C := fun z w' => Hid (Dx w R ((w7.heap.size, [.int .i64 P2, .slice A2 E2.length C2, .int .i64 I2, .slice B2 Y2.length D2]) :: (w5.heap.size, [.int .i64 P1, .slice A1 E1.length C1, .int .i64 I1, .slice za zs.length zc]) :: (w2.heap.size + 1, [.int .i64 q, .slice ha hn hc9]) :: (w2.heap.size, [.int .i64 p, .slice ga gn gc]) :: z) ((.slice za zs.length zc, zs) :: [(.slice A2 E2.length C2, E2), (.slice B2 Y2.length D2, Y2), (.slice A1 E1.length C1, E1), (.slice B1 Y1.length D1, Y1), (.slice fa fs.length fc, fs), (.slice ga gn gc, g), (.slice ha hn hc9, hs), (.slice oa m oc, os)]) (k12 + 1) w')) [0, 1, 2, 3] [(w.heap.size + 1 + 1 + 1, [.int .i64 0, .slice none 0 0, .int .i64 0, .slice none 0 0]), (w.heap.size + 1 + 1, [.int .i64 0, .slice none 0 0, .int .i64 0, .slice none 0 0]), (w.heap.size + 1, [.int .i64 0, .slice none 0 0]), (w.heap.size, [.int .i64 0, .slice none 0 0])]
      · kernel_rfl
      · kernel_rfl
      · kernel_rfl
      · exact ⟨rfl, rfl, rfl, rfl, trivial⟩
      · rfl
      · decide
      · exact Lib.hid (D10.out.on (Below.refl _ _).drew)
      · intro z
        dsimp only [pickL, nthO]
        go_big_quiet_want
        go_big_quiet_op
        refine ⟨.agg #[.int .i64 p, .slice ga gn gc], fun w' hw' => ?_, ?_⟩
        · have q9 := (hw'.out.bx _ (.tail _ (.tail _ (.tail _ (.head _))))).2
          have q0 := q9.cell 0
          have q1 := q9.cell 1
          simp at q0 q1
          simp [go_sem, q0, q1]
        go_big_quiet_on
        go_big_quiet_want
        go_big_quiet_op
        refine ⟨.agg #[.int .i64 q, .slice ha hn hc9], fun w' hw' => ?_, ?_⟩
        · have q9 := (hw'.out.bx _ (.tail _ (.tail _ (.head _)))).2
          have q0 := q9.cell 0
          have q1 := q9.cell 1
          simp at q0 q1
          simp [go_sem, q0, q1]
        go_big_quiet_on
        go_big_quiet_want
        go_big_quiet_op
        refine ⟨.agg #[.int .i64 P1, .slice A1 E1.length C1, .int .i64 I1, .slice za zs.length zc], fun w' hw' => ?_, ?_⟩
        · have q9 := (hw'.out.bx _ (.tail _ (.head _))).2
          have q0 := q9.cell 0
          have q1 := q9.cell 1
          have q2 := q9.cell 2
          have q3 := q9.cell 3
          simp at q0 q1 q2 q3
          simp [go_sem, q0, q1, q2, q3]
        go_big_quiet_on
        go_big_quiet_want
        go_big_quiet_op
        refine ⟨.agg #[.int .i64 P2, .slice A2 E2.length C2, .int .i64 I2, .slice B2 Y2.length D2], fun w' hw' => ?_, ?_⟩
        · have q9 := (hw'.out.bx _ (.head _)).2
          have q0 := q9.cell 0
          have q1 := q9.cell 1
          have q2 := q9.cell 2
          have q3 := q9.cell 3
          simp at q0 q1 q2 q3
          simp [go_sem, q0, q1, q2, q3]
        go_big_quiet_on
        exact wpQuiet_nil rfl
      · skip
        refine wpAnyH_special (i := 4) (d := none) rfl (by kernel_rfl) rfl rfl (by kernel_rfl) fun we he => ?_
        have kb := (he.out.bx _ (.tail _ (.tail _ (.tail _ (.tail _ (.tail _ (.tail _ (.tail _ (.head _))))))))).2
        have k0 := kb.cell 0; have f0 := kb.frozen 0
        have k1 := kb.cell 1; have f1 := kb.frozen 1
        simp at k0 k1
        refine ⟨undef, ((we.setCell ⟨w.heap.size, 0, none⟩ (.int .i64 p)).setCell ⟨w.heap.size, 1, none⟩ (.slice ga gn gc)), [(w.heap.size + 1 + 1 + 1, [.int .i64 0, .slice none 0 0, .int .i64 0, .slice none 0 0]), (w.heap.size + 1 + 1, [.int .i64 0, .slice none 0 0, .int .i64 0, .slice none 0 0]), (w.heap.size + 1, [.int .i64 0, .slice none 0 0]), (w.heap.size, [.int .i64 p, .slice ga gn gc])], .inr ⟨by simp [go_sem, k0, k1, f0, f1], rfl⟩, Lib.hid ((he.out.putAt (B1 := ((w7.heap.size, [.int .i64 P2, .slice A2 E2.length C2, .int .i64 I2, .slice B2 Y2.length D2]) :: (w5.heap.size, [.int .i64 P1, .slice A1 E1.length C1, .int .i64 I1, .slice za zs.length zc]) :: (w2.heap.size + 1, [.int .i64 q, .slice ha hn hc9]) :: (w2.heap.size, [.int .i64 p, .slice ga gn gc]) :: [(w.heap.size + 1 + 1 + 1, [.int .i64 0, .slice none 0 0, .int .i64 0, .slice none 0 0]), (w.heap.size + 1 + 1, [.int .i64 0, .slice none 0 0, .int .i64 0, .slice none 0 0]), (w.heap.size + 1, [.int .i64 0, .slice none 0 0])])) (B2 := []) (fun b mb => by simp at mb; have n6 := HN6.out; have z3 := HZ3.out; have z4 := HZ4.out; have z1 := HZ1.out; have y1 := HY1.out; have z2 := HZ2.out; rcases mb with rfl | rfl | rfl | rfl | rfl | rfl | rfl <;> (dsimp only; omega)) 0 _).putAt (B1 := ((w7.heap.size, [.int .i64 P2, .slice A2 E2.length C2, .int .i64 I2, .slice B2 Y2.length D2]) :: (w5.heap.size, [.int .i64 P1, .slice A1 E1.length C1, .int .i64 I1, .slice za zs.length zc]) :: (w2.heap.size + 1, [.int .i64 q, .slice ha hn hc9]) :: (w2.heap.size, [.int .i64 p, .slice ga gn gc]) :: [(w.heap.size + 1 + 1 + 1, [.int .i64 0, .slice none 0 0, .int .i64 0, .slice none 0 0]), (w.heap.size + 1 + 1, [.int .i64 0, .slice none 0 0, .int .i64 0, .slice none 0 0]), (w.heap.size + 1, [.int .i64 0, .slice none 0 0])])) (B2 := []) (fun b mb => by simp at mb; have n6 := HN6.out; have z3 := HZ3.out; have z4 := HZ4.out; have z1 := HZ1.out; have y1 := HY1.out; have z2 := HZ2.out; rcases mb with rfl | rfl | rfl | rfl | rfl | rfl | rfl <;> (dsimp only; omega)) 1 _), ?_⟩
        clear he kb k0 k1 f0 f1
        refine wpAnyH_special (i := 5) (d := none) rfl (by kernel_rfl) rfl rfl (by kernel_rfl) fun we he => ?_
        have kb := (he.out.bx _ (.tail _ (.tail _ (.tail _ (.tail _ (.tail _ (.tail _ (.head _)))))))).2
        have k0 := kb.cell 0; have f0 := kb.frozen 0
        have k1 := kb.cell 1; have f1 := kb.frozen 1
        simp at k0 k1
        refine ⟨undef, ((we.setCell ⟨w.heap.size + 1, 0, none⟩ (.int .i64 q)).setCell ⟨w.heap.size + 1, 1, none⟩ (.slice ha hn hc9)), [(w.heap.size + 1 + 1 + 1, [.int .i64 0, .slice none 0 0, .int .i64 0, .slice none 0 0]), (w.heap.size + 1 + 1, [.int .i64 0, .slice none 0 0, .int .i64 0, .slice none 0 0]), (w.heap.size + 1, [.int .i64 q, .slice ha hn hc9]), (w.heap.size, [.int .i64 p, .slice ga gn gc])], .inr ⟨by simp [go_sem, Act.put, k0, k1, f0, f1], rfl⟩, Lib.hid ((he.out.putAt (B1 := ((w7.heap.size, [.int .i64 P2, .slice A2 E2.length C2, .int .i64 I2, .slice B2 Y2.length D2]) :: (w5.heap.size, [.int .i64 P1, .slice A1 E1.length C1, .int .i64 I1, .slice za zs.length zc]) :: (w2.heap.size + 1, [.int .i64 q, .slice ha hn hc9]) :: (w2.heap.size, [.int .i64 p, .slice ga gn gc]) :: [(w.heap.size + 1 + 1 + 1, [.int .i64 0, .slice none 0 0, .int .i64 0, .slice none 0 0]), (w.heap.size + 1 + 1, [.int .i64 0, .slice none 0 0, .int .i64 0, .slice none 0 0])])) (B2 := [(w.heap.size, [.int .i64 p, .slice ga gn gc])]) (fun b mb => by simp at mb; have n6 := HN6.out; have z3 := HZ3.out; have z4 := HZ4.out; have z1 := HZ1.out; have y1 := HY1.out; have z2 := HZ2.out; rcases mb with rfl | rfl | rfl | rfl | rfl | rfl | rfl <;> (dsimp only; omega)) 0 _).putAt (B1 := ((w7.heap.size, [.int .i64 P2, .slice A2 E2.length C2, .int .i64 I2, .slice B2 Y2.length D2]) :: (w5.heap.size, [.int .i64 P1, .slice A1 E1.length C1, .int .i64 I1, .slice za zs.length zc]) :: (w2.heap.size + 1, [.int .i64 q, .slice ha hn hc9]) :: (w2.heap.size, [.int .i64 p, .slice ga gn gc]) :: [(w.heap.size + 1 + 1 + 1, [.int .i64 0, .slice none 0 0, .int .i64 0, .slice none 0 0]), (w.heap.size + 1 + 1, [.int .i64 0, .slice none 0 0, .int .i64 0, .slice none 0 0])])) (B2 := [(w.heap.size, [.int .i64 p, .slice ga gn gc])]) (fun b mb => by simp at mb; have n6 := HN6.out; have z3 := HZ3.out; have z4 := HZ4.out; have z1 := HZ1.out; have y1 := HY1.out; have z2 := HZ2.out; rcases mb with rfl | rfl | rfl | rfl | rfl | rfl | rfl <;> (dsimp only; omega)) 1 _), ?_⟩
        clear he kb k0 k1 f0 f1
        refine wpAnyH_special (i := 6) (d := none) rfl (by kernel_rfl) rfl rfl (by kernel_rfl) fun we he => ?_
        have kb := (he.out.bx _ (.tail _ (.tail _ (.tail _ (.tail _ (.tail _ (.head _))))))).2
        have k0 := kb.cell 0; have f0 := kb.frozen 0
        have k1 := kb.cell 1; have f1 := kb.frozen 1
        have k2 := kb.cell 2; have f2 := kb.frozen 2
        have k3 := kb.cell 3; have f3 := kb.frozen 3
        simp at k0 k1 k2 k3
        refine ⟨undef, ((((we.setCell ⟨w.heap.size + 1 + 1, 0, none⟩ (.int .i64 P1)).setCell ⟨w.heap.size + 1 + 1, 1, none⟩ (.slice A1 E1.length C1)).setCell ⟨w.heap.size + 1 + 1, 2, none⟩ (.int .i64 I1)).setCell ⟨w.heap.size + 1 + 1, 3, none⟩ (.slice za zs.length zc)), [(w.heap.size + 1 + 1 + 1, [.int .i64 0, .slice none 0 0, .int .i64 0, .slice none 0 0]), (w.heap.size + 1 + 1, [.int .i64 P1, .slice A1 E1.length C1, .int .i64 I1, .slice za zs.length zc]), (w.heap.size + 1, [.int .i64 q, .slice ha hn hc9]), (w.heap.size, [.int .i64 p, .slice ga gn gc])], .inr ⟨by simp [go_sem, Act.put, k0, k1, k2, k3, f0, f1, f2, f3], rfl⟩, Lib.hid ((((he.out.putAt (B1 := ((w7.heap.size, [.int .i64 P2, .slice A2 E2.length C2, .int .i64 I2, .slice B2 Y2.length D2]) :: (w5.heap.size, [.int .i64 P1, .slice A1 E1.length C1, .int .i64 I1, .slice za zs.length zc]) :: (w2.heap.size + 1, [.int .i64 q, .slice ha hn hc9]) :: (w2.heap.size, [.int .i64 p, .slice ga gn gc]) :: [(w.heap.size + 1 + 1 + 1, [.int .i64 0, .slice none 0 0, .int .i64 0, .slice none 0 0])])) (B2 := [(w.heap.size + 1, [.int .i64 q, .slice ha hn hc9]), (w.heap.size, [.int .i64 p, .slice ga gn gc])]) (fun b mb => by simp at mb; have n6 := HN6.out; have z3 := HZ3.out; have z4 := HZ4.out; have z1 := HZ1.out; have y1 := HY1.out; have z2 := HZ2.out; rcases mb with rfl | rfl | rfl | rfl | rfl | rfl | rfl <;> (dsimp only; omega)) 0 _).putAt (B1 := ((w7.heap.size, [.int .i64 P2, .slice A2 E2.length C2, .int .i64 I2, .slice B2 Y2.length D2]) :: (w5.heap.size, [.int .i64 P1, .slice A1 E1.length C1, .int .i64 I1, .slice za zs.length zc]) :: (w2.heap.size + 1, [.int .i64 q, .slice ha hn hc9]) :: (w2.heap.size, [.int .i64 p, .slice ga gn gc]) :: [(w.heap.size + 1 + 1 + 1, [.int .i64 0, .slice none 0 0, .int .i64 0, .slice none 0 0])])) (B2 := [(w.heap.size + 1, [.int .i64 q, .slice ha hn hc9]), (w.heap.size, [.int .i64 p, .slice ga gn gc])]) (fun b mb => by simp at mb; have n6 := HN6.out; have z3 := HZ3.out; have z4 := HZ4.out; have z1 := HZ1.out; have y1 := HY1.out; have z2 := HZ2.out; rcases mb with rfl | rfl | rfl | rfl | rfl | rfl | rfl <;> (dsimp only; omega)) 1 _).putAt (B1 := ((w7.heap.size, [.int .i64 P2, .slice A2 E2.length C2, .int .i64 I2, .slice B2 Y2.length D2]) :: (w5.heap.size, [.int .i64 P1, .slice A1 E1.length C1, .int .i64 I1, .slice za zs.length zc]) :: (w2.heap.size + 1, [.int .i64 q, .slice ha hn hc9]) :: (w2.heap.size, [.int .i64 p, .slice ga gn gc]) :: [(w.heap.size + 1 + 1 + 1, [.int .i64 0, .slice none 0 0, .int .i64 0, .slice none 0 0])])) (B2 := [(w.heap.size + 1, [.int .i64 q, .slice ha hn hc9]), (w.heap.size, [.int .i64 p, .slice ga gn gc])]) (fun b mb => by simp at mb; have n6 := HN6.out; have z3 := HZ3.out; have z4 := HZ4.out; have z1 := HZ1.out; have y1 := HY1.out; have z2 := HZ2.out; rcases mb with rfl | rfl | rfl | rfl | rfl | rfl | rfl <;> (dsimp only; omega)) 2 _).putAt (B1 := ((w7.heap.size, [.int .i64 P2, .slice A2 E2.length C2, .int .i64 I2, .slice B2 Y2.length D2]) :: (w5.heap.size, [.int .i64 P1, .slice A1 E1.length C1, .int .i64 I1, .slice za zs.length zc]) :: (w2.heap.size + 1, [.int .i64 q, .slice ha hn hc9]) :: (w2.heap.size, [.int .i64 p, .slice ga gn gc]) :: [(w.heap.size + 1 + 1 + 1, [.int .i64 0, .slice none 0 0, .int .i64 0, .slice none 0 0])])) (B2 := [(w.heap.size + 1, [.int .i64 q, .slice ha hn hc9]), (w.heap.size, [.int .i64 p, .slice ga gn gc])]) (fun b mb => by simp at mb; have n6 := HN6.out; have z3 := HZ3.out; have z4 := HZ4.out; have z1 := HZ1.out; have y1 := HY1.out; have z2 := HZ2.out; rcases mb with rfl | rfl | rfl | rfl | rfl | rfl | rfl <;> (dsimp only; omega)) 3 _), ?_⟩
        clear he kb k0 k1 k2 k3 f0 f1 f2 f3
        refine wpAnyH_special (i := 7) (d := none) rfl (by kernel_rfl) rfl rfl (by kernel_rfl) fun we he => ?_
        have kb := (he.out.bx _ (.tail _ (.tail _ (.tail _ (.tail _ (.head _)))))).2
        have k0 := kb.cell 0; have f0 := kb.frozen 0
        have k1 := kb.cell 1; have f1 := kb.frozen 1
        have k2 := kb.cell 2; have f2 := kb.frozen 2
        have k3 := kb.cell 3; have f3 := kb.frozen 3
        simp at k0 k1 k2 k3
        refine ⟨undef, ((((we.setCell ⟨w.heap.size + 1 + 1 + 1, 0, none⟩ (.int .i64 P2)).setCell ⟨w.heap.size + 1 + 1 + 1, 1, none⟩ (.slice A2 E2.length C2)).setCell ⟨w.heap.size + 1 + 1 + 1, 2, none⟩ (.int .i64 I2)).setCell ⟨w.heap.size + 1 + 1 + 1, 3, none⟩ (.slice B2 Y2.length D2)), [(w.heap.size + 1 + 1 + 1, [.int .i64 P2, .slice A2 E2.length C2, .int .i64 I2, .slice B2 Y2.length D2]), (w.heap.size + 1 + 1, [.int .i64 P1, .slice A1 E1.length C1, .int .i64 I1, .slice za zs.length zc]), (w.heap.size + 1, [.int .i64 q, .slice ha hn hc9]), (w.heap.size, [.int .i64 p, .slice ga gn gc])], .inr ⟨by simp [go_sem, Act.put, k0, k1, k2, k3, f0, f1, f2, f3], rfl⟩, Lib.hid ((((he.out.putAt (B1 := ((w7.heap.size, [.int .i64 P2, .slice A2 E2.length C2, .int .i64 I2, .slice B2 Y2.length D2]) :: (w5.heap.size, [.int .i64 P1, .slice A1 E1.length C1, .int .i64 I1, .slice za zs.length zc]) :: (w2.heap.size + 1, [.int .i64 q, .slice ha hn hc9]) :: (w2.heap.size, [.int .i64 p, .slice ga gn gc]) :: [])) (B2 := [(w.heap.size + 1 + 1, [.int .i64 P1, .slice A1 E1.length C1, .int .i64 I1, .slice za zs.length zc]), (w.heap.size + 1, [.int .i64 q, .slice ha hn hc9]), (w.heap.size, [.int .i64 p, .slice ga gn gc])]) (fun b mb => by simp at mb; have n6 := HN6.out; have z3 := HZ3.out; have z4 := HZ4.out; have z1 := HZ1.out; have y1 := HY1.out; have z2 := HZ2.out; rcases mb with rfl | rfl | rfl | rfl | rfl | rfl | rfl <;> (dsimp only; omega)) 0 _).putAt (B1 := ((w7.heap.size, [.int .i64 P2, .slice A2 E2.length C2, .int .i64 I2, .slice B2 Y2.length D2]) :: (w5.heap.size, [.int .i64 P1, .slice A1 E1.length C1, .int .i64 I1, .slice za zs.length zc]) :: (w2.heap.size + 1, [.int .i64 q, .slice ha hn hc9]) :: (w2.heap.size, [.int .i64 p, .slice ga gn gc]) :: [])) (B2 := [(w.heap.size + 1 + 1, [.int .i64 P1, .slice A1 E1.length C1, .int .i64 I1, .slice za zs.length zc]), (w.heap.size + 1, [.int .i64 q, .slice ha hn hc9]), (w.heap.size, [.int .i64 p, .slice ga gn gc])]) (fun b mb => by simp at mb; have n6 := HN6.out; have z3 := HZ3.out; have z4 := HZ4.out; have z1 := HZ1.out; have y1 := HY1.out; have z2 := HZ2.out; rcases mb with rfl | rfl | rfl | rfl | rfl | rfl | rfl <;> (dsimp only; omega)) 1 _).putAt (B1 := ((w7.heap.size, [.int .i64 P2, .slice A2 E2.length C2, .int .i64 I2, .slice B2 Y2.length D2]) :: (w5.heap.size, [.int .i64 P1, .slice A1 E1.length C1, .int .i64 I1, .slice za zs.length zc]) :: (w2.heap.size + 1, [.int .i64 q, .slice ha hn hc9]) :: (w2.heap.size, [.int .i64 p, .slice ga gn gc]) :: [])) (B2 := [(w.heap.size + 1 + 1, [.int .i64 P1, .slice A1 E1.length C1, .int .i64 I1, .slice za zs.length zc]), (w.heap.size + 1, [.int .i64 q, .slice ha hn hc9]), (w.heap.size, [.int .i64 p, .slice ga gn gc])]) (fun b mb => by simp at mb; have n6 := HN6.out; have z3 := HZ3.out; have z4 := HZ4.out; have z1 := HZ1.out; have y1 := HY1.out; have z2 := HZ2.out; rcases mb with rfl | rfl | rfl | rfl | rfl | rfl | rfl <;> (dsimp only; omega)) 2 _).putAt (B1 := ((w7.heap.size, [.int .i64 P2, .slice A2 E2.length C2, .int .i64 I2, .slice B2 Y2.length D2]) :: (w5.heap.size, [.int .i64 P1, .slice A1 E1.length C1, .int .i64 I1, .slice za zs.length zc]) :: (w2.heap.size + 1, [.int .i64 q, .slice ha hn hc9]) :: (w2.heap.size, [.int .i64 p, .slice ga gn gc]) :: [])) (B2 := [(w.heap.size + 1 + 1, [.int .i64 P1, .slice A1 E1.length C1, .int .i64 I1, .slice za zs.length zc]), (w.heap.size + 1, [.int .i64 q, .slice ha hn hc9]), (w.heap.size, [.int .i64 p, .slice ga gn gc])]) (fun b mb => by simp at mb; have n6 := HN6.out; have z3 := HZ3.out; have z4 := HZ4.out; have z1 := HZ1.out; have y1 := HY1.out; have z2 := HZ2.out; rcases mb with rfl | rfl | rfl | rfl | rfl | rfl | rfl <;> (dsimp only; omega)) 3 _), ?_⟩
        clear he kb k0 k1 k2 k3 f0 f1 f2 f3
        refine ⟨by kernel_rfl, fun w9 hz => ?_⟩
        simp only [Act.put]
        have r0_0 := (hz.out.bx _ (.tail _ (.tail _ (.tail _ (.tail _ (.tail _ (.tail _ (.tail _ (.head _))))))))).2.cell 0
        have r0_1 := (hz.out.bx _ (.tail _ (.tail _ (.tail _ (.tail _ (.tail _ (.tail _ (.tail _ (.head _))))))))).2.cell 1
        have r1_0 := (hz.out.bx _ (.tail _ (.tail _ (.tail _ (.tail _ (.tail _ (.tail _ (.head _)))))))).2.cell 0
        have r1_1 := (hz.out.bx _ (.tail _ (.tail _ (.tail _ (.tail _ (.tail _ (.tail _ (.head _)))))))).2.cell 1
        have r2_0 := (hz.out.bx _ (.tail _ (.tail _ (.tail _ (.tail _ (.tail _ (.head _))))))).2.cell 0
        have r2_1 := (hz.out.bx _ (.tail _ (.tail _ (.tail _ (.tail _ (.tail _ (.head _))))))).2.cell 1
        have r2_2 := (hz.out.bx _ (.tail _ (.tail _ (.tail _ (.tail _ (.tail _ (.head _))))))).2.cell 2
        have r2_3 := (hz.out.bx _ (.tail _ (.tail _ (.tail _ (.tail _ (.tail _ (.head _))))))).2.cell 3
        have r3_0 := (hz.out.bx _ (.tail _ (.tail _ (.tail _ (.tail _ (.head _)))))).2.cell 0
        have r3_1 := (hz.out.bx _ (.tail _ (.tail _ (.tail _ (.tail _ (.head _)))))).2.cell 1
        have r3_2 := (hz.out.bx _ (.tail _ (.tail _ (.tail _ (.tail _ (.head _)))))).2.cell 2
        have r3_3 := (hz.out.bx _ (.tail _ (.tail _ (.tail _ (.tail _ (.head _)))))).2.cell 3
        simp at r0_0 r0_1 r1_0 r1_1 r2_0 r2_1 r2_2 r2_3 r3_0 r3_1 r3_2 r3_3
        go_wp2
        refine bodyPost_ret (v := .tuple #[.agg #[.int .i64 p, .slice ga gn gc], .agg #[.int .i64 q, .slice ha hn hc9], .agg #[.int .i64 P1, .slice A1 E1.length C1, .int .i64 I1, .slice za zs.length zc], .agg #[.int .i64 P2, .slice A2 E2.length C2, .int .i64 I2, .slice B2 Y2.length D2]]) ?_ rfl ?_
        · simp [results, Tryd.results72, go_sem, r0_0, r0_1, r1_0, r1_1, r2_0, r2_1, r2_2, r2_3, r3_0, r3_1, r3_2, r3_3]
        · exact ⟨p, _, g, q, _, hs, P1, _, E1, I1, _, zs, P2, _, E2, I2, _, Y2, (k12 + 1), rfl, ⟨hz.out.ls _ (.tail _ (.tail _ (.tail _ (.tail _ (.tail _ (.tail _ (.head _))))))), hz.out.ls _ (.tail _ (.tail _ (.tail _ (.tail _ (.tail _ (.tail _ (.tail _ (.head _)))))))), hz.out.ls _ (.tail _ (.tail _ (.tail _ (.head _)))), hz.out.ls _ (.tail _ (.head _)), hz.out.ls _ (.head _), hz.out.ls _ (.tail _ (.tail _ (.head _))), HG.out, HH.out, HS0.out.1, HS1.out.1, HZL.out, HS1.out.2.1, HP.out, HQ.out⟩, by omega, hz.out.gr, hz.out.rd⟩
    · skip
      go_wp2_with fail
      apply wp_region_H (Z := List (Nat × List Value)) (S := fun k => k == 4 || k == 5 || k == 6 || k == 7) (C := fun z w' => Hid (Dx w R ((w7.heap.size, [.int .i64 P2, .slice A2 E2.length C2, .int .i64 I2, .slice B2 Y2.length D2]) :: (w5.heap.size, [.int .i64 P1, .slice A1 E1.length C1, .int .i64 I1, .slice za zs.length zc]) :: (w2.heap.size + 1, [.int .i64 q, .slice ha hn hc9]) :: (w2.heap.size, [.int .i64 p, .slice ga gn gc]) :: z) ((.slice za zs.length zc, zs) :: [(.slice A2 E2.length C2, E2), (.slice B2 Y2.length D2, Y2), (.slice A1 E1.length C1, E1), (.slice B1 Y1.length D1, Y1), (.slice fa fs.length fc, fs), (.slice ga gn gc, g), (.slice ha hn hc9, hs), (.slice oa m oc, os)]) (k12 + 1) w')) [0, 1, 2, 3] [(w.heap.size + 1 + 1 + 1, [.int .i64 0, .slice none 0 0, .int .i64 0, .slice none 0 0]), (w.heap.size + 1 + 1, [.int .i64 0, .slice none 0 0, .int .i64 0, .slice none 0 0]), (w.heap.size + 1, [.int .i64 0, .slice none 0 0]), (w.heap.size, [.int .i64 0, .slice none 0 0])]
      · kernel_rfl
      · kernel_rfl
      · kernel_rfl
      · exact ⟨rfl, rfl, rfl, rfl, trivial⟩
      · rfl
      · decide
      · exact Lib.hid (D10.out.on (Below.refl _ _).drew)
      · intro z
        dsimp only [pickL, nthO]
        go_big_quiet_want
        go_big_quiet_op
        refine ⟨.agg #[.int .i64 p, .slice ga gn gc], fun w' hw' => ?_, ?_⟩
        · have q9 := (hw'.out.bx _ (.tail _ (.tail _ (.tail _ (.head _))))).2
          have q0 := q9.cell 0
          have q1 := q9.cell 1
          simp at q0 q1
          simp [go_sem, q0, q1]
        go_big_quiet_on
        go_big_quiet_want
        go_big_quiet_op
        refine ⟨.agg #[.int .i64 q, .slice ha hn hc9], fun w' hw' => ?_, ?_⟩
        · have q9 := (hw'.out.bx _ (.tail _ (.tail _ (.head _)))).2
          have q0 := q9.cell 0
          have q1 := q9.cell 1
          simp at q0 q1
          simp [go_sem, q0, q1]
        go_big_quiet_on
        go_big_quiet_want
        go_big_quiet_op
        refine ⟨.agg #[.int .i64 P2, .slice A2 E2.length C2, .int .i64 I2, .slice B2 Y2.length D2], fun w' hw' => ?_, ?_⟩
        · have q9 := (hw'.out.bx _ (.head _)).2
          have q0 := q9.cell 0
          have q1 := q9.cell 1
          have q2 := q9.cell 2
          have q3 := q9.cell 3
          simp at q0 q1 q2 q3
          simp [go_sem, q0, q1, q2, q3]
        go_big_quiet_on
        go_big_quiet_want
        go_big_quiet_op
        refine ⟨.agg #[.int .i64 P1, .slice A1 E1.length C1, .int .i64 I1, .slice za zs.length zc], fun w' hw' => ?_, ?_⟩
        · have q9 := (hw'.out.bx _ (.tail _ (.head _))).2
          have q0 := q9.cell 0
          have q1 := q9.cell 1
          have q2 := q9.cell 2
          have q3 := q9.cell 3
          simp at q0 q1 q2 q3
          simp [go_sem, q0, q1, q2, q3]
        go_big_quiet_on
        exact wpQuiet_nil rfl
      · skip
        refine wpAnyH_special (i := 4) (d := none) rfl (by kernel_rfl) rfl rfl (by kernel_rfl) fun we he => ?_
        have kb := (he.out.bx _ (.tail _ (.tail _ (.tail _ (.tail _ (.tail _ (.tail _ (.tail _ (.head _))))))))).2
        have k0 := kb.cell 0; have f0 := kb.frozen 0
        have k1 := kb.cell 1; have f1 := kb.frozen 1
        simp at k0 k1
        refine ⟨undef, ((we.setCell ⟨w.heap.size, 0, none⟩ (.int .i64 p)).setCell ⟨w.heap.size, 1, none⟩ (.slice ga gn gc)), [(w.heap.size + 1 + 1 + 1, [.int .i64 0, .slice none 0 0, .int .i64 0, .slice none 0 0]), (w.heap.size + 1 + 1, [.int .i64 0, .slice none 0 0, .int .i64 0, .slice none 0 0]), (w.heap.size + 1, [.int .i64 0, .slice none 0 0]), (w.heap.size, [.int .i64 p, .slice ga gn gc])], .inr ⟨by simp [go_sem, k0, k1, f0, f1], rfl⟩, Lib.hid ((he.out.putAt (B1 := ((w7.heap.size, [.int .i64 P2, .slice A2 E2.length C2, .int .i64 I2, .slice B2 Y2.length D2]) :: (w5.heap.size, [.int .i64 P1, .slice A1 E1.length C1, .int .i64 I1, .slice za zs.length zc]) :: (w2.heap.size + 1, [.int .i64 q, .slice ha hn hc9]) :: (w2.heap.size, [.int .i64 p, .slice ga gn gc]) :: [(w.heap.size + 1 + 1 + 1, [.int .i64 0, .slice none 0 0, .int .i64 0, .slice none 0 0]), (w.heap.size + 1 + 1, [.int .i64 0, .slice none 0 0, .int .i64 0, .slice none 0 0]), (w.heap.size + 1, [.int .i64 0, .slice none 0 0])])) (B2 := []) (fun b mb => by simp at mb; have n6 := HN6.out; have z3 := HZ3.out; have z4 := HZ4.out; have z1 := HZ1.out; have y1 := HY1.out; have z2 := HZ2.out; rcases mb with rfl | rfl | rfl | rfl | rfl | rfl | rfl <;> (dsimp only; omega)) 0 _).putAt (B1 := ((w7.heap.size, [.int .i64 P2, .slice A2 E2.length C2, .int .i64 I2, .slice B2 Y2.length D2]) :: (w5.heap.size, [.int .i64 P1, .slice A1 E1.length C1, .int .i64 I1, .slice za zs.length zc]) :: (w2.heap.size + 1, [.int .i64 q, .slice ha hn hc9]) :: (w2.heap.size, [.int .i64 p, .slice ga gn gc]) :: [(w.heap.size + 1 + 1 + 1, [.int .i64 0, .slice none 0 0, .int .i64 0, .slice none 0 0]), (w.heap.size + 1 + 1, [.int .i64 0, .slice none 0 0, .int .i64 0, .slice none 0 0]), (w.heap.size + 1, [.int .i64 0, .slice none 0 0])])) (B2 := []) (fun b mb => by simp at mb; have n6 := HN6.out; have z3 := HZ3.out; have z4 := HZ4.out; have z1 := HZ1.out; have y1 := HY1.out; have z2 := HZ2.out; rcases mb with rfl | rfl | rfl | rfl | rfl | rfl | rfl <;> (dsimp only; omega)) 1 _), ?_⟩
        clear he kb k0 k1 f0 f1
        refine wpAnyH_special (i := 5) (d := none) rfl (by kernel_rfl) rfl rfl (by kernel_rfl) fun we he => ?_
        have kb := (he.out.bx _ (.tail _ (.tail _ (.tail _ (.tail _ (.tail _ (.tail _ (.head _)))))))).2
        have k0 := kb.cell 0; have f0 := kb.frozen 0
        have k1 := kb.cell 1; have f1 := kb.frozen 1
        simp at k0 k1
        refine ⟨undef, ((we.setCell ⟨w.heap.size + 1, 0, none⟩ (.int .i64 q)).setCell ⟨w.heap.size + 1, 1, none⟩ (.slice ha hn hc9)), [(w.heap.size + 1 + 1 + 1, [.int .i64 0, .slice none 0 0, .int .i64 0, .slice none 0 0]), (w.heap.size + 1 + 1, [.int .i64 0, .slice none 0 0, .int .i64 0, .slice none 0 0]), (w.heap.size + 1, [.int .i64 q, .slice ha hn hc9]), (w.heap.size, [.int .i64 p, .slice ga gn gc])], .inr ⟨by simp [go_sem, Act.put, k0, k1, f0, f1], rfl⟩, Lib.hid ((he.out.putAt (B1 := ((w7.heap.size, [.int .i64 P2, .slice A2 E2.length C2, .int .i64 I2, .slice B2 Y2.length D2]) :: (w5.heap.size, [.int .i64 P1, .slice A1 E1.length C1, .int .i64 I1, .slice za zs.length zc]) :: (w2.heap.size + 1, [.int .i64 q, .slice ha hn hc9]) :: (w2.heap.size, [.int .i64 p, .slice ga gn gc]) :: [(w.heap.size + 1 + 1 + 1, [.int .i64 0, .slice none 0 0, .int .i64 0, .slice none 0 0]), (w.heap.size + 1 + 1, [.int .i64 0, .slice none 0 0, .int .i64 0, .slice none 0 0])])) (B2 := [(w.heap.size, [.int .i64 p, .slice ga gn gc])]) (fun b mb => by simp at mb; have n6 := HN6.out; have z3 := HZ3.out; have z4 := HZ4.out; have z1 := HZ1.out; have y1 := HY1.out; have z2 := HZ2.out; rcases mb with rfl | rfl | rfl | rfl | rfl | rfl | rfl <;> (dsimp only; omega)) 0 _).putAt (B1 := ((w7.heap.size, [.int .i64 P2, .slice A2 E2.length C2, .int .i64 I2, .slice B2 Y2.length D2]) :: (w5.heap.size, [.int .i64 P1, .slice A1 E1.length C1, .int .i64 I1, .slice za zs.length zc]) :: (w2.heap.size + 1, [.int .i64 q, .slice ha hn hc9]) :: (w2.heap.size, [.int .i64 p, .slice ga gn gc]) :: [(w.heap.size + 1 + 1 + 1, [.int .i64 0, .slice none 0 0, .int .i64 0, .slice none 0 0]), (w.heap.size + 1 + 1, [.int .i64 0, .slice none 0 0, .int .i64 0, .slice none 0 0])])) (B2 := [(w.heap.size, [.int .i64 p, .slice ga gn gc])]) (fun b mb => by simp at mb; have n6 := HN6.out; have z3 := HZ3.out; have z4 := HZ4.out; have z1 := HZ1.out; have y1 := HY1.out; have z2 := HZ2.out; rcases mb with rfl | rfl | rfl | rfl | rfl | rfl | rfl <;> (dsimp only; omega)) 1 _), ?_⟩
        clear he kb k0 k1 f0 f1
        refine wpAnyH_special (i := 6) (d := none) rfl (by kernel_rfl) rfl rfl (by kernel_rfl) fun we he => ?_
        have kb := (he.out.bx _ (.tail _ (.tail _ (.tail _ (.tail _ (.tail _ (.head _))))))).2
        have k0 := kb.cell 0; have f0 := kb.frozen 0
        have k1 := kb.cell 1; have f1 := kb.frozen 1
        have k2 := kb.cell 2; have f2 := kb.frozen 2
        have k3 := kb.cell 3; have f3 := kb.frozen 3
        simp at k0 k1 k2 k3
        refine ⟨undef, ((((we.setCell ⟨w.heap.size + 1 + 1, 0, none⟩ (.int .i64 P2)).setCell ⟨w.heap.size + 1 + 1, 1, none⟩ (.slice A2 E2.length C2)).setCell ⟨w.heap.size + 1 + 1, 2, none⟩ (.int .i64 I2)).setCell ⟨w.heap.size + 1 + 1, 3, none⟩ (.slice B2 Y2.length D2)), [(w.heap.size + 1 + 1 + 1, [.int .i64 0, .slice none 0 0, .int .i64 0, .slice none 0 0]), (w.heap.size + 1 + 1, [.int .i64 P2, .slice A2 E2.length C2, .int .i64 I2, .slice B2 Y2.length D2]), (w.heap.size + 1, [.int .i64 q, .slice ha hn hc9]), (w.heap.size, [.int .i64 p, .slice ga gn gc])], .inr ⟨by simp [go_sem, Act.put, k0, k1, k2, k3, f0, f1, f2, f3], rfl⟩, Lib.hid ((((he.out.putAt (B1 := ((w7.heap.size, [.int .i64 P2, .slice A2 E2.length C2, .int .i64 I2, .slice B2 Y2.length D2]) :: (w5.heap.size, [.int .i64 P1, .slice A1 E1.length C1, .int .i64 I1, .slice za zs.length zc]) :: (w2.heap.size + 1, [.int .i64 q, .slice ha hn hc9]) :: (w2.heap.size, [.int .i64 p, .slice ga gn gc]) :: [(w.heap.size + 1 + 1 + 1, [.int .i64 0, .slice none 0 0, .int .i64 0, .slice none 0 0])])) (B2 := [(w.heap.size + 1, [.int .i64 q, .slice ha hn hc9]), (w.heap.size, [.int .i64 p, .slice ga gn gc])]) (fun b mb => by simp at mb; have n6 := HN6.out; have z3 := HZ3.out; have z4 := HZ4.out; have z1 := HZ1.out; have y1 := HY1.out; have z2 := HZ2.out; rcases mb with rfl | rfl | rfl | rfl | rfl | rfl | rfl <;> (dsimp only; omega)) 0 _).putAt (B1 := ((w7.heap.size, [.int .i64 P2, .slice A2 E2.length C2, .int .i64 I2, .slice B2 Y2.length D2]) :: (w5.heap.size, [.int .i64 P1, .slice A1 E1.length C1, .int .i64 I1, .slice za zs.length zc]) :: (w2.heap.size + 1, [.int .i64 q, .slice ha hn hc9]) :: (w2.heap.size, [.int .i64 p, .slice ga gn gc]) :: [(w.heap.size + 1 + 1 + 1, [.int .i64 0, .slice none 0 0, .int .i64 0, .slice none 0 0])])) (B2 := [(w.heap.size + 1, [.int .i64 q, .slice ha hn hc9]), (w.heap.size, [.int .i64 p, .slice ga gn gc])]) (fun b mb => by simp at mb; have n6 := HN6.out; have z3 := HZ3.out; have z4 := HZ4.out; have z1 := HZ1.out; have y1 := HY1.out; have z2 := HZ2.out; rcases mb with rfl | rfl | rfl | rfl | rfl | rfl | rfl <;> (dsimp only; omega)) 1 _).putAt (B1 := ((w7.heap.size, [.int .i64 P2, .slice A2 E2.length C2, .int .i64 I2, .slice B2 Y2.length D2]) :: (w5.heap.size, [.int .i64 P1, .slice A1 E1.length C1, .int .i64 I1, .slice za zs.length zc]) :: (w2.heap.size + 1, [.int .i64 q, .slice ha hn hc9]) :: (w2.heap.size, [.int .i64 p, .slice ga gn gc]) :: [(w.heap.size + 1 + 1 + 1, [.int .i64 0, .slice none 0 0, .int .i64 0, .slice none 0 0])])) (B2 := [(w.heap.size + 1, [.int .i64 q, .slice ha hn hc9]), (w.heap.size, [.int .i64 p, .slice ga gn gc])]) (fun b mb => by simp at mb; have n6 := HN6.out; have z3 := HZ3.out; have z4 := HZ4.out; have z1 := HZ1.out; have y1 := HY1.out; have z2 := HZ2.out; rcases mb with rfl | rfl | rfl | rfl | rfl | rfl | rfl <;> (dsimp only; omega)) 2 _).putAt (B1 := ((w7.heap.size, [.int .i64 P2, .slice A2 E2.length C2, .int .i64 I2, .slice B2 Y2.length D2]) :: (w5.heap.size, [.int .i64 P1, .slice A1 E1.length C1, .int .i64 I1, .slice za zs.length zc]) :: (w2.heap.size + 1, [.int .i64 q, .slice ha hn hc9]) :: (w2.heap.size, [.int .i64 p, .slice ga gn gc]) :: [(w.heap.size + 1 + 1 + 1, [.int .i64 0, .slice none 0 0, .int .i64 0, .slice none 0 0])])) (B2 := [(w.heap.size + 1, [.int .i64 q, .slice ha hn hc9]), (w.heap.size, [.int .i64 p, .slice ga gn gc])]) (fun b mb => by simp at mb; have n6 := HN6.out; have z3 := HZ3.out; have z4 := HZ4.out; have z1 := HZ1.out; have y1 := HY1.out; have z2 := HZ2.out; rcases mb with rfl | rfl | rfl | rfl | rfl | rfl | rfl <;> (dsimp only; omega)) 3 _), ?_⟩
        clear he kb k0 k1 k2 k3 f0 f1 f2 f3
        refine wpAnyH_special (i := 7) (d := none) rfl (by kernel_rfl) rfl rfl (by kernel_rfl) fun we he => ?_
        have kb := (he.out.bx _ (.tail _ (.tail _ (.tail _ (.tail _ (.head _)))))).2
        have k0 := kb.cell 0; have f0 := kb.frozen 0
        have k1 := kb.cell 1; have f1 := kb.frozen 1
        have k2 := kb.cell 2; have f2 := kb.frozen 2
        have k3 := kb.cell 3; have f3 := kb.frozen 3
        simp at k0 k1 k2 k3
        refine ⟨undef, ((((we.setCell ⟨w.heap.size + 1 + 1 + 1, 0, none⟩ (.int .i64 P1)).setCell ⟨w.heap.size + 1 + 1 + 1, 1, none⟩ (.slice A1 E1.length C1)).setCell ⟨w.heap.size + 1 + 1 + 1, 2, none⟩ (.int .i64 I1)).setCell ⟨w.heap.size + 1 + 1 + 1, 3, none⟩ (.slice za zs.length zc)), [(w.heap.size + 1 + 1 + 1, [.int .i64 P1, .slice A1 E1.length C1, .int .i64 I1, .slice za zs.length zc]), (w.heap.size + 1 + 1, [.int .i64 P2, .slice A2 E2.length C2, .int .i64 I2, .slice B2 Y2.length D2]), (w.heap.size + 1, [.int .i64 q, .slice ha hn hc9]), (w.heap.size, [.int .i64 p, .slice ga gn gc])], .inr ⟨by simp [go_sem, Act.put, k0, k1, k2, k3, f0, f1, f2, f3], rfl⟩, Lib.hid ((((he.out.putAt (B1 := ((w7.heap.size, [.int .i64 P2, .slice A2 E2.length C2, .int .i64 I2, .slice B2 Y2.length D2]) :: (w5.heap.size, [.int .i64 P1, .slice A1 E1.length C1, .int .i64 I1, .slice za zs.length zc]) :: (w2.heap.size + 1, [.int .i64 q, .slice ha hn hc9]) :: (w2.heap.size, [.int .i64 p, .slice ga gn gc]) :: [])) (B2 := [(w.heap.size + 1 + 1, [.int .i64 P2, .slice A2 E2.length C2, .int .i64 I2, .slice B2 Y2.length D2]), (w.heap.size + 1, [.int .i64 q, .slice ha hn hc9]), (w.heap.size, [.int .i64 p, .slice ga gn gc])]) (fun b mb => by simp at mb; have n6 := HN6.out; have z3 := HZ3.out; have z4 := HZ4.out; have z1 := HZ1.out; have y1 := HY1.out; have z2 := HZ2.out; rcases mb with rfl | rfl | rfl | rfl | rfl | rfl | rfl <;> (dsimp only; omega)) 0 _).putAt (B1 := ((w7.heap.size, [.int .i64 P2, .slice A2 E2.length C2, .int .i64 I2, .slice B2 Y2.length D2]) :: (w5.heap.size, [.int .i64 P1, .slice A1 E1.length C1, .int .i64 I1, .slice za zs.length zc]) :: (w2.heap.size + 1, [.int .i64 q, .slice ha hn hc9]) :: (w2.heap.size, [.int .i64 p, .slice ga gn gc]) :: [])) (B2 := [(w.heap.size + 1 + 1, [.int .i64 P2, .slice A2 E2.length C2, .int .i64 I2, .slice B2 Y2.length D2]), (w.heap.size + 1, [.int .i64 q, .slice ha hn hc9]), (w.heap.size, [.int .i64 p, .slice ga gn gc])]) (fun b mb => by simp at mb; have n6 := HN6.out; have z3 := HZ3.out; have z4 := HZ4.out; have z1 := HZ1.out; have y1 := HY1.out; have z2 := HZ2.out; rcases mb with rfl | rfl | rfl | rfl | rfl | rfl | rfl <;> (dsimp only; omega)) 1 _).putAt (B1 := ((w7.heap.size, [.int .i64 P2, .slice A2 E2.length C2, .int .i64 I2, .slice B2 Y2.length D2]) :: (w5.heap.size, [.int .i64 P1, .slice A1 E1.length C1, .int .i64 I1, .slice za zs.length zc]) :: (w2.heap.size + 1, [.int .i64 q, .slice ha hn hc9]) :: (w2.heap.size, [.int .i64 p, .slice ga gn gc]) :: [])) (B2 := [(w.heap.size + 1 + 1, [.int .i64 P2, .slice A2 E2.length C2, .int .i64 I2, .slice B2 Y2.length D2]), (w.heap.size + 1, [.int .i64 q, .slice ha hn hc9]), (w.heap.size, [.int .i64 p, .slice ga gn gc])]) (fun b mb => by simp at mb; have n6 := HN6.out; have z3 := HZ3.out; have z4 := HZ4.out; have z1 := HZ1.out; have y1 := HY1.out; have z2 := HZ2.out; rcases mb with rfl | rfl | rfl | rfl | rfl | rfl | rfl <;> (dsimp only; omega)) 2 _).putAt (B1 := ((w7.heap.size, [.int .i64 P2, .slice A2 E2.length C2, .int .i64 I2, .slice B2 Y2.length D2]) :: (w5.heap.size, [.int .i64 P1, .slice A1 E1.length C1, .int .i64 I1, .slice za zs.length zc]) :: (w2.heap.size + 1, [.int .i64 q, .slice ha hn hc9]) :: (w2.heap.size, [.int .i64 p, .slice ga gn gc]) :: [])) (B2 := [(w.heap.size + 1 + 1, [.int .i64 P2, .slice A2 E2.length C2, .int .i64 I2, .slice B2 Y2.length D2]), (w.heap.size + 1, [.int .i64 q, .slice ha hn hc9]), (w.heap.size, [.int .i64 p, .slice ga gn gc])]) (fun b mb => by simp at mb; have n6 := HN6.out; have z3 := HZ3.out; have z4 := HZ4.out; have z1 := HZ1.out; have y1 := HY1.out; have z2 := HZ2.out; rcases mb with rfl | rfl | rfl | rfl | rfl | rfl | rfl <;> (dsimp only; omega)) 3 _), ?_⟩
        clear he kb k0 k1 k2 k3 f0 f1 f2 f3
        refine ⟨by kernel_rfl, fun w9 hz => ?_⟩
        simp only [Act.put]
        have r0_0 := (hz.out.bx _ (.tail _ (.tail _ (.tail _ (.tail _ (.tail _ (.tail _ (.tail _ (.head _))))))))).2.cell 0
        have r0_1 := (hz.out.bx _ (.tail _ (.tail _ (.tail _ (.tail _ (.tail _ (.tail _ (.tail _ (.head _))))))))).2.cell 1
        have r1_0 := (hz.out.bx _ (.tail _ (.tail _ (.tail _ (.tail _ (.tail _ (.tail _ (.head _)))))))).2.cell 0
        have r1_1 := (hz.out.bx _ (.tail _ (.tail _ (.tail _ (.tail _ (.tail _ (.tail _ (.head _)))))))).2.cell 1
        have r2_0 := (hz.out.bx _ (.tail _ (.tail _ (.tail _ (.tail _ (.tail _ (.head _))))))).2.cell 0
        have r2_1 := (hz.out.bx _ (.tail _ (.tail _ (.tail _ (.tail _ (.tail _ (.head _))))))).2.cell 1
        have r2_2 := (hz.out.bx _ (.tail _ (.tail _ (.tail _ (.tail _ (.tail _ (.head _))))))).2.cell 2
        have r2_3 := (hz.out.bx _ (.tail _ (.tail _ (.tail _ (.tail _ (.tail _ (.head _))))))).2.cell 3
        have r3_0 := (hz.out.bx _ (.tail _ (.tail _ (.tail _ (.tail _ (.head _)))))).2.cell 0
        have r3_1 := (hz.out.bx _ (.tail _ (.tail _ (.tail _ (.tail _ (.head _)))))).2.cell 1
        have r3_2 := (hz.out.bx _ (.tail _ (.tail _ (.tail _ (.tail _ (.head _)))))).2.cell 2
        have r3_3 := (hz.out.bx _ (.tail _ (.tail _ (.tail _ (.tail _ (.head _)))))).2.cell 3
        simp at r0_0 r0_1 r1_0 r1_1 r2_0 r2_1 r2_2 r2_3 r3_0 r3_1 r3_2 r3_3
        go_wp2
        refine bodyPost_ret (v := .tuple #[.agg #[.int .i64 p, .slice ga gn gc], .agg #[.int .i64 q, .slice ha hn hc9], .agg #[.int .i64 P2, .slice A2 E2.length C2, .int .i64 I2, .slice B2 Y2.length D2], .agg #[.int .i64 P1, .slice A1 E1.length C1, .int .i64 I1, .slice za zs.length zc]]) ?_ rfl ?_
        · simp [results, Tryd.results72, go_sem, r0_0, r0_1, r1_0, r1_1, r2_0, r2_1, r2_2, r2_3, r3_0, r3_1, r3_2, r3_3]
        · exact ⟨p, _, g, q, _, hs, P2, _, E2, I2, _, Y2, P1, _, E1, I1, _, zs, (k12 + 1), rfl, ⟨hz.out.ls _ (.tail _ (.tail _ (.tail _ (.tail _ (.tail _ (.tail _ (.head _))))))), hz.out.ls _ (.tail _ (.tail _ (.tail _ (.tail _ (.tail _ (.tail _ (.tail _ (.head _)))))))), hz.out.ls _ (.tail _ (.head _)), hz.out.ls _ (.tail _ (.tail _ (.tail _ (.head _)))), hz.out.ls _ (.tail _ (.tail _ (.head _))), hz.out.ls _ (.head _), HG.out, HH.out, HS1.out.1, HS0.out.1, HS1.out.2.1, HZL.out, HP.out, HQ.out⟩, by omega, hz.out.gr, hz.out.rd⟩
end Go.Proofs.YtipndddmjgjgpabDoor
