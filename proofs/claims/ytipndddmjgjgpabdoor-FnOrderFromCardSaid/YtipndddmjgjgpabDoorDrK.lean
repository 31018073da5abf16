/- Draws: DrawTurnOf, DrawTurnMade. -/
import Derived.Test.YtipndddmjgjgpabDoorDrJ
namespace Go.Proofs.YtipndddmjgjgpabDoor
open Go.RowKit

/-- A draw under way, all its memory new since w: the reader (while it is read on), boxes, lists. -/
structure Dn (w : World) (R : Nat) (Bs : List (Nat × List Value)) (L : List (Value × List Int)) (k : Option Nat) (w' : World) : Prop where
  rd : ∀ K, k = some K → Rd w' R K
  be : Below w.heap.size w w'
  rl : w.heap.size ≤ R ∧ R < w'.heap.size
  bx : ∀ b, b ∈ Bs → w.heap.size ≤ b.1 ∧ b.1 ≠ R ∧ Box w' b.1 b.2
  ls : ∀ x, x ∈ L → Own w' w.heap.size x.1 x.2 ∧ ∀ q, x.1.ownBlock = some q → q ≠ R
  ap : ∀ b, b ∈ Bs → ∀ x, x ∈ L → ∀ q, x.1.ownBlock = some q → q ≠ b.1
section
variable {w w' w'' : World} {R : Nat} {k k' : Option Nat} {Bs Bs' : List (Nat × List Value)} {L L' : List (Value × List Int)}
theorem Dn.draw (h : Dn w R Bs L k w') (hg : w'.grownBy w'' (some R)) (hr : ∀ K, k' = some K → Rd w'' R K) : Dn w R Bs L k' w'' :=
  ⟨hr, h.be.grown hg h.be.size (fun q e => by cases e; exact h.rl.1), ⟨h.rl.1, Nat.lt_of_lt_of_le h.rl.2 hg.size⟩, fun b m => ⟨(h.bx b m).1, (h.bx b m).2.1, box_drawn3 (h.bx b m).2.2 hg (h.bx b m).2.1⟩,
    fun x m => ⟨own_heap (h.ls x m).1 fun q hq => hg.block q ((h.ls x m).1.lt q hq).2 fun e => (h.ls x m).2 q hq (Option.some.inj e), (h.ls x m).2⟩, h.ap⟩
theorem Dn.on (h : Dn w R Bs L k w') (hb : Below w'.heap.size w' w'') : Dn w R Bs L k w'' := h.draw (grown_below R hb) fun K e => (h.rd K e).below hb
theorem Dn.next {K m : Nat} (h : Dn w R Bs L (some K) w') (e : w'' = (w'.setCell ⟨R, 1, none⟩ (.int .i64 ((K : Int) + 1))).drewN m) : Dn w R Bs L (some (K + 1)) w'' := by
  subst e; exact h.draw (grown_pick _ _ _ _) fun K' e => by cases e; exact (h.rd K rfl).next m
theorem Dn.made {K' : Nat} {v : Value} {xs : List Int} (h : Dn w R Bs L k w') (hg : w'.grownBy w'' (some R)) (hr : Rd w'' R K') (ho : Own w'' w'.heap.size v xs) : Dn w R Bs ((v, xs) :: L) (some K') w'' := by
  have h2 := h.draw (k' := some K') hg (fun K e => by cases e; exact hr)
  refine ⟨h2.rd, h2.be, h2.rl, h2.bx, fun x m => ?_, fun b mb x m q hq => ?_⟩
  · rcases List.mem_cons.1 m with rfl | m
    · exact ⟨own_mono ho h.be.size, fun q hq => by have := (ho.lt q hq).1; have := h.rl.2; omega⟩
    · exact h2.ls x m
  · rcases List.mem_cons.1 m with rfl | m
    · have := (ho.lt q hq).1; have := (h.bx b mb).2.2.lt; omega
    · exact h2.ap b mb x m q hq
theorem Dn.mades {K' : Nat} {L'' : List (Value × List Int)} (h : Dn w R Bs L k w') (hg : w'.grownBy w'' (some R)) (hr : Rd w'' R K') (ho : ∀ x, x ∈ L'' → Own w'' w'.heap.size x.1 x.2) : Dn w R Bs (L'' ++ L) (some K') w'' := by
  have h2 := h.draw (k' := some K') hg (fun K e => by cases e; exact hr)
  refine ⟨h2.rd, h2.be, h2.rl, h2.bx, fun x m => ?_, fun b mb x m q hq => ?_⟩
  · rcases List.mem_append.1 m with m | m
    · exact ⟨own_mono (ho x m) h.be.size, fun q hq => by have := ((ho x m).lt q hq).1; have := h.rl.2; omega⟩
    · exact h2.ls x m
  · rcases List.mem_append.1 m with m | m
    · have := ((ho x m).lt q hq).1; have := (h.bx b mb).2.2.lt; omega
    · exact h2.ap b mb x m q hq
theorem Dn.box {T : TypeId} (h : Dn w R Bs L k w') (cs : List Value) : Dn w R ((w'.heap.size, cs) :: Bs) L k (w'.alloc (.cells cs.toArray T)) := by
  have h2 := h.on (below_grow w' (.cells cs.toArray T))
  refine ⟨h2.rd, h2.be, h2.rl, fun b m => ?_, h2.ls, fun b mb x m q hq => ?_⟩
  · rcases List.mem_cons.1 m with rfl | m
    · exact ⟨h.be.size, by have := h.rl.2; show w'.heap.size ≠ R; omega, Box.made w' cs T⟩
    · exact h2.bx b m
  · rcases List.mem_cons.1 mb with rfl | mb
    · have := ((h.ls x m).1.lt q hq).2; show q ≠ w'.heap.size; omega
    · exact h2.ap b mb x m q hq
theorem Dn.sub (h : Dn w R Bs L k w') (hb : ∀ b, b ∈ Bs' → b ∈ Bs) (hl : ∀ x, x ∈ L' → x ∈ L) : Dn w R Bs' L' k w' := ⟨h.rd, h.be, h.rl, fun b m => h.bx b (hb b m), fun x m => h.ls x (hl x m), fun b mb x m => h.ap b (hb b mb) x (hl x m)⟩
theorem Dn.off (h : Dn w R Bs L k w') : Dn w R Bs L none w' := ⟨fun K e => (by cases e), h.be, h.rl, h.bx, h.ls, h.ap⟩
/-- A cell of a box written to: what is read lies elsewhere no more. -/
theorem Dn.put {N : Nat} {B1 B2 : List (Nat × List Value)} {cs : List Value} (h : Dn w R (B1 ++ (N, cs) :: B2) L k w') (hd : ∀ b, b ∈ B1 ++ B2 → b.1 ≠ N) (j : Nat) (v : Value) : Dn w R (B1 ++ (N, cs.set j v) :: B2) L none (w'.setCell ⟨N, j, none⟩ v) := by
  have hm : (N, cs) ∈ B1 ++ (N, cs) :: B2 := by simp
  have hN := h.bx _ hm
  have hh : ∀ q, q ≠ N → (w'.setCell ⟨N, j, none⟩ v).heap[q]? = w'.heap[q]? := fun q hq => Below.heap_setCell _ _ _ _ hq
  refine ⟨fun K e => (by cases e), h.be.setCell (p := ⟨N, j, none⟩) hN.1 v, ⟨h.rl.1, by simpa [World.setCell] using h.rl.2⟩, fun b m => ?_, fun x m => ⟨own_heap (h.ls x m).1 fun q hq => hh q (h.ap _ hm x m q hq), (h.ls x m).2⟩, fun b mb x m q hq => ?_⟩
  · simp only [List.mem_append, List.mem_cons] at m
    rcases m with m | rfl | m
    · have k1 := h.bx b (by simp [m])
      exact ⟨k1.1, k1.2.1, k1.2.2.far (hd b (by simp [m])) v⟩
    · exact ⟨hN.1, hN.2.1, hN.2.2.set j v⟩
    · have k1 := h.bx b (by simp [m])
      exact ⟨k1.1, k1.2.1, k1.2.2.far (hd b (by simp [m])) v⟩
  · simp only [List.mem_append, List.mem_cons] at mb
    rcases mb with mb | rfl | mb
    · exact h.ap b (by simp [mb]) x m q hq
    · exact h.ap _ hm x m q hq
    · exact h.ap b (by simp [mb]) x m q hq
end
/-- Two boxes laid, then the code opened. -/
theorem Dn.start2 {w w1 : World} {P Q : List Value} {T1 T2 : TypeId} (hr : Rd w1 ((w.alloc (.cells P.toArray T1)).alloc (.cells Q.toArray T2)).heap.size 0) (hb : Below ((w.alloc (.cells P.toArray T1)).alloc (.cells Q.toArray T2)).heap.size ((w.alloc (.cells P.toArray T1)).alloc (.cells Q.toArray T2)) w1) :
    Dn w (w.heap.size + 1 + 1) [(w.heap.size + 1, Q), (w.heap.size, P)] [] (some 0) w1 := by
  obtain ⟨h1, h2, h3⟩ := boxes2 hb
  have hz : ((w.alloc (.cells P.toArray T1)).alloc (.cells Q.toArray T2)).heap.size = w.heap.size + 1 + 1 := by simp
  rw [hz] at hr
  refine ⟨fun K e => by cases e; exact hr, h3, ⟨by omega, hr.lt⟩, fun b m => ?_, fun x m => (by cases m), fun b mb x m => (by cases m)⟩
  simp at m
  rcases m with rfl | rfl
  · exact ⟨by show w.heap.size ≤ w.heap.size + 1; omega, by show w.heap.size + 1 ≠ w.heap.size + 1 + 1; omega, h2⟩
  · exact ⟨Nat.le_refl _, by show w.heap.size ≠ w.heap.size + 1 + 1; omega, h1⟩
theorem ne2 {w : World} {N8 N9 : Nat} {c8 c9 c3 : List Value} (h : w.heap.size + 1 < N8) (h' : w.heap.size + 1 < N9) : ∀ b, b ∈ [(N9, c9), (N8, c8), (w.heap.size + 1, c3)] ++ [] → b.1 ≠ w.heap.size := fun b m => by
  simp at m
  rcases m with rfl | rfl | rfl
  · show N9 ≠ w.heap.size; omega
  · show N8 ≠ w.heap.size; omega
  · show w.heap.size + 1 ≠ w.heap.size; omega
theorem ne3 {w : World} {N8 N9 : Nat} {c8 c9 c2 : List Value} (h : w.heap.size + 1 < N8) (h' : w.heap.size + 1 < N9) : ∀ b, b ∈ [(N9, c9), (N8, c8)] ++ [(w.heap.size, c2)] → b.1 ≠ w.heap.size + 1 := fun b m => by
  simp at m
  rcases m with rfl | rfl | rfl
  · show N9 ≠ w.heap.size + 1; omega
  · show N8 ≠ w.heap.size + 1; omega
  · show w.heap.size ≠ w.heap.size + 1; omega
def TfPost (w : World) (e : Ending) (w' : World) : Prop := ∃ p gv g q hv h ov o fv f ask, e = .returned (.tuple #[.agg #[.int .i64 p, gv], .agg #[.int .i64 q, hv], ov, fv, .int .i64 ask]) ∧ (0 ≤ p ∧ p ≤ 5) ∧ (0 ≤ q ∧ q ≤ 5) ∧ (0 ≤ ask ∧ ask ≤ 3) ∧ Li w' gv g ∧ Li w' hv h ∧ Li w' ov o ∧ Li w' fv f ∧ Below w.heap.size w w'
def TmPost (w : World) (e : Ending) (w' : World) : Prop := ∃ p gv g q hv h ask fv f, e = .returned (.tuple #[.agg #[.int .i64 p, gv], .agg #[.int .i64 q, hv], .int .i64 ask, fv]) ∧ (0 ≤ p ∧ p ≤ 5) ∧ (0 ≤ q ∧ q ≤ 5) ∧ (0 ≤ ask ∧ ask ≤ 3) ∧ Li w' gv g ∧ Li w' hv h ∧ Li w' fv f ∧ Below w.heap.size w w'

set_option maxRecDepth 100000 in
set_option maxHeartbeats 3200000 in
theorem drawTurnOf_any (s : Value) (w : World) (h : CodeIn w s) : Calls Tryd.prog 41 #[s] w (TfPost w) := by
  have HC := Lib.hid (show CodeIn ((w.alloc (.cells #[.int .i64 0, .slice none 0 0] 25)).alloc (.cells #[.int .i64 0, .slice none 0 0] 25)) s from code_more3 (code_more3 h _) _)
  clear h
  go_enter Tryd.func41, Tryd.ntmps41
  go_wp2_with fail
  refine (open_any _ _ HC.out).mono ?_
  rintro e w1 ⟨rfl, hr, hb⟩
  have D1 := Lib.hid (Dn.start2 (P := [.int .i64 0, .slice none 0 0]) (Q := [.int .i64 0, .slice none 0 0]) hr hb)
  clear hr hb HC
  go_wp2_with fail
  try rw [show ((w.alloc (.cells #[.int .i64 0, .slice none 0 0] 25)).alloc (.cells #[.int .i64 0, .slice none 0 0] 25)).heap.size = w.heap.size + 1 + 1 by simp]
  refine (two_any _ _ 16 _ (D1.out.rd _ rfl) (by omega) (by omega)).mono ?_
  rintro e w2 ⟨p, gv, g, q, hv, hs, ov, os, k2, rfl, tw, hk2, hg, hr⟩
  have D2 := Lib.hid (D1.out.mades (L'' := [(gv, g), (hv, hs), (ov, os)]) hg hr (fun x m => by
    simp at m
    rcases m with rfl | rfl | rfl
    · exact tw.og
    · exact tw.oh
    · exact tw.oo))
  obtain ⟨ga, gc, e1⟩ := Own.form tw.og
  obtain ⟨ha, hc9, e2⟩ := Own.form tw.oh
  obtain ⟨oa, oc, e3⟩ := Own.form tw.oo
  obtain ⟨m, m1, m5, hod⟩ := tw.od
  have hom : os.length = m := by have := hod.len; omega
  have HG := Lib.hid (show g.length ≤ 50 ∧ Sml g from ⟨tw.lg, tw.sg⟩)
  have HH := Lib.hid (show hs.length ≤ 50 ∧ Sml hs from ⟨tw.lh, tw.sh⟩)
  have HO := Lib.hid (od_dr hod)
  have HPQ := Lib.hid (show (0 ≤ p ∧ p ≤ 5) ∧ (0 ≤ q ∧ q ≤ 5) from ⟨⟨tw.p0, tw.p5⟩, ⟨tw.q0, tw.q5⟩⟩)
  subst e1 e2 e3
  have HN8 : Hid (w.heap.size + 1 < w2.heap.size) := Lib.hid ((D2.out.bx _ (.head _)).2.2.lt)
  obtain ⟨gn, hgn⟩ : ∃ gn, g.length = gn := ⟨_, rfl⟩
  obtain ⟨hn, hhn⟩ : ∃ gn, hs.length = gn := ⟨_, rfl⟩
  rw [hgn, hhn, hom] at D2
  rw [hgn, hhn, hom]
  clear hg hr tw hod hom hgn hhn D1
  obtain ⟨w3, hw3⟩ : ∃ z, z = (w2.alloc (.cells #[.int .i64 p, .slice ga gn gc] 25)).alloc (.cells #[.int .i64 q, .slice ha hn hc9] 25) := ⟨_, rfl⟩
  have D3 : Hid (Dn w (w.heap.size + 1 + 1) [(w2.heap.size + 1, [.int .i64 q, .slice ha hn hc9]), (w2.heap.size, [.int .i64 p, .slice ga gn gc]), (w.heap.size + 1, [.int .i64 0, .slice none 0 0]), (w.heap.size, [.int .i64 0, .slice none 0 0])] [(.slice ga gn gc, g), (.slice ha hn hc9, hs), (.slice oa m oc, os)] (some k2) w3) := Lib.hid (by
    have h1 := (D2.out.box (T := 25) [.int .i64 p, .slice ga gn gc]).box (T := 25) [.int .i64 q, .slice ha hn hc9]
    rw [show (w2.alloc (.cells [.int .i64 p, .slice ga gn gc].toArray 25)).heap.size = w2.heap.size + 1 by simp] at h1
    rw [hw3]; exact h1)
  have HW3 := Lib.hid hw3
  clear hw3 D2
  go_wp2_with fail
  rw [← HW3.out]
  apply wp_region_H (Z := List (Nat × List Value) × List (Value × List Int) × Option Nat) (S := fun k => k == 6 || k == 8 || k == 10 || k == 14 || k == 15) (C := fun z w' => Hid (Dn w (w.heap.size + 1 + 1) (((w2.heap.size + 1), [.int .i64 q, .slice ha hn hc9]) :: (w2.heap.size, [.int .i64 p, .slice ga gn gc]) :: z.1) z.2.1 z.2.2 w')) [0, 1, 2, 3, 4, 5, 7, 9] ([((w.heap.size + 1), [.int .i64 0, .slice none 0 0]), (w.heap.size, [.int .i64 0, .slice none 0 0])], [(.slice ga gn gc, g), (.slice ha hn hc9, hs), (.slice oa m oc, os)], some k2)
  · kernel_rfl
  · kernel_rfl
  · kernel_rfl
  · exact ⟨rfl, rfl, rfl, rfl, rfl, rfl, rfl, rfl, trivial⟩
  · rfl
  · decide
  · exact Lib.hid (D3.out.on (Below.refl _ _).drew)
  · intro z
    dsimp only [pickL, nthO]
    go_big_quiet_want
    go_big_quiet_op
    refine ⟨.agg #[.int .i64 p, .slice ga gn gc], fun w' hw' => ?_, ?_⟩
    · have q9 := (hw'.out.bx _ (.tail _ (.head _))).2.2
      have q0 := q9.cell 0
      have q1 := q9.cell 1
      simp at q0 q1
      simp [go_sem, q0, q1]
    go_big_quiet_on
    go_big_quiet_want
    go_big_quiet_op
    refine ⟨.agg #[.int .i64 q, .slice ha hn hc9], fun w' hw' => ?_, ?_⟩
    · have q9 := (hw'.out.bx _ (.head _)).2.2
      have q0 := q9.cell 0
      have q1 := q9.cell 1
      simp at q0 q1
      simp [go_sem, q0, q1]
    go_big_quiet_on
    go_big_quiet_want; go_big_quiet_op; first | go_big_quiet_on | (refine ⟨_, fun _ _ => rfl, ?_⟩; go_big_quiet_on)
    go_big_quiet_want; go_big_quiet_op; first | go_big_quiet_on | (refine ⟨_, fun _ _ => rfl, ?_⟩; go_big_quiet_on)
    go_big_quiet_want; go_big_quiet_op; first | go_big_quiet_on | (refine ⟨_, fun _ _ => rfl, ?_⟩; go_big_quiet_on)
    go_big_quiet_want; go_big_quiet_op; first | go_big_quiet_on | (refine ⟨_, fun _ _ => rfl, ?_⟩; go_big_quiet_on)
    go_big_quiet_want; go_big_quiet_op; first | go_big_quiet_on | (refine ⟨_, fun _ _ => rfl, ?_⟩; go_big_quiet_on)
    go_big_quiet_want; go_big_quiet_op; first | go_big_quiet_on | (refine ⟨_, fun _ _ => rfl, ?_⟩; go_big_quiet_on)
    exact wpQuiet_nil rfl
  · skip
    refine wpAnyH_call (i := 6) (d := some 25) 61 #[.pointer (some ⟨w.heap.size + 1 + 1, 0, none⟩), .int .i64 m, .int .i64 20] rfl (by kernel_rfl) rfl rfl (by kernel_rfl) (fun _ => by kernel_rfl) fun waf hc => ?_
    refine (drord_any _ k2 m 20 waf (hc.out.rd _ rfl) (by omega) m1 m5 (by omega)).mono ?_
    rintro e wbf ⟨fv, fs, k3, rfl, oo, hl, hsm, _, hk3, hg, hr⟩
    obtain ⟨fa, fc, e4⟩ := Own.form oo
    subst e4
    refine ⟨_, rfl, ([((w.heap.size + 1), [.int .i64 0, .slice none 0 0]), (w.heap.size, [.int .i64 0, .slice none 0 0])], (.slice fa fs.length fc, fs) :: [(.slice ga gn gc, g), (.slice ha hn hc9, hs), (.slice oa m oc, os)], some k3), Lib.hid (hc.out.made hg hr oo), ?_⟩
    have HF := Lib.hid (show fs.length ≤ 50 ∧ Sml fs from ⟨by omega, small_sml hsm⟩)
    clear hc oo hg hr hl hsm
    refine wpAnyH_call (i := 8) (d := some 27) 56 #[.pointer (some ⟨w.heap.size + 1 + 1, 0, none⟩), .int .i64 2] rfl (by kernel_rfl) rfl rfl (by kernel_rfl) (fun _ => by kernel_rfl) fun wac hc => ?_
    refine (pick_any _ _ 2 _ (hc.out.rd _ rfl) (by omega)).mono ?_
    rintro e wbc ⟨c, rfl, c0, c1, mmc, hw⟩
    have c2 := c1 (by omega)
    refine ⟨_, rfl, ([((w.heap.size + 1), [.int .i64 0, .slice none 0 0]), (w.heap.size, [.int .i64 0, .slice none 0 0])], ((.slice fa fs.length fc, fs) :: [(.slice ga gn gc, g), (.slice ha hn hc9, hs), (.slice oa m oc, os)]), some (k3 + 1)), Lib.hid (hc.out.next hw), ?_⟩
    clear hc hw c1
    refine wpAnyH_call (i := 10) (d := some 29) 56 #[.pointer (some ⟨w.heap.size + 1 + 1, 0, none⟩), .int .i64 20] rfl (by kernel_rfl) rfl rfl (by kernel_rfl) (fun _ => by kernel_rfl) fun wab hc => ?_
    refine (pick_any _ _ 20 _ (hc.out.rd _ rfl) (by omega)).mono ?_
    rintro e wbb ⟨b, rfl, b0, b1, mmb, hw⟩
    have b2 := b1 (by omega)
    refine ⟨_, rfl, ([((w.heap.size + 1), [.int .i64 0, .slice none 0 0]), (w.heap.size, [.int .i64 0, .slice none 0 0])], ((.slice fa fs.length fc, fs) :: [(.slice ga gn gc, g), (.slice ha hn hc9, hs), (.slice oa m oc, os)]), some ((k3 + 1) + 1)), Lib.hid (hc.out.next hw), ?_⟩
    clear hc hw b1
    rcases (show c = 0 ∨ c = 1 by omega) with rfl | rfl
    · by_cases hd : b = 19
      · subst hd
        refine wpAnyH_take (i := 11) (d := some 30) (.int .i64 1) rfl (by kernel_rfl) rfl rfl (by kernel_rfl) (by kernel_rfl) (by kernel_rfl) (fun _ => by kernel_rfl) ?_
        refine wpAnyH_take (i := 12) (d := some 31) (.int .i64 2) rfl (by kernel_rfl) rfl rfl (by kernel_rfl) (by kernel_rfl) (by kernel_rfl) (fun _ => by kernel_rfl) ?_
        refine wpAnyH_take (i := 13) (d := some 32) (.int .i64 2) rfl (by kernel_rfl) rfl rfl (by kernel_rfl) (by kernel_rfl) (by kernel_rfl) (fun _ => by kernel_rfl) ?_
        refine wpAnyH_special (i := 14) (d := none) rfl (by kernel_rfl) rfl rfl (by kernel_rfl) fun we he => ?_
        have kb := (he.out.bx _ (.tail _ (.tail _ (.tail _ (.head _))))).2.2
        have k0 := kb.cell 0; have k1 := kb.cell 1; have f0 := kb.frozen 0; have f1 := kb.frozen 1
        simp at k0 k1
        refine ⟨undef, (we.setCell ⟨w.heap.size, 0, none⟩ (.int .i64 p)).setCell ⟨w.heap.size, 1, none⟩ (.slice ga gn gc), ([((w.heap.size + 1), [.int .i64 0, .slice none 0 0]), (w.heap.size, [.int .i64 p, .slice ga gn gc])], ((.slice fa fs.length fc, fs) :: [(.slice ga gn gc, g), (.slice ha hn hc9, hs), (.slice oa m oc, os)]), none), .inr ⟨by simp [go_sem, Act.put, k0, k1, f0, f1], rfl⟩, Lib.hid ((he.out.put (B1 := [((w2.heap.size + 1), [.int .i64 q, .slice ha hn hc9]), (w2.heap.size, [.int .i64 p, .slice ga gn gc]), ((w.heap.size + 1), [.int .i64 0, .slice none 0 0])]) (B2 := []) (ne2 HN8.out (Nat.lt_succ_of_lt HN8.out)) 0 _).put (B1 := [((w2.heap.size + 1), [.int .i64 q, .slice ha hn hc9]), (w2.heap.size, [.int .i64 p, .slice ga gn gc]), ((w.heap.size + 1), [.int .i64 0, .slice none 0 0])]) (B2 := []) (ne2 HN8.out (Nat.lt_succ_of_lt HN8.out)) 1 _), ?_⟩
        clear he kb k0 k1 f0 f1
        refine wpAnyH_special (i := 15) (d := none) rfl (by kernel_rfl) rfl rfl (by kernel_rfl) fun we he => ?_
        have kb := (he.out.bx _ (.tail _ (.tail _ (.head _)))).2.2
        have k0 := kb.cell 0; have k1 := kb.cell 1; have f0 := kb.frozen 0; have f1 := kb.frozen 1
        simp at k0 k1
        refine ⟨undef, (we.setCell ⟨(w.heap.size + 1), 0, none⟩ (.int .i64 q)).setCell ⟨(w.heap.size + 1), 1, none⟩ (.slice ha hn hc9), ([((w.heap.size + 1), [.int .i64 q, .slice ha hn hc9]), (w.heap.size, [.int .i64 p, .slice ga gn gc])], ((.slice fa fs.length fc, fs) :: [(.slice ga gn gc, g), (.slice ha hn hc9, hs), (.slice oa m oc, os)]), none), .inr ⟨by simp [go_sem, Act.put, k0, k1, f0, f1], rfl⟩, Lib.hid ((he.out.put (B1 := [((w2.heap.size + 1), [.int .i64 q, .slice ha hn hc9]), (w2.heap.size, [.int .i64 p, .slice ga gn gc])]) (B2 := [(w.heap.size, [.int .i64 p, .slice ga gn gc])]) (ne3 HN8.out (Nat.lt_succ_of_lt HN8.out)) 0 _).put (B1 := [((w2.heap.size + 1), [.int .i64 q, .slice ha hn hc9]), (w2.heap.size, [.int .i64 p, .slice ga gn gc])]) (B2 := [(w.heap.size, [.int .i64 p, .slice ga gn gc])]) (ne3 HN8.out (Nat.lt_succ_of_lt HN8.out)) 1 _), ?_⟩
        clear he kb k0 k1 f0 f1
        refine wpAnyH_assign (i := 16) (d := some 4) _ rfl (by kernel_rfl) rfl rfl (by kernel_rfl) rfl ?_
        refine wpAnyH_assign (i := 17) (d := some 5) _ rfl (by kernel_rfl) rfl rfl (by kernel_rfl) rfl ?_
        refine wpAnyH_assign (i := 18) (d := some 6) _ rfl (by kernel_rfl) rfl rfl (by kernel_rfl) rfl ?_
        refine ⟨by kernel_rfl, fun w9 hz => ?_⟩
        simp only [Act.put, List.setIfInBounds_toArray, List.set_cons_zero, List.set_cons_succ]
        dsimp only at hz
        have r0 := (hz.out.bx _ (.tail _ (.tail _ (.tail _ (.head _))))).2.2.cell 0
        have r1 := (hz.out.bx _ (.tail _ (.tail _ (.tail _ (.head _))))).2.2.cell 1
        have s0 := (hz.out.bx _ (.tail _ (.tail _ (.head _)))).2.2.cell 0
        have s1 := (hz.out.bx _ (.tail _ (.tail _ (.head _)))).2.2.cell 1
        simp at r0 r1 s0 s1
        go_wp2
        refine bodyPost_ret (v := .tuple #[.agg #[.int .i64 p, .slice ga gn gc], .agg #[.int .i64 q, .slice ha hn hc9], .slice oa m oc, .slice fa fs.length fc, .int .i64 2]) ?_ rfl ?_
        · simp [results, Tryd.results41, go_sem, r0, r1, s0, s1]
        · exact ⟨p, _, g, q, _, hs, _, os, _, fs, 2, rfl, HPQ.out.1, HPQ.out.2, ⟨by omega, by omega⟩, own_li (hz.out.ls _ (.tail _ (.head _))).1 HG.out.1 HG.out.2, own_li (hz.out.ls _ (.tail _ (.tail _ (.head _)))).1 HH.out.1 HH.out.2, own_li (hz.out.ls _ (.tail _ (.tail _ (.tail _ (.head _))))).1 HO.out.1 HO.out.2, own_li (hz.out.ls _ (.head _)).1 HF.out.1 HF.out.2, hz.out.be⟩
      · have hq : b.tdiv 19 = 0 := Int.tdiv_eq_zero_of_lt b0 (by omega)
        refine wpAnyH_load (i := 11) (d := some 30) (.int .i64 0) rfl (by kernel_rfl) rfl rfl (by kernel_rfl) (by kernel_rfl) (by kernel_rfl) (fun z w0 _ => by simp [go_sem, hq]; rfl) ?_
        refine wpAnyH_take (i := 12) (d := some 31) (.int .i64 0) rfl (by kernel_rfl) rfl rfl (by kernel_rfl) (by kernel_rfl) (by kernel_rfl) (fun _ => by kernel_rfl) ?_
        refine wpAnyH_take (i := 13) (d := some 32) (.int .i64 0) rfl (by kernel_rfl) rfl rfl (by kernel_rfl) (by kernel_rfl) (by kernel_rfl) (fun _ => by kernel_rfl) ?_
        refine wpAnyH_special (i := 14) (d := none) rfl (by kernel_rfl) rfl rfl (by kernel_rfl) fun we he => ?_
        have kb := (he.out.bx _ (.tail _ (.tail _ (.tail _ (.head _))))).2.2
        have k0 := kb.cell 0; have k1 := kb.cell 1; have f0 := kb.frozen 0; have f1 := kb.frozen 1
        simp at k0 k1
        refine ⟨undef, (we.setCell ⟨w.heap.size, 0, none⟩ (.int .i64 p)).setCell ⟨w.heap.size, 1, none⟩ (.slice ga gn gc), ([((w.heap.size + 1), [.int .i64 0, .slice none 0 0]), (w.heap.size, [.int .i64 p, .slice ga gn gc])], ((.slice fa fs.length fc, fs) :: [(.slice ga gn gc, g), (.slice ha hn hc9, hs), (.slice oa m oc, os)]), none), .inr ⟨by simp [go_sem, Act.put, k0, k1, f0, f1], rfl⟩, Lib.hid ((he.out.put (B1 := [((w2.heap.size + 1), [.int .i64 q, .slice ha hn hc9]), (w2.heap.size, [.int .i64 p, .slice ga gn gc]), ((w.heap.size + 1), [.int .i64 0, .slice none 0 0])]) (B2 := []) (ne2 HN8.out (Nat.lt_succ_of_lt HN8.out)) 0 _).put (B1 := [((w2.heap.size + 1), [.int .i64 q, .slice ha hn hc9]), (w2.heap.size, [.int .i64 p, .slice ga gn gc]), ((w.heap.size + 1), [.int .i64 0, .slice none 0 0])]) (B2 := []) (ne2 HN8.out (Nat.lt_succ_of_lt HN8.out)) 1 _), ?_⟩
        clear he kb k0 k1 f0 f1
        refine wpAnyH_special (i := 15) (d := none) rfl (by kernel_rfl) rfl rfl (by kernel_rfl) fun we he => ?_
        have kb := (he.out.bx _ (.tail _ (.tail _ (.head _)))).2.2
        have k0 := kb.cell 0; have k1 := kb.cell 1; have f0 := kb.frozen 0; have f1 := kb.frozen 1
        simp at k0 k1
        refine ⟨undef, (we.setCell ⟨(w.heap.size + 1), 0, none⟩ (.int .i64 q)).setCell ⟨(w.heap.size + 1), 1, none⟩ (.slice ha hn hc9), ([((w.heap.size + 1), [.int .i64 q, .slice ha hn hc9]), (w.heap.size, [.int .i64 p, .slice ga gn gc])], ((.slice fa fs.length fc, fs) :: [(.slice ga gn gc, g), (.slice ha hn hc9, hs), (.slice oa m oc, os)]), none), .inr ⟨by simp [go_sem, Act.put, k0, k1, f0, f1], rfl⟩, Lib.hid ((he.out.put (B1 := [((w2.heap.size + 1), [.int .i64 q, .slice ha hn hc9]), (w2.heap.size, [.int .i64 p, .slice ga gn gc])]) (B2 := [(w.heap.size, [.int .i64 p, .slice ga gn gc])]) (ne3 HN8.out (Nat.lt_succ_of_lt HN8.out)) 0 _).put (B1 := [((w2.heap.size + 1), [.int .i64 q, .slice ha hn hc9]), (w2.heap.size, [.int .i64 p, .slice ga gn gc])]) (B2 := [(w.heap.size, [.int .i64 p, .slice ga gn gc])]) (ne3 HN8.out (Nat.lt_succ_of_lt HN8.out)) 1 _), ?_⟩
        clear he kb k0 k1 f0 f1
        refine wpAnyH_assign (i := 16) (d := some 4) _ rfl (by kernel_rfl) rfl rfl (by kernel_rfl) rfl ?_
        refine wpAnyH_assign (i := 17) (d := some 5) _ rfl (by kernel_rfl) rfl rfl (by kernel_rfl) rfl ?_
        refine wpAnyH_assign (i := 18) (d := some 6) _ rfl (by kernel_rfl) rfl rfl (by kernel_rfl) rfl ?_
        refine ⟨by kernel_rfl, fun w9 hz => ?_⟩
        simp only [Act.put, List.setIfInBounds_toArray, List.set_cons_zero, List.set_cons_succ]
        dsimp only at hz
        have r0 := (hz.out.bx _ (.tail _ (.tail _ (.tail _ (.head _))))).2.2.cell 0
        have r1 := (hz.out.bx _ (.tail _ (.tail _ (.tail _ (.head _))))).2.2.cell 1
        have s0 := (hz.out.bx _ (.tail _ (.tail _ (.head _)))).2.2.cell 0
        have s1 := (hz.out.bx _ (.tail _ (.tail _ (.head _)))).2.2.cell 1
        simp at r0 r1 s0 s1
        go_wp2
        refine bodyPost_ret (v := .tuple #[.agg #[.int .i64 p, .slice ga gn gc], .agg #[.int .i64 q, .slice ha hn hc9], .slice oa m oc, .slice fa fs.length fc, .int .i64 0]) ?_ rfl ?_
        · simp [results, Tryd.results41, go_sem, r0, r1, s0, s1]
        · exact ⟨p, _, g, q, _, hs, _, os, _, fs, 0, rfl, HPQ.out.1, HPQ.out.2, ⟨by omega, by omega⟩, own_li (hz.out.ls _ (.tail _ (.head _))).1 HG.out.1 HG.out.2, own_li (hz.out.ls _ (.tail _ (.tail _ (.head _)))).1 HH.out.1 HH.out.2, own_li (hz.out.ls _ (.tail _ (.tail _ (.tail _ (.head _))))).1 HO.out.1 HO.out.2, own_li (hz.out.ls _ (.head _)).1 HF.out.1 HF.out.2, hz.out.be⟩
    · by_cases hd : b = 19
      · subst hd
        refine wpAnyH_take (i := 11) (d := some 30) (.int .i64 1) rfl (by kernel_rfl) rfl rfl (by kernel_rfl) (by kernel_rfl) (by kernel_rfl) (fun _ => by kernel_rfl) ?_
        refine wpAnyH_take (i := 12) (d := some 31) (.int .i64 2) rfl (by kernel_rfl) rfl rfl (by kernel_rfl) (by kernel_rfl) (by kernel_rfl) (fun _ => by kernel_rfl) ?_
        refine wpAnyH_take (i := 13) (d := some 32) (.int .i64 3) rfl (by kernel_rfl) rfl rfl (by kernel_rfl) (by kernel_rfl) (by kernel_rfl) (fun _ => by kernel_rfl) ?_
        refine wpAnyH_special (i := 14) (d := none) rfl (by kernel_rfl) rfl rfl (by kernel_rfl) fun we he => ?_
        have kb := (he.out.bx _ (.tail _ (.tail _ (.tail _ (.head _))))).2.2
        have k0 := kb.cell 0; have k1 := kb.cell 1; have f0 := kb.frozen 0; have f1 := kb.frozen 1
        simp at k0 k1
        refine ⟨undef, (we.setCell ⟨w.heap.size, 0, none⟩ (.int .i64 p)).setCell ⟨w.heap.size, 1, none⟩ (.slice ga gn gc), ([((w.heap.size + 1), [.int .i64 0, .slice none 0 0]), (w.heap.size, [.int .i64 p, .slice ga gn gc])], ((.slice fa fs.length fc, fs) :: [(.slice ga gn gc, g), (.slice ha hn hc9, hs), (.slice oa m oc, os)]), none), .inr ⟨by simp [go_sem, Act.put, k0, k1, f0, f1], rfl⟩, Lib.hid ((he.out.put (B1 := [((w2.heap.size + 1), [.int .i64 q, .slice ha hn hc9]), (w2.heap.size, [.int .i64 p, .slice ga gn gc]), ((w.heap.size + 1), [.int .i64 0, .slice none 0 0])]) (B2 := []) (ne2 HN8.out (Nat.lt_succ_of_lt HN8.out)) 0 _).put (B1 := [((w2.heap.size + 1), [.int .i64 q, .slice ha hn hc9]), (w2.heap.size, [.int .i64 p, .slice ga gn gc]), ((w.heap.size + 1), [.int .i64 0, .slice none 0 0])]) (B2 := []) (ne2 HN8.out (Nat.lt_succ_of_lt HN8.out)) 1 _), ?_⟩
        clear he kb k0 k1 f0 f1
        refine wpAnyH_special (i := 15) (d := none) rfl (by kernel_rfl) rfl rfl (by kernel_rfl) fun we he => ?_
        have kb := (he.out.bx _ (.tail _ (.tail _ (.head _)))).2.2
        have k0 := kb.cell 0; have k1 := kb.cell 1; have f0 := kb.frozen 0; have f1 := kb.frozen 1
        simp at k0 k1
        refine ⟨undef, (we.setCell ⟨(w.heap.size + 1), 0, none⟩ (.int .i64 q)).setCell ⟨(w.heap.size + 1), 1, none⟩ (.slice ha hn hc9), ([((w.heap.size + 1), [.int .i64 q, .slice ha hn hc9]), (w.heap.size, [.int .i64 p, .slice ga gn gc])], ((.slice fa fs.length fc, fs) :: [(.slice ga gn gc, g), (.slice ha hn hc9, hs), (.slice oa m oc, os)]), none), .inr ⟨by simp [go_sem, Act.put, k0, k1, f0, f1], rfl⟩, Lib.hid ((he.out.put (B1 := [((w2.heap.size + 1), [.int .i64 q, .slice ha hn hc9]), (w2.heap.size, [.int .i64 p, .slice ga gn gc])]) (B2 := [(w.heap.size, [.int .i64 p, .slice ga gn gc])]) (ne3 HN8.out (Nat.lt_succ_of_lt HN8.out)) 0 _).put (B1 := [((w2.heap.size + 1), [.int .i64 q, .slice ha hn hc9]), (w2.heap.size, [.int .i64 p, .slice ga gn gc])]) (B2 := [(w.heap.size, [.int .i64 p, .slice ga gn gc])]) (ne3 HN8.out (Nat.lt_succ_of_lt HN8.out)) 1 _), ?_⟩
        clear he kb k0 k1 f0 f1
        refine wpAnyH_assign (i := 16) (d := some 4) _ rfl (by kernel_rfl) rfl rfl (by kernel_rfl) rfl ?_
        refine wpAnyH_assign (i := 17) (d := some 5) _ rfl (by kernel_rfl) rfl rfl (by kernel_rfl) rfl ?_
        refine wpAnyH_assign (i := 18) (d := some 6) _ rfl (by kernel_rfl) rfl rfl (by kernel_rfl) rfl ?_
        refine ⟨by kernel_rfl, fun w9 hz => ?_⟩
        simp only [Act.put, List.setIfInBounds_toArray, List.set_cons_zero, List.set_cons_succ]
        dsimp only at hz
        have r0 := (hz.out.bx _ (.tail _ (.tail _ (.tail _ (.head _))))).2.2.cell 0
        have r1 := (hz.out.bx _ (.tail _ (.tail _ (.tail _ (.head _))))).2.2.cell 1
        have s0 := (hz.out.bx _ (.tail _ (.tail _ (.head _)))).2.2.cell 0
        have s1 := (hz.out.bx _ (.tail _ (.tail _ (.head _)))).2.2.cell 1
        simp at r0 r1 s0 s1
        go_wp2
        refine bodyPost_ret (v := .tuple #[.agg #[.int .i64 p, .slice ga gn gc], .agg #[.int .i64 q, .slice ha hn hc9], .slice oa m oc, .slice fa fs.length fc, .int .i64 3]) ?_ rfl ?_
        · simp [results, Tryd.results41, go_sem, r0, r1, s0, s1]
        · exact ⟨p, _, g, q, _, hs, _, os, _, fs, 3, rfl, HPQ.out.1, HPQ.out.2, ⟨by omega, by omega⟩, own_li (hz.out.ls _ (.tail _ (.head _))).1 HG.out.1 HG.out.2, own_li (hz.out.ls _ (.tail _ (.tail _ (.head _)))).1 HH.out.1 HH.out.2, own_li (hz.out.ls _ (.tail _ (.tail _ (.tail _ (.head _))))).1 HO.out.1 HO.out.2, own_li (hz.out.ls _ (.head _)).1 HF.out.1 HF.out.2, hz.out.be⟩
      · have hq : b.tdiv 19 = 0 := Int.tdiv_eq_zero_of_lt b0 (by omega)
        refine wpAnyH_load (i := 11) (d := some 30) (.int .i64 0) rfl (by kernel_rfl) rfl rfl (by kernel_rfl) (by kernel_rfl) (by kernel_rfl) (fun z w0 _ => by simp [go_sem, hq]; rfl) ?_
        refine wpAnyH_take (i := 12) (d := some 31) (.int .i64 0) rfl (by kernel_rfl) rfl rfl (by kernel_rfl) (by kernel_rfl) (by kernel_rfl) (fun _ => by kernel_rfl) ?_
        refine wpAnyH_take (i := 13) (d := some 32) (.int .i64 1) rfl (by kernel_rfl) rfl rfl (by kernel_rfl) (by kernel_rfl) (by kernel_rfl) (fun _ => by kernel_rfl) ?_
        refine wpAnyH_special (i := 14) (d := none) rfl (by kernel_rfl) rfl rfl (by kernel_rfl) fun we he => ?_
        have kb := (he.out.bx _ (.tail _ (.tail _ (.tail _ (.head _))))).2.2
        have k0 := kb.cell 0; have k1 := kb.cell 1; have f0 := kb.frozen 0; have f1 := kb.frozen 1
        simp at k0 k1
        refine ⟨undef, (we.setCell ⟨w.heap.size, 0, none⟩ (.int .i64 p)).setCell ⟨w.heap.size, 1, none⟩ (.slice ga gn gc), ([((w.heap.size + 1), [.int .i64 0, .slice none 0 0]), (w.heap.size, [.int .i64 p, .slice ga gn gc])], ((.slice fa fs.length fc, fs) :: [(.slice ga gn gc, g), (.slice ha hn hc9, hs), (.slice oa m oc, os)]), none), .inr ⟨by simp [go_sem, Act.put, k0, k1, f0, f1], rfl⟩, Lib.hid ((he.out.put (B1 := [((w2.heap.size + 1), [.int .i64 q, .slice ha hn hc9]), (w2.heap.size, [.int .i64 p, .slice ga gn gc]), ((w.heap.size + 1), [.int .i64 0, .slice none 0 0])]) (B2 := []) (ne2 HN8.out (Nat.lt_succ_of_lt HN8.out)) 0 _).put (B1 := [((w2.heap.size + 1), [.int .i64 q, .slice ha hn hc9]), (w2.heap.size, [.int .i64 p, .slice ga gn gc]), ((w.heap.size + 1), [.int .i64 0, .slice none 0 0])]) (B2 := []) (ne2 HN8.out (Nat.lt_succ_of_lt HN8.out)) 1 _), ?_⟩
        clear he kb k0 k1 f0 f1
        refine wpAnyH_special (i := 15) (d := none) rfl (by kernel_rfl) rfl rfl (by kernel_rfl) fun we he => ?_
        have kb := (he.out.bx _ (.tail _ (.tail _ (.head _)))).2.2
        have k0 := kb.cell 0; have k1 := kb.cell 1; have f0 := kb.frozen 0; have f1 := kb.frozen 1
        simp at k0 k1
        refine ⟨undef, (we.setCell ⟨(w.heap.size + 1), 0, none⟩ (.int .i64 q)).setCell ⟨(w.heap.size + 1), 1, none⟩ (.slice ha hn hc9), ([((w.heap.size + 1), [.int .i64 q, .slice ha hn hc9]), (w.heap.size, [.int .i64 p, .slice ga gn gc])], ((.slice fa fs.length fc, fs) :: [(.slice ga gn gc, g), (.slice ha hn hc9, hs), (.slice oa m oc, os)]), none), .inr ⟨by simp [go_sem, Act.put, k0, k1, f0, f1], rfl⟩, Lib.hid ((he.out.put (B1 := [((w2.heap.size + 1), [.int .i64 q, .slice ha hn hc9]), (w2.heap.size, [.int .i64 p, .slice ga gn gc])]) (B2 := [(w.heap.size, [.int .i64 p, .slice ga gn gc])]) (ne3 HN8.out (Nat.lt_succ_of_lt HN8.out)) 0 _).put (B1 := [((w2.heap.size + 1), [.int .i64 q, .slice ha hn hc9]), (w2.heap.size, [.int .i64 p, .slice ga gn gc])]) (B2 := [(w.heap.size, [.int .i64 p, .slice ga gn gc])]) (ne3 HN8.out (Nat.lt_succ_of_lt HN8.out)) 1 _), ?_⟩
        clear he kb k0 k1 f0 f1
        refine wpAnyH_assign (i := 16) (d := some 4) _ rfl (by kernel_rfl) rfl rfl (by kernel_rfl) rfl ?_
        refine wpAnyH_assign (i := 17) (d := some 5) _ rfl (by kernel_rfl) rfl rfl (by kernel_rfl) rfl ?_
        refine wpAnyH_assign (i := 18) (d := some 6) _ rfl (by kernel_rfl) rfl rfl (by kernel_rfl) rfl ?_
        refine ⟨by kernel_rfl, fun w9 hz => ?_⟩
        simp only [Act.put, List.setIfInBounds_toArray, List.set_cons_zero, List.set_cons_succ]
        dsimp only at hz
        have r0 := (hz.out.bx _ (.tail _ (.tail _ (.tail _ (.head _))))).2.2.cell 0
        have r1 := (hz.out.bx _ (.tail _ (.tail _ (.tail _ (.head _))))).2.2.cell 1
        have s0 := (hz.out.bx _ (.tail _ (.tail _ (.head _)))).2.2.cell 0
        have s1 := (hz.out.bx _ (.tail _ (.tail _ (.head _)))).2.2.cell 1
        simp at r0 r1 s0 s1
        go_wp2
        refine bodyPost_ret (v := .tuple #[.agg #[.int .i64 p, .slice ga gn gc], .agg #[.int .i64 q, .slice ha hn hc9], .slice oa m oc, .slice fa fs.length fc, .int .i64 1]) ?_ rfl ?_
        · simp [results, Tryd.results41, go_sem, r0, r1, s0, s1]
        · exact ⟨p, _, g, q, _, hs, _, os, _, fs, 1, rfl, HPQ.out.1, HPQ.out.2, ⟨by omega, by omega⟩, own_li (hz.out.ls _ (.tail _ (.head _))).1 HG.out.1 HG.out.2, own_li (hz.out.ls _ (.tail _ (.tail _ (.head _)))).1 HH.out.1 HH.out.2, own_li (hz.out.ls _ (.tail _ (.tail _ (.tail _ (.head _))))).1 HO.out.1 HO.out.2, own_li (hz.out.ls _ (.head _)).1 HF.out.1 HF.out.2, hz.out.be⟩

set_option maxRecDepth 100000 in
set_option maxHeartbeats 3200000 in
theorem drawTurnMade_any (s : Value) (w : World) (h : CodeIn w s) : Calls Tryd.prog 44 #[s] w (TmPost w) := by
  have HC := Lib.hid (show CodeIn ((w.alloc (.cells #[.int .i64 0, .slice none 0 0] 25)).alloc (.cells #[.int .i64 0, .slice none 0 0] 25)) s from code_more3 (code_more3 h _) _)
  clear h
  go_enter Tryd.func44, Tryd.ntmps44
  go_wp2_with fail
  refine (open_any _ _ HC.out).mono ?_
  rintro e w1 ⟨rfl, hr, hb⟩
  have D1 := Lib.hid (Dn.start2 (P := [.int .i64 0, .slice none 0 0]) (Q := [.int .i64 0, .slice none 0 0]) hr hb)
  clear hr hb HC
  go_wp2_with fail
  try rw [show ((w.alloc (.cells #[.int .i64 0, .slice none 0 0] 25)).alloc (.cells #[.int .i64 0, .slice none 0 0] 25)).heap.size = w.heap.size + 1 + 1 by simp]
  refine (two_any _ _ 16 _ (D1.out.rd _ rfl) (by omega) (by omega)).mono ?_
  rintro e w2 ⟨p, gv, g, q, hv, hs, ov, os, k2, rfl, tw, hk2, hg, hr⟩
  have D2 := Lib.hid (D1.out.mades (L'' := [(gv, g), (hv, hs), (ov, os)]) hg hr (fun x m => by
    simp at m
    rcases m with rfl | rfl | rfl
    · exact tw.og
    · exact tw.oh
    · exact tw.oo))
  obtain ⟨ga, gc, e1⟩ := Own.form tw.og
  obtain ⟨ha, hc9, e2⟩ := Own.form tw.oh
  obtain ⟨oa, oc, e3⟩ := Own.form tw.oo
  obtain ⟨m, m1, m5, hod⟩ := tw.od
  have hom : os.length = m := by have := hod.len; omega
  have HG := Lib.hid (show g.length ≤ 50 ∧ Sml g from ⟨tw.lg, tw.sg⟩)
  have HH := Lib.hid (show hs.length ≤ 50 ∧ Sml hs from ⟨tw.lh, tw.sh⟩)
  have HO := Lib.hid (od_dr hod)
  have HPQ := Lib.hid (show (0 ≤ p ∧ p ≤ 5) ∧ (0 ≤ q ∧ q ≤ 5) from ⟨⟨tw.p0, tw.p5⟩, ⟨tw.q0, tw.q5⟩⟩)
  subst e1 e2 e3
  have HN8 : Hid (w.heap.size + 1 < w2.heap.size) := Lib.hid ((D2.out.bx _ (.head _)).2.2.lt)
  obtain ⟨gn, hgn⟩ : ∃ gn, g.length = gn := ⟨_, rfl⟩
  obtain ⟨hn, hhn⟩ : ∃ gn, hs.length = gn := ⟨_, rfl⟩
  rw [hgn, hhn, hom] at D2
  rw [hgn, hhn, hom]
  clear hg hr tw hod hom hgn hhn D1
  obtain ⟨w3, hw3⟩ : ∃ z, z = (w2.alloc (.cells #[.int .i64 p, .slice ga gn gc] 25)).alloc (.cells #[.int .i64 q, .slice ha hn hc9] 25) := ⟨_, rfl⟩
  have D3 : Hid (Dn w (w.heap.size + 1 + 1) [(w2.heap.size + 1, [.int .i64 q, .slice ha hn hc9]), (w2.heap.size, [.int .i64 p, .slice ga gn gc]), (w.heap.size + 1, [.int .i64 0, .slice none 0 0]), (w.heap.size, [.int .i64 0, .slice none 0 0])] [(.slice ga gn gc, g), (.slice ha hn hc9, hs), (.slice oa m oc, os)] (some k2) w3) := Lib.hid (by
    have h1 := (D2.out.box (T := 25) [.int .i64 p, .slice ga gn gc]).box (T := 25) [.int .i64 q, .slice ha hn hc9]
    rw [show (w2.alloc (.cells [.int .i64 p, .slice ga gn gc].toArray 25)).heap.size = w2.heap.size + 1 by simp] at h1
    rw [hw3]; exact h1)
  have HW3 := Lib.hid hw3
  clear hw3 D2
  go_wp2_with fail
  rw [← HW3.out]
  apply wp_region_H (Z := List (Nat × List Value) × List (Value × List Int) × Option Nat) (S := fun k => k == 3 || k == 5 || k == 12 || k == 13 || k == 14) (C := fun z w' => Hid (Dn w (w.heap.size + 1 + 1) (((w2.heap.size + 1), [.int .i64 q, .slice ha hn hc9]) :: (w2.heap.size, [.int .i64 p, .slice ga gn gc]) :: z.1) z.2.1 z.2.2 w')) [0, 1, 2, 4, 9, 10, 11] ([((w.heap.size + 1), [.int .i64 0, .slice none 0 0]), (w.heap.size, [.int .i64 0, .slice none 0 0])], [(.slice ga gn gc, g), (.slice ha hn hc9, hs), (.slice oa m oc, os)], some k2)
  · kernel_rfl
  · kernel_rfl
  · kernel_rfl
  · exact ⟨rfl, rfl, rfl, rfl, rfl, rfl, rfl, trivial⟩
  · rfl
  · decide
  · exact Lib.hid (D3.out.on (Below.refl _ _).drew)
  · intro z
    dsimp only [pickL, nthO]
    go_big_quiet_want
    go_big_quiet_op
    refine ⟨.agg #[.int .i64 p, .slice ga gn gc], fun w' hw' => ?_, ?_⟩
    · have q9 := (hw'.out.bx _ (.tail _ (.head _))).2.2
      have q0 := q9.cell 0
      have q1 := q9.cell 1
      simp at q0 q1
      simp [go_sem, q0, q1]
    go_big_quiet_on
    go_big_quiet_want
    go_big_quiet_op
    refine ⟨.agg #[.int .i64 q, .slice ha hn hc9], fun w' hw' => ?_, ?_⟩
    · have q9 := (hw'.out.bx _ (.head _)).2.2
      have q0 := q9.cell 0
      have q1 := q9.cell 1
      simp at q0 q1
      simp [go_sem, q0, q1]
    go_big_quiet_on
    go_big_quiet_want; go_big_quiet_op; first | go_big_quiet_on | (refine ⟨_, fun _ _ => rfl, ?_⟩; go_big_quiet_on)
    go_big_quiet_want; go_big_quiet_op; first | go_big_quiet_on | (refine ⟨_, fun _ _ => rfl, ?_⟩; go_big_quiet_on)
    go_big_quiet_want; go_big_quiet_op; first | go_big_quiet_on | (refine ⟨_, fun _ _ => rfl, ?_⟩; go_big_quiet_on)
    go_big_quiet_want; go_big_quiet_op; first | go_big_quiet_on | (refine ⟨_, fun _ _ => rfl, ?_⟩; go_big_quiet_on)
    go_big_quiet_want; go_big_quiet_op; first | go_big_quiet_on | (refine ⟨_, fun _ _ => rfl, ?_⟩; go_big_quiet_on)
    exact wpQuiet_nil rfl
  · skip
    refine wpAnyH_call (i := 3) (d := some 21) 56 #[.pointer (some ⟨w.heap.size + 1 + 1, 0, none⟩), .int .i64 2] rfl (by kernel_rfl) rfl rfl (by kernel_rfl) (fun _ => by kernel_rfl) fun wac hc => ?_
    refine (pick_any _ _ 2 _ (hc.out.rd _ rfl) (by omega)).mono ?_
    rintro e wbc ⟨c, rfl, c0, c1, mmc, hw⟩
    have c2 := c1 (by omega)
    refine ⟨_, rfl, ([((w.heap.size + 1), [.int .i64 0, .slice none 0 0]), (w.heap.size, [.int .i64 0, .slice none 0 0])], [(.slice ga gn gc, g), (.slice ha hn hc9, hs), (.slice oa m oc, os)], some (k2 + 1)), Lib.hid (hc.out.next hw), ?_⟩
    clear hc hw c1
    refine wpAnyH_call (i := 5) (d := some 23) 56 #[.pointer (some ⟨w.heap.size + 1 + 1, 0, none⟩), .int .i64 20] rfl (by kernel_rfl) rfl rfl (by kernel_rfl) (fun _ => by kernel_rfl) fun wab hc => ?_
    refine (pick_any _ _ 20 _ (hc.out.rd _ rfl) (by omega)).mono ?_
    rintro e wbb ⟨b, rfl, b0, b1, mmb, hw⟩
    have b2 := b1 (by omega)
    refine ⟨_, rfl, ([((w.heap.size + 1), [.int .i64 0, .slice none 0 0]), (w.heap.size, [.int .i64 0, .slice none 0 0])], [(.slice ga gn gc, g), (.slice ha hn hc9, hs), (.slice oa m oc, os)], some ((k2 + 1) + 1)), Lib.hid (hc.out.next hw), ?_⟩
    clear hc hw b1
    rcases (show c = 0 ∨ c = 1 by omega) with rfl | rfl
    · by_cases hd : b = 19
      · subst hd
        refine wpAnyH_take (i := 6) (d := some 24) (.int .i64 1) rfl (by kernel_rfl) rfl rfl (by kernel_rfl) (by kernel_rfl) (by kernel_rfl) (fun _ => by kernel_rfl) ?_
        refine wpAnyH_take (i := 7) (d := some 25) (.int .i64 2) rfl (by kernel_rfl) rfl rfl (by kernel_rfl) (by kernel_rfl) (by kernel_rfl) (fun _ => by kernel_rfl) ?_
        refine wpAnyH_take (i := 8) (d := some 26) (.int .i64 2) rfl (by kernel_rfl) rfl rfl (by kernel_rfl) (by kernel_rfl) (by kernel_rfl) (fun _ => by kernel_rfl) ?_
        refine wpAnyH_call (i := 12) (d := some 30) 61 #[.pointer (some ⟨w.heap.size + 1 + 1, 0, none⟩), .int .i64 m, .int .i64 16] rfl (by kernel_rfl) rfl rfl (by kernel_rfl) (fun _ => by kernel_rfl) fun waf hc => ?_
        refine (drord_any _ (k2 + 1 + 1) m 16 waf (hc.out.rd _ rfl) (by omega) m1 m5 (by omega)).mono ?_
        rintro e wbf ⟨fv, fs, k3, rfl, oo, hl, hsm, _, hk3, hg, hr⟩
        obtain ⟨fa, fc, e4⟩ := Own.form oo
        subst e4
        refine ⟨_, rfl, ([((w.heap.size + 1), [.int .i64 0, .slice none 0 0]), (w.heap.size, [.int .i64 0, .slice none 0 0])], (.slice fa fs.length fc, fs) :: [(.slice ga gn gc, g), (.slice ha hn hc9, hs), (.slice oa m oc, os)], some k3), Lib.hid (hc.out.made hg hr oo), ?_⟩
        have HF := Lib.hid (show fs.length ≤ 50 ∧ Sml fs from ⟨by omega, small_sml hsm⟩)
        clear hc oo hg hr hl hsm
        refine wpAnyH_special (i := 13) (d := none) rfl (by kernel_rfl) rfl rfl (by kernel_rfl) fun we he => ?_
        have kb := (he.out.bx _ (.tail _ (.tail _ (.tail _ (.head _))))).2.2
        have k0 := kb.cell 0; have k1 := kb.cell 1; have f0 := kb.frozen 0; have f1 := kb.frozen 1
        simp at k0 k1
        refine ⟨undef, (we.setCell ⟨w.heap.size, 0, none⟩ (.int .i64 p)).setCell ⟨w.heap.size, 1, none⟩ (.slice ga gn gc), ([((w.heap.size + 1), [.int .i64 0, .slice none 0 0]), (w.heap.size, [.int .i64 p, .slice ga gn gc])], ((.slice fa fs.length fc, fs) :: [(.slice ga gn gc, g), (.slice ha hn hc9, hs), (.slice oa m oc, os)]), none), .inr ⟨by simp [go_sem, Act.put, k0, k1, f0, f1], rfl⟩, Lib.hid ((he.out.put (B1 := [((w2.heap.size + 1), [.int .i64 q, .slice ha hn hc9]), (w2.heap.size, [.int .i64 p, .slice ga gn gc]), ((w.heap.size + 1), [.int .i64 0, .slice none 0 0])]) (B2 := []) (ne2 HN8.out (Nat.lt_succ_of_lt HN8.out)) 0 _).put (B1 := [((w2.heap.size + 1), [.int .i64 q, .slice ha hn hc9]), (w2.heap.size, [.int .i64 p, .slice ga gn gc]), ((w.heap.size + 1), [.int .i64 0, .slice none 0 0])]) (B2 := []) (ne2 HN8.out (Nat.lt_succ_of_lt HN8.out)) 1 _), ?_⟩
        clear he kb k0 k1 f0 f1
        refine wpAnyH_special (i := 14) (d := none) rfl (by kernel_rfl) rfl rfl (by kernel_rfl) fun we he => ?_
        have kb := (he.out.bx _ (.tail _ (.tail _ (.head _)))).2.2
        have k0 := kb.cell 0; have k1 := kb.cell 1; have f0 := kb.frozen 0; have f1 := kb.frozen 1
        simp at k0 k1
        refine ⟨undef, (we.setCell ⟨(w.heap.size + 1), 0, none⟩ (.int .i64 q)).setCell ⟨(w.heap.size + 1), 1, none⟩ (.slice ha hn hc9), ([((w.heap.size + 1), [.int .i64 q, .slice ha hn hc9]), (w.heap.size, [.int .i64 p, .slice ga gn gc])], ((.slice fa fs.length fc, fs) :: [(.slice ga gn gc, g), (.slice ha hn hc9, hs), (.slice oa m oc, os)]), none), .inr ⟨by simp [go_sem, Act.put, k0, k1, f0, f1], rfl⟩, Lib.hid ((he.out.put (B1 := [((w2.heap.size + 1), [.int .i64 q, .slice ha hn hc9]), (w2.heap.size, [.int .i64 p, .slice ga gn gc])]) (B2 := [(w.heap.size, [.int .i64 p, .slice ga gn gc])]) (ne3 HN8.out (Nat.lt_succ_of_lt HN8.out)) 0 _).put (B1 := [((w2.heap.size + 1), [.int .i64 q, .slice ha hn hc9]), (w2.heap.size, [.int .i64 p, .slice ga gn gc])]) (B2 := [(w.heap.size, [.int .i64 p, .slice ga gn gc])]) (ne3 HN8.out (Nat.lt_succ_of_lt HN8.out)) 1 _), ?_⟩
        clear he kb k0 k1 f0 f1
        refine wpAnyH_assign (i := 15) (d := some 4) _ rfl (by kernel_rfl) rfl rfl (by kernel_rfl) rfl ?_
        refine wpAnyH_assign (i := 16) (d := some 5) _ rfl (by kernel_rfl) rfl rfl (by kernel_rfl) rfl ?_
        refine ⟨by kernel_rfl, fun w9 hz => ?_⟩
        simp only [Act.put, List.setIfInBounds_toArray, List.set_cons_zero, List.set_cons_succ]
        dsimp only at hz
        have r0 := (hz.out.bx _ (.tail _ (.tail _ (.tail _ (.head _))))).2.2.cell 0
        have r1 := (hz.out.bx _ (.tail _ (.tail _ (.tail _ (.head _))))).2.2.cell 1
        have s0 := (hz.out.bx _ (.tail _ (.tail _ (.head _)))).2.2.cell 0
        have s1 := (hz.out.bx _ (.tail _ (.tail _ (.head _)))).2.2.cell 1
        simp at r0 r1 s0 s1
        go_wp2
        refine bodyPost_ret (v := .tuple #[.agg #[.int .i64 p, .slice ga gn gc], .agg #[.int .i64 q, .slice ha hn hc9], .int .i64 2, .slice fa fs.length fc]) ?_ rfl ?_
        · simp [results, Tryd.results44, go_sem, r0, r1, s0, s1]
        · exact ⟨p, _, g, q, _, hs, 2, _, fs, rfl, HPQ.out.1, HPQ.out.2, ⟨by omega, by omega⟩, own_li (hz.out.ls _ (.tail _ (.head _))).1 HG.out.1 HG.out.2, own_li (hz.out.ls _ (.tail _ (.tail _ (.head _)))).1 HH.out.1 HH.out.2, own_li (hz.out.ls _ (.head _)).1 HF.out.1 HF.out.2, hz.out.be⟩
      · have hq : b.tdiv 19 = 0 := Int.tdiv_eq_zero_of_lt b0 (by omega)
        refine wpAnyH_load (i := 6) (d := some 24) (.int .i64 0) rfl (by kernel_rfl) rfl rfl (by kernel_rfl) (by kernel_rfl) (by kernel_rfl) (fun z w0 _ => by simp [go_sem, hq]; rfl) ?_
        refine wpAnyH_take (i := 7) (d := some 25) (.int .i64 0) rfl (by kernel_rfl) rfl rfl (by kernel_rfl) (by kernel_rfl) (by kernel_rfl) (fun _ => by kernel_rfl) ?_
        refine wpAnyH_take (i := 8) (d := some 26) (.int .i64 0) rfl (by kernel_rfl) rfl rfl (by kernel_rfl) (by kernel_rfl) (by kernel_rfl) (fun _ => by kernel_rfl) ?_
        refine wpAnyH_call (i := 12) (d := some 30) 61 #[.pointer (some ⟨w.heap.size + 1 + 1, 0, none⟩), .int .i64 m, .int .i64 16] rfl (by kernel_rfl) rfl rfl (by kernel_rfl) (fun _ => by kernel_rfl) fun waf hc => ?_
        refine (drord_any _ (k2 + 1 + 1) m 16 waf (hc.out.rd _ rfl) (by omega) m1 m5 (by omega)).mono ?_
        rintro e wbf ⟨fv, fs, k3, rfl, oo, hl, hsm, _, hk3, hg, hr⟩
        obtain ⟨fa, fc, e4⟩ := Own.form oo
        subst e4
        refine ⟨_, rfl, ([((w.heap.size + 1), [.int .i64 0, .slice none 0 0]), (w.heap.size, [.int .i64 0, .slice none 0 0])], (.slice fa fs.length fc, fs) :: [(.slice ga gn gc, g), (.slice ha hn hc9, hs), (.slice oa m oc, os)], some k3), Lib.hid (hc.out.made hg hr oo), ?_⟩
        have HF := Lib.hid (show fs.length ≤ 50 ∧ Sml fs from ⟨by omega, small_sml hsm⟩)
        clear hc oo hg hr hl hsm
        refine wpAnyH_special (i := 13) (d := none) rfl (by kernel_rfl) rfl rfl (by kernel_rfl) fun we he => ?_
        have kb := (he.out.bx _ (.tail _ (.tail _ (.tail _ (.head _))))).2.2
        have k0 := kb.cell 0; have k1 := kb.cell 1; have f0 := kb.frozen 0; have f1 := kb.frozen 1
        simp at k0 k1
        refine ⟨undef, (we.setCell ⟨w.heap.size, 0, none⟩ (.int .i64 p)).setCell ⟨w.heap.size, 1, none⟩ (.slice ga gn gc), ([((w.heap.size + 1), [.int .i64 0, .slice none 0 0]), (w.heap.size, [.int .i64 p, .slice ga gn gc])], ((.slice fa fs.length fc, fs) :: [(.slice ga gn gc, g), (.slice ha hn hc9, hs), (.slice oa m oc, os)]), none), .inr ⟨by simp [go_sem, Act.put, k0, k1, f0, f1], rfl⟩, Lib.hid ((he.out.put (B1 := [((w2.heap.size + 1), [.int .i64 q, .slice ha hn hc9]), (w2.heap.size, [.int .i64 p, .slice ga gn gc]), ((w.heap.size + 1), [.int .i64 0, .slice none 0 0])]) (B2 := []) (ne2 HN8.out (Nat.lt_succ_of_lt HN8.out)) 0 _).put (B1 := [((w2.heap.size + 1), [.int .i64 q, .slice ha hn hc9]), (w2.heap.size, [.int .i64 p, .slice ga gn gc]), ((w.heap.size + 1), [.int .i64 0, .slice none 0 0])]) (B2 := []) (ne2 HN8.out (Nat.lt_succ_of_lt HN8.out)) 1 _), ?_⟩
        clear he kb k0 k1 f0 f1
        refine wpAnyH_special (i := 14) (d := none) rfl (by kernel_rfl) rfl rfl (by kernel_rfl) fun we he => ?_
        have kb := (he.out.bx _ (.tail _ (.tail _ (.head _)))).2.2
        have k0 := kb.cell 0; have k1 := kb.cell 1; have f0 := kb.frozen 0; have f1 := kb.frozen 1
        simp at k0 k1
        refine ⟨undef, (we.setCell ⟨(w.heap.size + 1), 0, none⟩ (.int .i64 q)).setCell ⟨(w.heap.size + 1), 1, none⟩ (.slice ha hn hc9), ([((w.heap.size + 1), [.int .i64 q, .slice ha hn hc9]), (w.heap.size, [.int .i64 p, .slice ga gn gc])], ((.slice fa fs.length fc, fs) :: [(.slice ga gn gc, g), (.slice ha hn hc9, hs), (.slice oa m oc, os)]), none), .inr ⟨by simp [go_sem, Act.put, k0, k1, f0, f1], rfl⟩, Lib.hid ((he.out.put (B1 := [((w2.heap.size + 1), [.int .i64 q, .slice ha hn hc9]), (w2.heap.size, [.int .i64 p, .slice ga gn gc])]) (B2 := [(w.heap.size, [.int .i64 p, .slice ga gn gc])]) (ne3 HN8.out (Nat.lt_succ_of_lt HN8.out)) 0 _).put (B1 := [((w2.heap.size + 1), [.int .i64 q, .slice ha hn hc9]), (w2.heap.size, [.int .i64 p, .slice ga gn gc])]) (B2 := [(w.heap.size, [.int .i64 p, .slice ga gn gc])]) (ne3 HN8.out (Nat.lt_succ_of_lt HN8.out)) 1 _), ?_⟩
        clear he kb k0 k1 f0 f1
        refine wpAnyH_assign (i := 15) (d := some 4) _ rfl (by kernel_rfl) rfl rfl (by kernel_rfl) rfl ?_
        refine wpAnyH_assign (i := 16) (d := some 5) _ rfl (by kernel_rfl) rfl rfl (by kernel_rfl) rfl ?_
        refine ⟨by kernel_rfl, fun w9 hz => ?_⟩
        simp only [Act.put, List.setIfInBounds_toArray, List.set_cons_zero, List.set_cons_succ]
        dsimp only at hz
        have r0 := (hz.out.bx _ (.tail _ (.tail _ (.tail _ (.head _))))).2.2.cell 0
        have r1 := (hz.out.bx _ (.tail _ (.tail _ (.tail _ (.head _))))).2.2.cell 1
        have s0 := (hz.out.bx _ (.tail _ (.tail _ (.head _)))).2.2.cell 0
        have s1 := (hz.out.bx _ (.tail _ (.tail _ (.head _)))).2.2.cell 1
        simp at r0 r1 s0 s1
        go_wp2
        refine bodyPost_ret (v := .tuple #[.agg #[.int .i64 p, .slice ga gn gc], .agg #[.int .i64 q, .slice ha hn hc9], .int .i64 0, .slice fa fs.length fc]) ?_ rfl ?_
        · simp [results, Tryd.results44, go_sem, r0, r1, s0, s1]
        · exact ⟨p, _, g, q, _, hs, 0, _, fs, rfl, HPQ.out.1, HPQ.out.2, ⟨by omega, by omega⟩, own_li (hz.out.ls _ (.tail _ (.head _))).1 HG.out.1 HG.out.2, own_li (hz.out.ls _ (.tail _ (.tail _ (.head _)))).1 HH.out.1 HH.out.2, own_li (hz.out.ls _ (.head _)).1 HF.out.1 HF.out.2, hz.out.be⟩
    · by_cases hd : b = 19
      · subst hd
        refine wpAnyH_take (i := 6) (d := some 24) (.int .i64 1) rfl (by kernel_rfl) rfl rfl (by kernel_rfl) (by kernel_rfl) (by kernel_rfl) (fun _ => by kernel_rfl) ?_
        refine wpAnyH_take (i := 7) (d := some 25) (.int .i64 2) rfl (by kernel_rfl) rfl rfl (by kernel_rfl) (by kernel_rfl) (by kernel_rfl) (fun _ => by kernel_rfl) ?_
        refine wpAnyH_take (i := 8) (d := some 26) (.int .i64 3) rfl (by kernel_rfl) rfl rfl (by kernel_rfl) (by kernel_rfl) (by kernel_rfl) (fun _ => by kernel_rfl) ?_
        refine wpAnyH_call (i := 12) (d := some 30) 61 #[.pointer (some ⟨w.heap.size + 1 + 1, 0, none⟩), .int .i64 m, .int .i64 16] rfl (by kernel_rfl) rfl rfl (by kernel_rfl) (fun _ => by kernel_rfl) fun waf hc => ?_
        refine (drord_any _ (k2 + 1 + 1) m 16 waf (hc.out.rd _ rfl) (by omega) m1 m5 (by omega)).mono ?_
        rintro e wbf ⟨fv, fs, k3, rfl, oo, hl, hsm, _, hk3, hg, hr⟩
        obtain ⟨fa, fc, e4⟩ := Own.form oo
        subst e4
        refine ⟨_, rfl, ([((w.heap.size + 1), [.int .i64 0, .slice none 0 0]), (w.heap.size, [.int .i64 0, .slice none 0 0])], (.slice fa fs.length fc, fs) :: [(.slice ga gn gc, g), (.slice ha hn hc9, hs), (.slice oa m oc, os)], some k3), Lib.hid (hc.out.made hg hr oo), ?_⟩
        have HF := Lib.hid (show fs.length ≤ 50 ∧ Sml fs from ⟨by omega, small_sml hsm⟩)
        clear hc oo hg hr hl hsm
        refine wpAnyH_special (i := 13) (d := none) rfl (by kernel_rfl) rfl rfl (by kernel_rfl) fun we he => ?_
        have kb := (he.out.bx _ (.tail _ (.tail _ (.tail _ (.head _))))).2.2
        have k0 := kb.cell 0; have k1 := kb.cell 1; have f0 := kb.frozen 0; have f1 := kb.frozen 1
        simp at k0 k1
        refine ⟨undef, (we.setCell ⟨w.heap.size, 0, none⟩ (.int .i64 p)).setCell ⟨w.heap.size, 1, none⟩ (.slice ga gn gc), ([((w.heap.size + 1), [.int .i64 0, .slice none 0 0]), (w.heap.size, [.int .i64 p, .slice ga gn gc])], ((.slice fa fs.length fc, fs) :: [(.slice ga gn gc, g), (.slice ha hn hc9, hs), (.slice oa m oc, os)]), none), .inr ⟨by simp [go_sem, Act.put, k0, k1, f0, f1], rfl⟩, Lib.hid ((he.out.put (B1 := [((w2.heap.size + 1), [.int .i64 q, .slice ha hn hc9]), (w2.heap.size, [.int .i64 p, .slice ga gn gc]), ((w.heap.size + 1), [.int .i64 0, .slice none 0 0])]) (B2 := []) (ne2 HN8.out (Nat.lt_succ_of_lt HN8.out)) 0 _).put (B1 := [((w2.heap.size + 1), [.int .i64 q, .slice ha hn hc9]), (w2.heap.size, [.int .i64 p, .slice ga gn gc]), ((w.heap.size + 1), [.int .i64 0, .slice none 0 0])]) (B2 := []) (ne2 HN8.out (Nat.lt_succ_of_lt HN8.out)) 1 _), ?_⟩
        clear he kb k0 k1 f0 f1
        refine wpAnyH_special (i := 14) (d := none) rfl (by kernel_rfl) rfl rfl (by kernel_rfl) fun we he => ?_
        have kb := (he.out.bx _ (.tail _ (.tail _ (.head _)))).2.2
        have k0 := kb.cell 0; have k1 := kb.cell 1; have f0 := kb.frozen 0; have f1 := kb.frozen 1
        simp at k0 k1
        refine ⟨undef, (we.setCell ⟨(w.heap.size + 1), 0, none⟩ (.int .i64 q)).setCell ⟨(w.heap.size + 1), 1, none⟩ (.slice ha hn hc9), ([((w.heap.size + 1), [.int .i64 q, .slice ha hn hc9]), (w.heap.size, [.int .i64 p, .slice ga gn gc])], ((.slice fa fs.length fc, fs) :: [(.slice ga gn gc, g), (.slice ha hn hc9, hs), (.slice oa m oc, os)]), none), .inr ⟨by simp [go_sem, Act.put, k0, k1, f0, f1], rfl⟩, Lib.hid ((he.out.put (B1 := [((w2.heap.size + 1), [.int .i64 q, .slice ha hn hc9]), (w2.heap.size, [.int .i64 p, .slice ga gn gc])]) (B2 := [(w.heap.size, [.int .i64 p, .slice ga gn gc])]) (ne3 HN8.out (Nat.lt_succ_of_lt HN8.out)) 0 _).put (B1 := [((w2.heap.size + 1), [.int .i64 q, .slice ha hn hc9]), (w2.heap.size, [.int .i64 p, .slice ga gn gc])]) (B2 := [(w.heap.size, [.int .i64 p, .slice ga gn gc])]) (ne3 HN8.out (Nat.lt_succ_of_lt HN8.out)) 1 _), ?_⟩
        clear he kb k0 k1 f0 f1
        refine wpAnyH_assign (i := 15) (d := some 4) _ rfl (by kernel_rfl) rfl rfl (by kernel_rfl) rfl ?_
        refine wpAnyH_assign (i := 16) (d := some 5) _ rfl (by kernel_rfl) rfl rfl (by kernel_rfl) rfl ?_
        refine ⟨by kernel_rfl, fun w9 hz => ?_⟩
        simp only [Act.put, List.setIfInBounds_toArray, List.set_cons_zero, List.set_cons_succ]
        dsimp only at hz
        have r0 := (hz.out.bx _ (.tail _ (.tail _ (.tail _ (.head _))))).2.2.cell 0
        have r1 := (hz.out.bx _ (.tail _ (.tail _ (.tail _ (.head _))))).2.2.cell 1
        have s0 := (hz.out.bx _ (.tail _ (.tail _ (.head _)))).2.2.cell 0
        have s1 := (hz.out.bx _ (.tail _ (.tail _ (.head _)))).2.2.cell 1
        simp at r0 r1 s0 s1
        go_wp2
        refine bodyPost_ret (v := .tuple #[.agg #[.int .i64 p, .slice ga gn gc], .agg #[.int .i64 q, .slice ha hn hc9], .int .i64 3, .slice fa fs.length fc]) ?_ rfl ?_
        · simp [results, Tryd.results44, go_sem, r0, r1, s0, s1]
        · exact ⟨p, _, g, q, _, hs, 3, _, fs, rfl, HPQ.out.1, HPQ.out.2, ⟨by omega, by omega⟩, own_li (hz.out.ls _ (.tail _ (.head _))).1 HG.out.1 HG.out.2, own_li (hz.out.ls _ (.tail _ (.tail _ (.head _)))).1 HH.out.1 HH.out.2, own_li (hz.out.ls _ (.head _)).1 HF.out.1 HF.out.2, hz.out.be⟩
      · have hq : b.tdiv 19 = 0 := Int.tdiv_eq_zero_of_lt b0 (by omega)
        refine wpAnyH_load (i := 6) (d := some 24) (.int .i64 0) rfl (by kernel_rfl) rfl rfl (by kernel_rfl) (by kernel_rfl) (by kernel_rfl) (fun z w0 _ => by simp [go_sem, hq]; rfl) ?_
        refine wpAnyH_take (i := 7) (d := some 25) (.int .i64 0) rfl (by kernel_rfl) rfl rfl (by kernel_rfl) (by kernel_rfl) (by kernel_rfl) (fun _ => by kernel_rfl) ?_
        refine wpAnyH_take (i := 8) (d := some 26) (.int .i64 1) rfl (by kernel_rfl) rfl rfl (by kernel_rfl) (by kernel_rfl) (by kernel_rfl) (fun _ => by kernel_rfl) ?_
        refine wpAnyH_call (i := 12) (d := some 30) 61 #[.pointer (some ⟨w.heap.size + 1 + 1, 0, none⟩), .int .i64 m, .int .i64 16] rfl (by kernel_rfl) rfl rfl (by kernel_rfl) (fun _ => by kernel_rfl) fun waf hc => ?_
        refine (drord_any _ (k2 + 1 + 1) m 16 waf (hc.out.rd _ rfl) (by omega) m1 m5 (by omega)).mono ?_
        rintro e wbf ⟨fv, fs, k3, rfl, oo, hl, hsm, _, hk3, hg, hr⟩
        obtain ⟨fa, fc, e4⟩ := Own.form oo
        subst e4
        refine ⟨_, rfl, ([((w.heap.size + 1), [.int .i64 0, .slice none 0 0]), (w.heap.size, [.int .i64 0, .slice none 0 0])], (.slice fa fs.length fc, fs) :: [(.slice ga gn gc, g), (.slice ha hn hc9, hs), (.slice oa m oc, os)], some k3), Lib.hid (hc.out.made hg hr oo), ?_⟩
        have HF := Lib.hid (show fs.length ≤ 50 ∧ Sml fs from ⟨by omega, small_sml hsm⟩)
        clear hc oo hg hr hl hsm
        refine wpAnyH_special (i := 13) (d := none) rfl (by kernel_rfl) rfl rfl (by kernel_rfl) fun we he => ?_
        have kb := (he.out.bx _ (.tail _ (.tail _ (.tail _ (.head _))))).2.2
        have k0 := kb.cell 0; have k1 := kb.cell 1; have f0 := kb.frozen 0; have f1 := kb.frozen 1
        simp at k0 k1
        refine ⟨undef, (we.setCell ⟨w.heap.size, 0, none⟩ (.int .i64 p)).setCell ⟨w.heap.size, 1, none⟩ (.slice ga gn gc), ([((w.heap.size + 1), [.int .i64 0, .slice none 0 0]), (w.heap.size, [.int .i64 p, .slice ga gn gc])], ((.slice fa fs.length fc, fs) :: [(.slice ga gn gc, g), (.slice ha hn hc9, hs), (.slice oa m oc, os)]), none), .inr ⟨by simp [go_sem, Act.put, k0, k1, f0, f1], rfl⟩, Lib.hid ((he.out.put (B1 := [((w2.heap.size + 1), [.int .i64 q, .slice ha hn hc9]), (w2.heap.size, [.int .i64 p, .slice ga gn gc]), ((w.heap.size + 1), [.int .i64 0, .slice none 0 0])]) (B2 := []) (ne2 HN8.out (Nat.lt_succ_of_lt HN8.out)) 0 _).put (B1 := [((w2.heap.size + 1), [.int .i64 q, .slice ha hn hc9]), (w2.heap.size, [.int .i64 p, .slice ga gn gc]), ((w.heap.size + 1), [.int .i64 0, .slice none 0 0])]) (B2 := []) (ne2 HN8.out (Nat.lt_succ_of_lt HN8.out)) 1 _), ?_⟩
        clear he kb k0 k1 f0 f1
        refine wpAnyH_special (i := 14) (d := none) rfl (by kernel_rfl) rfl rfl (by kernel_rfl) fun we he => ?_
        have kb := (he.out.bx _ (.tail _ (.tail _ (.head _)))).2.2
        have k0 := kb.cell 0; have k1 := kb.cell 1; have f0 := kb.frozen 0; have f1 := kb.frozen 1
        simp at k0 k1
        refine ⟨undef, (we.setCell ⟨(w.heap.size + 1), 0, none⟩ (.int .i64 q)).setCell ⟨(w.heap.size + 1), 1, none⟩ (.slice ha hn hc9), ([((w.heap.size + 1), [.int .i64 q, .slice ha hn hc9]), (w.heap.size, [.int .i64 p, .slice ga gn gc])], ((.slice fa fs.length fc, fs) :: [(.slice ga gn gc, g), (.slice ha hn hc9, hs), (.slice oa m oc, os)]), none), .inr ⟨by simp [go_sem, Act.put, k0, k1, f0, f1], rfl⟩, Lib.hid ((he.out.put (B1 := [((w2.heap.size + 1), [.int .i64 q, .slice ha hn hc9]), (w2.heap.size, [.int .i64 p, .slice ga gn gc])]) (B2 := [(w.heap.size, [.int .i64 p, .slice ga gn gc])]) (ne3 HN8.out (Nat.lt_succ_of_lt HN8.out)) 0 _).put (B1 := [((w2.heap.size + 1), [.int .i64 q, .slice ha hn hc9]), (w2.heap.size, [.int .i64 p, .slice ga gn gc])]) (B2 := [(w.heap.size, [.int .i64 p, .slice ga gn gc])]) (ne3 HN8.out (Nat.lt_succ_of_lt HN8.out)) 1 _), ?_⟩
        clear he kb k0 k1 f0 f1
        refine wpAnyH_assign (i := 15) (d := some 4) _ rfl (by kernel_rfl) rfl rfl (by kernel_rfl) rfl ?_
        refine wpAnyH_assign (i := 16) (d := some 5) _ rfl (by kernel_rfl) rfl rfl (by kernel_rfl) rfl ?_
        refine ⟨by kernel_rfl, fun w9 hz => ?_⟩
        simp only [Act.put, List.setIfInBounds_toArray, List.set_cons_zero, List.set_cons_succ]
        dsimp only at hz
        have r0 := (hz.out.bx _ (.tail _ (.tail _ (.tail _ (.head _))))).2.2.cell 0
        have r1 := (hz.out.bx _ (.tail _ (.tail _ (.tail _ (.head _))))).2.2.cell 1
        have s0 := (hz.out.bx _ (.tail _ (.tail _ (.head _)))).2.2.cell 0
        have s1 := (hz.out.bx _ (.tail _ (.tail _ (.head _)))).2.2.cell 1
        simp at r0 r1 s0 s1
        go_wp2
        refine bodyPost_ret (v := .tuple #[.agg #[.int .i64 p, .slice ga gn gc], .agg #[.int .i64 q, .slice ha hn hc9], .int .i64 1, .slice fa fs.length fc]) ?_ rfl ?_
        · simp [results, Tryd.results44, go_sem, r0, r1, s0, s1]
        · exact ⟨p, _, g, q, _, hs, 1, _, fs, rfl, HPQ.out.1, HPQ.out.2, ⟨by omega, by omega⟩, own_li (hz.out.ls _ (.tail _ (.head _))).1 HG.out.1 HG.out.2, own_li (hz.out.ls _ (.tail _ (.tail _ (.head _)))).1 HH.out.1 HH.out.2, own_li (hz.out.ls _ (.head _)).1 HF.out.1 HF.out.2, hz.out.be⟩
end Go.Proofs.YtipndddmjgjgpabDoor
