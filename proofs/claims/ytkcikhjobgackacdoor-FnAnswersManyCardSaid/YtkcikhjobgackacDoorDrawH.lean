/- The draw of a relation and of what is said. -/
import Derived.Test.YtkcikhjobgackacDoorDrawF
import Derived.Test.YtkcikhjobgackacDoorDrawG
import Derived.Test.YtkcikhjobgackacDoorMkS
import Derived.Deep.Cut
namespace Go.Proofs.YtkcikhjobgackacDoor
open Go.RowKit

def Fz (w : World) (R : Nat) (w4 : World) (BX : List (Nat × List Value)) (k : Nat) (z : Nat × Option (Value × List Int)) (w' : World) : Prop :=
  (∃ k', k' ≤ k + 10 * z.1 ∧ Fw w R R w4 BX w' k') ∧ ∀ r, z.2 = some r → Own w' w4.heap.size r.1 r.2
theorem Fz.box {w : World} {R : Nat} {w4 : World} {BX : List (Nat × List Value)} {k : Nat} {z : Nat × Option (Value × List Int)} {w' : World} {N : Nat} {P : List Value} (h : Fz w R w4 BX k z w') (hp : (N, P) ∈ BX) : Box w' N P := by
  obtain ⟨⟨_, _, hd⟩, _⟩ := h
  exact hd.box hp
def put3 (w : World) (N : Nat) (x y z : Value) : World := ((w.setCell ⟨N, 0, none⟩ x).setCell ⟨N, 1, none⟩ y).setCell ⟨N, 2, none⟩ z
theorem put3_block (w : World) (N : Nat) (x y z : Value) {q : Nat} (hq : q ≠ N) : (put3 w N x y z).heap[q]? = w.heap[q]? := (Below.heap_setCell _ _ _ _ hq).trans ((Below.heap_setCell _ _ _ _ hq).trans (Below.heap_setCell _ _ _ _ hq))
theorem put3_size (w : World) (N : Nat) (x y z : Value) : (put3 w N x y z).heap.size = w.heap.size := by simp [put3, World.setCell]
theorem setAbove {N : Nat} (w : World) (x y z : Value) : Above (N + 1) w (put3 w N x y z) := ⟨by rw [put3_size]; exact Nat.le_refl _, fun q h1 _ => put3_block w N x y z (by omega)⟩
theorem setOwn {w : World} {N B : Nat} {x y z v : Value} {xs : List Int} (h : Own w B v xs) (hB : N < B) : Own (put3 w N x y z) B v xs := own_heap h fun b hb => put3_block w N x y z (by have := (h.lt b hb).1; omega)
theorem setBelow {w0 w : World} (h : Below w0.heap.size w0 w) (x y z : Value) : Below w0.heap.size w0 (put3 w w0.heap.size x y z) := below_put (below_put (below_put h (Nat.le_refl _) x) (Nat.le_refl _) y) (Nat.le_refl _) z
def DrawCSPost (w : World) (e : Ending) (w' : World) : Prop :=
  ∃ (g : Int) (rv mv sv : Value) (rows : List (List Int)) (makes says : List Int), e = .returned (.tuple #[.agg #[.int .i64 g, rv, mv], sv]) ∧ Cw w' rv mv rows makes ∧ Ints w' sv says ∧ Below w.heap.size w w'
set_option maxRecDepth 20000 in
set_option maxHeartbeats 3200000 in
theorem drawAnswersMany_any (s : Value) (w : World) (h : CodeIn w s) : Calls Tryd.prog 11 #[s] w (DrawCSPost w) := by
  have H := Lib.hid (code_grow h (.cells #[.int .i64 0, .slice none 0 0, .slice none 0 0] 26))
  have X0 := Lib.hid (Box.made w [.int .i64 0, .slice none 0 0, .slice none 0 0] 26)
  have B0 := Lib.hid (below_grow w (.cells #[.int .i64 0, .slice none 0 0, .slice none 0 0] 26))
  clear h
  go_enter Tryd.func11, Tryd.ntmps11
  go_wp2_with fail
  refine (open_any _ _ H.out).mono ?_
  rintro e w1 ⟨rfl, H1, hb1⟩
  rw [World.size_alloc] at H1 hb1 ⊢
  have RD1 := Lib.hid H1
  have X1 := Lib.hid (X0.out.on (by rw [World.size_alloc]; exact hb1))
  have B1 := Lib.hid (B0.out.trans (hb1.mono (by omega)))
  clear H1 hb1 X0 B0
  go_wp2_with fail
  refine (drawclaim_any _ _ _ _ RD1.out (by omega) (by omega) (by omega)).mono ?_
  rintro e w2 ⟨g, rv, mv, ev, rows, makes, es, rfl, hst, l1, l2, l3, l4, h0, h4, hcap, hg, k2, hk2, hr⟩
  obtain ⟨ra, rc, er, _⟩ := (hst _ (Above.refl _ _)).1.rows.opened
  obtain ⟨ma, mc, em, _⟩ := (hst _ (Above.refl _ _)).1.makes.opened
  subst er em
  have hlt := RD1.out.lt
  have CB := Lib.hid (show ClBd g rows makes from ⟨l1, l2, l3, h0, h4⟩)
  have CP := Lib.hid hcap
  have D2 : Hid (Dr w (w.heap.size + 1) w.heap.size w2.heap.size [.int .i64 0, .slice none 0 0, .slice none 0 0] g (.slice ra rows.length rc) (.slice ma makes.length mc) ev rows makes es (w2.alloc (.cells #[.int .i64 g, (.slice ra rows.length rc), (.slice ma makes.length mc)] 26)) k2) := Lib.hid ⟨hr.below (below_grow _ _), (below_of_grown B1.out hg (by omega) (by omega)).trans ((below_grow w2 _).mono (by have := hg.size; omega)), (X1.out.kept (hg.block _ X1.out.lt (fun e => by simp at e))).alloc _, Box.made w2 _ _,
    fun w'' ha => hst w'' (Above.mono ((Above.below (below_grow w2 _)).trans ha) (Nat.le_of_lt hlt)), Nat.le_refl _, Nat.lt_succ_self _, Nat.lt_of_lt_of_le hlt hg.size⟩
  have hs2 : w.heap.size + 1 < w2.heap.size := Nat.lt_of_lt_of_le hlt hg.size
  have hk2' : k2 ≤ 60 := by omega
  clear X1 B1 RD1 hst l1 l2 l3 hcap hg hr hlt hk2
  obtain ⟨n, hn⟩ : ∃ n, rows.length = n := ⟨_, rfl⟩
  have hn3 : n ≤ 3 := by rw [← hn]; exact CB.out.r
  have HN := Lib.hid hn
  rw [hn] at D2 ⊢
  obtain ⟨w3, hw3⟩ : ∃ w3, w3 = w2.alloc (.cells #[.int .i64 g, (.slice ra n rc), (.slice ma makes.length mc)] 26) := ⟨_, rfl⟩
  rw [← hw3] at D2
  have F3 : Hid (Fw w (w.heap.size + 1) (w.heap.size + 1) w3 [(w.heap.size, [.int .i64 0, .slice none 0 0, .slice none 0 0]), (w2.heap.size, [.int .i64 g, (.slice ra n rc), (.slice ma makes.length mc)])] w3 k2) := Lib.hid ⟨D2.out.rd, grown_below _ D2.out.bl, (fun p hp => by
    have h1 := D2.out.b0.lt; have h2 := D2.out.bc.lt
    rcases List.mem_cons.1 hp with e | hp
    · subst e; exact ⟨h1, by show w.heap.size ≠ w.heap.size + 1; omega, D2.out.b0⟩
    · rcases List.mem_cons.1 hp with e | hp
      · subst e; exact ⟨h2, by show w2.heap.size ≠ w.heap.size + 1; omega, D2.out.bc⟩
      · cases hp), Above.refl _ _, Nat.le_refl _, Nat.lt_trans hs2 D2.out.bc.lt, D2.out.bl.size⟩
  have ST := Lib.hid (show ∀ w', Above (w.heap.size + 1) w3 w' → Cw w' (.slice ra n rc) (.slice ma makes.length mc) rows makes from fun w' ha => (D2.out.st w' ha).1)
  have p0 := D2.out.bc.cell 0
  have p1 := D2.out.bc.cell 1
  have p2 := D2.out.bc.cell 2
  simp at p0 p1 p2
  rw [hw3] at p0 p1 p2
  have hw4 : w.heap.size < w3.heap.size := by have := D2.out.bc.lt; omega
  clear D2 l4 hn
  by_cases hall : 1 < g ∧ 0 < n ∧ 1 < (row rows 0).length
  case neg =>
    have hN := F3.out.rl
    by_cases hg1 : 1 < g
    case neg =>
      have hgg : ¬ g > 1 := by omega
      go_upto_region 5 with (fail)
      rw [← hw3]
      clear p0 p1 p2 hw3
      have O4 : Hid (Fo w (w.heap.size + 1) (w.heap.size + 1) w3 [(w.heap.size, [.int .i64 0, .slice none 0 0, .slice none 0 0]), (w2.heap.size, [.int .i64 g, (.slice ra n rc), (.slice ma makes.length mc)])] (w3.alloc (.cells #[] 3)) k2 (.slice (some ⟨w3.heap.size, 0, none⟩) 0 0) []) := Lib.hid ⟨F3.out.on (below_grow _ _), own_made w3 3 rfl⟩
      clear F3
      go_wp2
      go_loopw [7, 8] (fun v i wr => ∃ (j : Nat) (xs : List Int) (k3 : Nat), j ≤ n ∧ i = .int .i64 j ∧ xs.length = j ∧ k3 ≤ k2 + 2 * j ∧ Hid (Fo w (w.heap.size + 1) (w.heap.size + 1) w3 [(w.heap.size, [.int .i64 0, .slice none 0 0, .slice none 0 0]), (w2.heap.size, [.int .i64 g, (.slice ra n rc), (.slice ma makes.length mc)])] wr k3 v xs)) (fun _ i _ => n - (intOf i).toNat)
      case atStart => exact ⟨0, [], k2, by omega, rfl, rfl, by omega, O4⟩
      case round =>
        obtain ⟨j, xs, k3, hj, rfl, hxl, hk3, hS⟩ := hrel
        obtain ⟨wo, rfl⟩ : ∃ wo : World, wo = wr := ⟨_, rfl⟩
        clear O4
        have b0 := (hS.out.1.box (N := w2.heap.size) (P := [.int .i64 g, (.slice ra n rc), (.slice ma makes.length mc)]) (by simp)).cell 0
        have b1 := (hS.out.1.box (N := w2.heap.size) (P := [.int .i64 g, (.slice ra n rc), (.slice ma makes.length mc)]) (by simp)).cell 1
        have b2 := (hS.out.1.box (N := w2.heap.size) (P := [.int .i64 g, (.slice ra n rc), (.slice ma makes.length mc)]) (by simp)).cell 2
        simp at b0 b1 b2
        by_cases hjn : j < n
        · have hjn1 : (j : Int) < (n : Int) := by omega
          go_wp2_with fail
          refine (drawelem_any _ k3 g 30 _ hS.out.1.rd (by omega) (by omega) (by omega)).mono ?_
          rintro e w5 ⟨x, rfl, x0, x1, g4, k4, hk4, hr4⟩
          have S5 := Lib.hid (hS.out.draw g4 hr4)
          clear hS g4 hr4 b0 b1 b2
          go_wp2_with (at_builtin; refine wpAppInt rfl _ _ rfl rfl S5.out.2 (by omega) S5.out.1.ab.1 rfl ?_)
          intro v5 w6 o5 g5 _
          have S6 := Lib.hid (S5.out.app o5 g5)
          clear o5 g5 S5
          go_wp2
          go_roundw
          case rel => exact ⟨j + 1, xs ++ [x], k4, by omega, by go_num, by rw [List.length_append, hxl]; rfl, by omega, S6⟩
          case measure => simp [intOf]; omega
        · obtain rfl : n = j := by omega
          have hjn1 : ¬ ((n : Nat) : Int) < ((n : Nat) : Int) := by omega
          cases hc : clB g rows makes
          · go_wp2_with fail
            refine (sclaim_any g _ _ rows makes _ (ST.out _ hS.out.1.ab)).mono ?_
            rintro e w5 ⟨rfl, hb⟩
            rw [hc]
            have S5 := Lib.hid (hS.out.on hb)
            clear hb hS b0 b1 b2
            have r0 := (S5.out.1.box (N := w.heap.size) (P := [.int .i64 0, .slice none 0 0, .slice none 0 0]) (by simp)).cell 0
            have r1 := (S5.out.1.box (N := w.heap.size) (P := [.int .i64 0, .slice none 0 0, .slice none 0 0]) (by simp)).cell 1
            have r2 := (S5.out.1.box (N := w.heap.size) (P := [.int .i64 0, .slice none 0 0, .slice none 0 0]) (by simp)).cell 2
            have f0 := (S5.out.1.box (N := w.heap.size) (P := [.int .i64 0, .slice none 0 0, .slice none 0 0]) (by simp)).frozen 0
            have f1 := (S5.out.1.box (N := w.heap.size) (P := [.int .i64 0, .slice none 0 0, .slice none 0 0]) (by simp)).frozen 1
            have f2 := (S5.out.1.box (N := w.heap.size) (P := [.int .i64 0, .slice none 0 0, .slice none 0 0]) (by simp)).frozen 2
            have b0 := (S5.out.1.box (N := w2.heap.size) (P := [.int .i64 g, (.slice ra n rc), (.slice ma makes.length mc)]) (by simp)).cell 0
            have b1 := (S5.out.1.box (N := w2.heap.size) (P := [.int .i64 g, (.slice ra n rc), (.slice ma makes.length mc)]) (by simp)).cell 1
            have b2 := (S5.out.1.box (N := w2.heap.size) (P := [.int .i64 g, (.slice ra n rc), (.slice ma makes.length mc)]) (by simp)).cell 2
            simp at r0 r1 r2 b0 b1 b2
            go_wp2
            refine bodyPost_ret (v := .tuple #[.agg #[.int .i64 g, (.slice ra n rc), (.slice ma makes.length mc)], u7]) ?_ rfl ?_
            · simp [results, Tryd.results11, go_sem, r0, r1, r2]
            · exact ⟨g, _, _, _, rows, makes, xs, rfl, ST.out _ (S5.out.1.ab.trans (setAbove w5 _ _ _)), Ints.of_own (setOwn S5.out.2 hw4) (by rw [hxl]; unfold maxLen; omega), setBelow (S5.out.1.below (Nat.le_succ _)) _ _ _⟩
          · go_wp2_with fail
            refine (sclaim_any g _ _ rows makes _ (ST.out _ hS.out.1.ab)).mono ?_
            rintro e w5 ⟨rfl, hb⟩
            rw [hc]
            have S5 := Lib.hid (hS.out.on hb)
            clear hb hS b0 b1 b2
            go_wp2_with fail
            refine (pick_any _ k3 _ _ S5.out.1.rd (by omega)).mono ?_
            rintro e w6 ⟨p, rfl, p0, p1, mm, hw6⟩
            have S6 := Lib.hid (show Fo w (w.heap.size + 1) (w.heap.size + 1) w3 [(w.heap.size, [.int .i64 0, .slice none 0 0, .slice none 0 0]), (w2.heap.size, [.int .i64 g, (.slice ra n rc), (.slice ma makes.length mc)])] w6 (k3 + 1) u7 xs by rw [hw6]; exact S5.out.draw (grown_pick _ _ _ mm) (S5.out.1.rd.next mm))
            clear hw6 S5 p1
            by_cases hp : p = 0
            · subst hp
              have hcl := clB_true.1 hc
              have HFZ : Hid (Fz w (w.heap.size + 1) w3 [(w.heap.size, [.int .i64 0, .slice none 0 0, .slice none 0 0]), (w2.heap.size, [.int .i64 g, (.slice ra n rc), (.slice ma makes.length mc)])] (k3 + 1) (0, none) w6.drew) := Lib.hid ⟨⟨k3 + 1, by simp, S6.out.1.on (Below.refl _ _).drew⟩, fun r hr => by cases hr⟩
              clear S6
              go_wp2_with fail
              apply wp_region_H (Z := Nat × Option (Value × List Int)) (S := fun k => k == 3 || k == 4) (C := fun z w' => Hid (Fz w (w.heap.size + 1) w3 [(w.heap.size, [.int .i64 0, .slice none 0 0, .slice none 0 0]), (w2.heap.size, [.int .i64 g, (.slice ra n rc), (.slice ma makes.length mc)])] (k3 + 1) z w')) [0, 1, 2] (0, none)
              · kernel_rfl
              · kernel_rfl
              · kernel_rfl
              · exact ⟨rfl, rfl, rfl, trivial⟩
              · rfl
              · decide
              · exact HFZ
              · intro z
                dsimp only [pickL, nthO]
                repeat (first | go_big_quiet_skip | (go_big_quiet_want; go_big_quiet_op; first | go_big_quiet_on | (refine ⟨_, fun _ _ => rfl, ?_⟩; go_big_quiet_on)))
                go_big_quiet_want
                go_big_quiet_op
                refine ⟨.agg #[.int .i64 g, (.slice ra n rc), (.slice ma makes.length mc)], fun w' hw' => ?_, ?_⟩
                · have q := Fz.box (N := w2.heap.size) (P := [.int .i64 g, (.slice ra n rc), (.slice ma makes.length mc)]) hw'.out (by simp)
                  have q0 := q.cell 0; have q1 := q.cell 1; have q2 := q.cell 2
                  simp at q0 q1 q2
                  simp [go_sem, q0, q1, q2]
                go_big_quiet_on
                repeat (first | go_big_quiet_skip | (go_big_quiet_want; go_big_quiet_op; first | go_big_quiet_on | (refine ⟨_, fun _ _ => rfl, ?_⟩; go_big_quiet_on)))
                go_big_quiet_want
                go_big_quiet_op
                refine ⟨.agg #[.int .i64 g, (.slice ra n rc), (.slice ma makes.length mc)], fun w' hw' => ?_, ?_⟩
                · have q := Fz.box (N := w2.heap.size) (P := [.int .i64 g, (.slice ra n rc), (.slice ma makes.length mc)]) hw'.out (by simp)
                  have q0 := q.cell 0; have q1 := q.cell 1; have q2 := q.cell 2
                  simp at q0 q1 q2
                  simp [go_sem, q0, q1, q2]
                go_big_quiet_on
                repeat (first | go_big_quiet_skip | (go_big_quiet_want; go_big_quiet_op; first | go_big_quiet_on | (refine ⟨_, fun _ _ => rfl, ?_⟩; go_big_quiet_on)))
                exact wpQuiet_nil rfl
              · skip
                refine wpAnyH_call (i := 3) (d := some 62) 50 #[.pointer (some ⟨w.heap.size + 1, 0, none⟩), .agg #[.int .i64 g, (.slice ra n rc), (.slice ma makes.length mc)]] rfl (by kernel_rfl) rfl rfl (by kernel_rfl) (fun _ => by kernel_rfl) fun wa hc => ?_
                obtain ⟨ka, hka, hd⟩ := hc.out.1
                refine (drawall_any _ ka g _ _ rows makes wa hd.rd (by simp at hka; omega) (fun w' ha => ST.out _ (hd.ab.trans ha)) hcl).mono ?_
                rintro e wc ⟨lv, ls, rfl, ol, hll, hlot, g7, k7, hk7, r7⟩
                refine ⟨_, rfl, (1, some (lv, ls)), Lib.hid ⟨⟨k7, by simp at hka ⊢; omega, hd.draw g7 r7⟩, fun r hr => by cases hr; exact own_mono ol hd.ab.1⟩, ?_⟩
                clear ol g7 r7 hd hka hc
                refine wpAnyH_call (i := 4) (d := some 63) 49 #[.agg #[.int .i64 g, (.slice ra n rc), (.slice ma makes.length mc)], lv] rfl (by kernel_rfl) rfl rfl (by kernel_rfl) (fun _ => by kernel_rfl) fun wd hc => ?_
                obtain ⟨⟨kd, hkd, hd⟩, ho⟩ := hc.out
                refine (smake_any g _ _ lv rows ls wd (ST.out _ hd.ab).rows (Ints.of_own (ho _ rfl) (by unfold maxLen; simp; omega)) hlot.mkd).mono ?_
                rintro e we ⟨mv9, rfl, om, hb⟩
                refine ⟨_, rfl, (1, some (mv9, mkAll g rows ls)), Lib.hid ⟨⟨kd, hkd, hd.on hb⟩, fun r hr => by cases hr; exact own_mono om hd.ab.1⟩, ?_⟩
                clear om hb hd ho hc hkd
                refine wpAnyH_assign (i := 5) (d := some 7) (.tmp 63) rfl (by kernel_rfl) rfl rfl (by kernel_rfl) rfl ?_
                refine ⟨by kernel_rfl, fun wz hz => ?_⟩
                simp only [Act.put, Act.eval]
                obtain ⟨⟨kz, _, hd⟩, ho⟩ := hz.out
                have S7 : Hid (Fo w (w.heap.size + 1) (w.heap.size + 1) w3 [(w.heap.size, [.int .i64 0, .slice none 0 0, .slice none 0 0]), (w2.heap.size, [.int .i64 g, (.slice ra n rc), (.slice ma makes.length mc)])] wz kz mv9 (mkAll g rows ls)) := Lib.hid ⟨hd, ho _ rfl⟩
                have hml := mkAll_len g rows ls
                have hr3 := hcl.r3
                clear hd ho hz HFZ
                have r0 := (S7.out.1.box (N := w.heap.size) (P := [.int .i64 0, .slice none 0 0, .slice none 0 0]) (by simp)).cell 0
                have r1 := (S7.out.1.box (N := w.heap.size) (P := [.int .i64 0, .slice none 0 0, .slice none 0 0]) (by simp)).cell 1
                have r2 := (S7.out.1.box (N := w.heap.size) (P := [.int .i64 0, .slice none 0 0, .slice none 0 0]) (by simp)).cell 2
                have f0 := (S7.out.1.box (N := w.heap.size) (P := [.int .i64 0, .slice none 0 0, .slice none 0 0]) (by simp)).frozen 0
                have f1 := (S7.out.1.box (N := w.heap.size) (P := [.int .i64 0, .slice none 0 0, .slice none 0 0]) (by simp)).frozen 1
                have f2 := (S7.out.1.box (N := w.heap.size) (P := [.int .i64 0, .slice none 0 0, .slice none 0 0]) (by simp)).frozen 2
                have b0 := (S7.out.1.box (N := w2.heap.size) (P := [.int .i64 g, (.slice ra n rc), (.slice ma makes.length mc)]) (by simp)).cell 0
                have b1 := (S7.out.1.box (N := w2.heap.size) (P := [.int .i64 g, (.slice ra n rc), (.slice ma makes.length mc)]) (by simp)).cell 1
                have b2 := (S7.out.1.box (N := w2.heap.size) (P := [.int .i64 g, (.slice ra n rc), (.slice ma makes.length mc)]) (by simp)).cell 2
                simp at r0 r1 r2 b0 b1 b2
                go_wp2
                refine bodyPost_ret (v := .tuple #[.agg #[.int .i64 g, (.slice ra n rc), (.slice ma makes.length mc)], mv9]) ?_ rfl ?_
                · simp [results, Tryd.results11, go_sem, r0, r1, r2]
                · exact ⟨g, _, _, _, rows, makes, (mkAll g rows ls), rfl, ST.out _ (S7.out.1.ab.trans (setAbove wz _ _ _)), Ints.of_own (setOwn S7.out.2 hw4) (by rw [mkAll_len]; unfold maxLen; have := hcl.r3; omega), setBelow (S7.out.1.below (Nat.le_succ _)) _ _ _⟩
            · have hp0 : (p == 0) = false := by simpa using hp
              have r0 := (S6.out.1.box (N := w.heap.size) (P := [.int .i64 0, .slice none 0 0, .slice none 0 0]) (by simp)).cell 0
              have r1 := (S6.out.1.box (N := w.heap.size) (P := [.int .i64 0, .slice none 0 0, .slice none 0 0]) (by simp)).cell 1
              have r2 := (S6.out.1.box (N := w.heap.size) (P := [.int .i64 0, .slice none 0 0, .slice none 0 0]) (by simp)).cell 2
              have f0 := (S6.out.1.box (N := w.heap.size) (P := [.int .i64 0, .slice none 0 0, .slice none 0 0]) (by simp)).frozen 0
              have f1 := (S6.out.1.box (N := w.heap.size) (P := [.int .i64 0, .slice none 0 0, .slice none 0 0]) (by simp)).frozen 1
              have f2 := (S6.out.1.box (N := w.heap.size) (P := [.int .i64 0, .slice none 0 0, .slice none 0 0]) (by simp)).frozen 2
              have b0 := (S6.out.1.box (N := w2.heap.size) (P := [.int .i64 g, (.slice ra n rc), (.slice ma makes.length mc)]) (by simp)).cell 0
              have b1 := (S6.out.1.box (N := w2.heap.size) (P := [.int .i64 g, (.slice ra n rc), (.slice ma makes.length mc)]) (by simp)).cell 1
              have b2 := (S6.out.1.box (N := w2.heap.size) (P := [.int .i64 g, (.slice ra n rc), (.slice ma makes.length mc)]) (by simp)).cell 2
              simp at r0 r1 r2 b0 b1 b2
              go_wp2
              refine bodyPost_ret (v := .tuple #[.agg #[.int .i64 g, (.slice ra n rc), (.slice ma makes.length mc)], u7]) ?_ rfl ?_
              · simp [results, Tryd.results11, go_sem, r0, r1, r2]
              · exact ⟨g, _, _, _, rows, makes, xs, rfl, ST.out _ (S6.out.1.ab.trans (setAbove w6 _ _ _)), Ints.of_own (setOwn S6.out.2 hw4) (by rw [hxl]; unfold maxLen; omega), setBelow (S6.out.1.below (Nat.le_succ _)) _ _ _⟩
    by_cases hn1 : 0 < n
    case neg =>
      have hnn : ¬ (n : Int) > 0 := by omega
      go_upto_region 5 with (fail)
      rw [← hw3]
      clear p0 p1 p2 hw3
      have O4 : Hid (Fo w (w.heap.size + 1) (w.heap.size + 1) w3 [(w.heap.size, [.int .i64 0, .slice none 0 0, .slice none 0 0]), (w2.heap.size, [.int .i64 g, (.slice ra n rc), (.slice ma makes.length mc)])] (w3.alloc (.cells #[] 3)) k2 (.slice (some ⟨w3.heap.size, 0, none⟩) 0 0) []) := Lib.hid ⟨F3.out.on (below_grow _ _), own_made w3 3 rfl⟩
      clear F3
      go_wp2
      go_loopw [7, 8] (fun v i wr => ∃ (j : Nat) (xs : List Int) (k3 : Nat), j ≤ n ∧ i = .int .i64 j ∧ xs.length = j ∧ k3 ≤ k2 + 2 * j ∧ Hid (Fo w (w.heap.size + 1) (w.heap.size + 1) w3 [(w.heap.size, [.int .i64 0, .slice none 0 0, .slice none 0 0]), (w2.heap.size, [.int .i64 g, (.slice ra n rc), (.slice ma makes.length mc)])] wr k3 v xs)) (fun _ i _ => n - (intOf i).toNat)
      case atStart => exact ⟨0, [], k2, by omega, rfl, rfl, by omega, O4⟩
      case round =>
        obtain ⟨j, xs, k3, hj, rfl, hxl, hk3, hS⟩ := hrel
        obtain ⟨wo, rfl⟩ : ∃ wo : World, wo = wr := ⟨_, rfl⟩
        clear O4
        have b0 := (hS.out.1.box (N := w2.heap.size) (P := [.int .i64 g, (.slice ra n rc), (.slice ma makes.length mc)]) (by simp)).cell 0
        have b1 := (hS.out.1.box (N := w2.heap.size) (P := [.int .i64 g, (.slice ra n rc), (.slice ma makes.length mc)]) (by simp)).cell 1
        have b2 := (hS.out.1.box (N := w2.heap.size) (P := [.int .i64 g, (.slice ra n rc), (.slice ma makes.length mc)]) (by simp)).cell 2
        simp at b0 b1 b2
        by_cases hjn : j < n
        · exfalso; omega
        · obtain rfl : n = j := by omega
          have hjn1 : ¬ ((n : Nat) : Int) < ((n : Nat) : Int) := by omega
          cases hc : clB g rows makes
          · go_wp2_with fail
            refine (sclaim_any g _ _ rows makes _ (ST.out _ hS.out.1.ab)).mono ?_
            rintro e w5 ⟨rfl, hb⟩
            rw [hc]
            have S5 := Lib.hid (hS.out.on hb)
            clear hb hS b0 b1 b2
            have r0 := (S5.out.1.box (N := w.heap.size) (P := [.int .i64 0, .slice none 0 0, .slice none 0 0]) (by simp)).cell 0
            have r1 := (S5.out.1.box (N := w.heap.size) (P := [.int .i64 0, .slice none 0 0, .slice none 0 0]) (by simp)).cell 1
            have r2 := (S5.out.1.box (N := w.heap.size) (P := [.int .i64 0, .slice none 0 0, .slice none 0 0]) (by simp)).cell 2
            have f0 := (S5.out.1.box (N := w.heap.size) (P := [.int .i64 0, .slice none 0 0, .slice none 0 0]) (by simp)).frozen 0
            have f1 := (S5.out.1.box (N := w.heap.size) (P := [.int .i64 0, .slice none 0 0, .slice none 0 0]) (by simp)).frozen 1
            have f2 := (S5.out.1.box (N := w.heap.size) (P := [.int .i64 0, .slice none 0 0, .slice none 0 0]) (by simp)).frozen 2
            have b0 := (S5.out.1.box (N := w2.heap.size) (P := [.int .i64 g, (.slice ra n rc), (.slice ma makes.length mc)]) (by simp)).cell 0
            have b1 := (S5.out.1.box (N := w2.heap.size) (P := [.int .i64 g, (.slice ra n rc), (.slice ma makes.length mc)]) (by simp)).cell 1
            have b2 := (S5.out.1.box (N := w2.heap.size) (P := [.int .i64 g, (.slice ra n rc), (.slice ma makes.length mc)]) (by simp)).cell 2
            simp at r0 r1 r2 b0 b1 b2
            go_wp2
            refine bodyPost_ret (v := .tuple #[.agg #[.int .i64 g, (.slice ra n rc), (.slice ma makes.length mc)], u7]) ?_ rfl ?_
            · simp [results, Tryd.results11, go_sem, r0, r1, r2]
            · exact ⟨g, _, _, _, rows, makes, xs, rfl, ST.out _ (S5.out.1.ab.trans (setAbove w5 _ _ _)), Ints.of_own (setOwn S5.out.2 hw4) (by rw [hxl]; unfold maxLen; omega), setBelow (S5.out.1.below (Nat.le_succ _)) _ _ _⟩
          · go_wp2_with fail
            refine (sclaim_any g _ _ rows makes _ (ST.out _ hS.out.1.ab)).mono ?_
            rintro e w5 ⟨rfl, hb⟩
            rw [hc]
            have S5 := Lib.hid (hS.out.on hb)
            clear hb hS b0 b1 b2
            go_wp2_with fail
            refine (pick_any _ k3 _ _ S5.out.1.rd (by omega)).mono ?_
            rintro e w6 ⟨p, rfl, p0, p1, mm, hw6⟩
            have S6 := Lib.hid (show Fo w (w.heap.size + 1) (w.heap.size + 1) w3 [(w.heap.size, [.int .i64 0, .slice none 0 0, .slice none 0 0]), (w2.heap.size, [.int .i64 g, (.slice ra n rc), (.slice ma makes.length mc)])] w6 (k3 + 1) u7 xs by rw [hw6]; exact S5.out.draw (grown_pick _ _ _ mm) (S5.out.1.rd.next mm))
            clear hw6 S5 p1
            by_cases hp : p = 0
            · subst hp
              have hcl := clB_true.1 hc
              have HFZ : Hid (Fz w (w.heap.size + 1) w3 [(w.heap.size, [.int .i64 0, .slice none 0 0, .slice none 0 0]), (w2.heap.size, [.int .i64 g, (.slice ra n rc), (.slice ma makes.length mc)])] (k3 + 1) (0, none) w6.drew) := Lib.hid ⟨⟨k3 + 1, by simp, S6.out.1.on (Below.refl _ _).drew⟩, fun r hr => by cases hr⟩
              clear S6
              go_wp2_with fail
              apply wp_region_H (Z := Nat × Option (Value × List Int)) (S := fun k => k == 3 || k == 4) (C := fun z w' => Hid (Fz w (w.heap.size + 1) w3 [(w.heap.size, [.int .i64 0, .slice none 0 0, .slice none 0 0]), (w2.heap.size, [.int .i64 g, (.slice ra n rc), (.slice ma makes.length mc)])] (k3 + 1) z w')) [0, 1, 2] (0, none)
              · kernel_rfl
              · kernel_rfl
              · kernel_rfl
              · exact ⟨rfl, rfl, rfl, trivial⟩
              · rfl
              · decide
              · exact HFZ
              · intro z
                dsimp only [pickL, nthO]
                repeat (first | go_big_quiet_skip | (go_big_quiet_want; go_big_quiet_op; first | go_big_quiet_on | (refine ⟨_, fun _ _ => rfl, ?_⟩; go_big_quiet_on)))
                go_big_quiet_want
                go_big_quiet_op
                refine ⟨.agg #[.int .i64 g, (.slice ra n rc), (.slice ma makes.length mc)], fun w' hw' => ?_, ?_⟩
                · have q := Fz.box (N := w2.heap.size) (P := [.int .i64 g, (.slice ra n rc), (.slice ma makes.length mc)]) hw'.out (by simp)
                  have q0 := q.cell 0; have q1 := q.cell 1; have q2 := q.cell 2
                  simp at q0 q1 q2
                  simp [go_sem, q0, q1, q2]
                go_big_quiet_on
                repeat (first | go_big_quiet_skip | (go_big_quiet_want; go_big_quiet_op; first | go_big_quiet_on | (refine ⟨_, fun _ _ => rfl, ?_⟩; go_big_quiet_on)))
                go_big_quiet_want
                go_big_quiet_op
                refine ⟨.agg #[.int .i64 g, (.slice ra n rc), (.slice ma makes.length mc)], fun w' hw' => ?_, ?_⟩
                · have q := Fz.box (N := w2.heap.size) (P := [.int .i64 g, (.slice ra n rc), (.slice ma makes.length mc)]) hw'.out (by simp)
                  have q0 := q.cell 0; have q1 := q.cell 1; have q2 := q.cell 2
                  simp at q0 q1 q2
                  simp [go_sem, q0, q1, q2]
                go_big_quiet_on
                repeat (first | go_big_quiet_skip | (go_big_quiet_want; go_big_quiet_op; first | go_big_quiet_on | (refine ⟨_, fun _ _ => rfl, ?_⟩; go_big_quiet_on)))
                exact wpQuiet_nil rfl
              · skip
                refine wpAnyH_call (i := 3) (d := some 62) 50 #[.pointer (some ⟨w.heap.size + 1, 0, none⟩), .agg #[.int .i64 g, (.slice ra n rc), (.slice ma makes.length mc)]] rfl (by kernel_rfl) rfl rfl (by kernel_rfl) (fun _ => by kernel_rfl) fun wa hc => ?_
                obtain ⟨ka, hka, hd⟩ := hc.out.1
                refine (drawall_any _ ka g _ _ rows makes wa hd.rd (by simp at hka; omega) (fun w' ha => ST.out _ (hd.ab.trans ha)) hcl).mono ?_
                rintro e wc ⟨lv, ls, rfl, ol, hll, hlot, g7, k7, hk7, r7⟩
                refine ⟨_, rfl, (1, some (lv, ls)), Lib.hid ⟨⟨k7, by simp at hka ⊢; omega, hd.draw g7 r7⟩, fun r hr => by cases hr; exact own_mono ol hd.ab.1⟩, ?_⟩
                clear ol g7 r7 hd hka hc
                refine wpAnyH_call (i := 4) (d := some 63) 49 #[.agg #[.int .i64 g, (.slice ra n rc), (.slice ma makes.length mc)], lv] rfl (by kernel_rfl) rfl rfl (by kernel_rfl) (fun _ => by kernel_rfl) fun wd hc => ?_
                obtain ⟨⟨kd, hkd, hd⟩, ho⟩ := hc.out
                refine (smake_any g _ _ lv rows ls wd (ST.out _ hd.ab).rows (Ints.of_own (ho _ rfl) (by unfold maxLen; simp; omega)) hlot.mkd).mono ?_
                rintro e we ⟨mv9, rfl, om, hb⟩
                refine ⟨_, rfl, (1, some (mv9, mkAll g rows ls)), Lib.hid ⟨⟨kd, hkd, hd.on hb⟩, fun r hr => by cases hr; exact own_mono om hd.ab.1⟩, ?_⟩
                clear om hb hd ho hc hkd
                refine wpAnyH_assign (i := 5) (d := some 7) (.tmp 63) rfl (by kernel_rfl) rfl rfl (by kernel_rfl) rfl ?_
                refine ⟨by kernel_rfl, fun wz hz => ?_⟩
                simp only [Act.put, Act.eval]
                obtain ⟨⟨kz, _, hd⟩, ho⟩ := hz.out
                have S7 : Hid (Fo w (w.heap.size + 1) (w.heap.size + 1) w3 [(w.heap.size, [.int .i64 0, .slice none 0 0, .slice none 0 0]), (w2.heap.size, [.int .i64 g, (.slice ra n rc), (.slice ma makes.length mc)])] wz kz mv9 (mkAll g rows ls)) := Lib.hid ⟨hd, ho _ rfl⟩
                have hml := mkAll_len g rows ls
                have hr3 := hcl.r3
                clear hd ho hz HFZ
                have r0 := (S7.out.1.box (N := w.heap.size) (P := [.int .i64 0, .slice none 0 0, .slice none 0 0]) (by simp)).cell 0
                have r1 := (S7.out.1.box (N := w.heap.size) (P := [.int .i64 0, .slice none 0 0, .slice none 0 0]) (by simp)).cell 1
                have r2 := (S7.out.1.box (N := w.heap.size) (P := [.int .i64 0, .slice none 0 0, .slice none 0 0]) (by simp)).cell 2
                have f0 := (S7.out.1.box (N := w.heap.size) (P := [.int .i64 0, .slice none 0 0, .slice none 0 0]) (by simp)).frozen 0
                have f1 := (S7.out.1.box (N := w.heap.size) (P := [.int .i64 0, .slice none 0 0, .slice none 0 0]) (by simp)).frozen 1
                have f2 := (S7.out.1.box (N := w.heap.size) (P := [.int .i64 0, .slice none 0 0, .slice none 0 0]) (by simp)).frozen 2
                have b0 := (S7.out.1.box (N := w2.heap.size) (P := [.int .i64 g, (.slice ra n rc), (.slice ma makes.length mc)]) (by simp)).cell 0
                have b1 := (S7.out.1.box (N := w2.heap.size) (P := [.int .i64 g, (.slice ra n rc), (.slice ma makes.length mc)]) (by simp)).cell 1
                have b2 := (S7.out.1.box (N := w2.heap.size) (P := [.int .i64 g, (.slice ra n rc), (.slice ma makes.length mc)]) (by simp)).cell 2
                simp at r0 r1 r2 b0 b1 b2
                go_wp2
                refine bodyPost_ret (v := .tuple #[.agg #[.int .i64 g, (.slice ra n rc), (.slice ma makes.length mc)], mv9]) ?_ rfl ?_
                · simp [results, Tryd.results11, go_sem, r0, r1, r2]
                · exact ⟨g, _, _, _, rows, makes, (mkAll g rows ls), rfl, ST.out _ (S7.out.1.ab.trans (setAbove wz _ _ _)), Ints.of_own (setOwn S7.out.2 hw4) (by rw [mkAll_len]; unfold maxLen; have := hcl.r3; omega), setBelow (S7.out.1.below (Nat.le_succ _)) _ _ _⟩
            · have hp0 : (p == 0) = false := by simpa using hp
              have r0 := (S6.out.1.box (N := w.heap.size) (P := [.int .i64 0, .slice none 0 0, .slice none 0 0]) (by simp)).cell 0
              have r1 := (S6.out.1.box (N := w.heap.size) (P := [.int .i64 0, .slice none 0 0, .slice none 0 0]) (by simp)).cell 1
              have r2 := (S6.out.1.box (N := w.heap.size) (P := [.int .i64 0, .slice none 0 0, .slice none 0 0]) (by simp)).cell 2
              have f0 := (S6.out.1.box (N := w.heap.size) (P := [.int .i64 0, .slice none 0 0, .slice none 0 0]) (by simp)).frozen 0
              have f1 := (S6.out.1.box (N := w.heap.size) (P := [.int .i64 0, .slice none 0 0, .slice none 0 0]) (by simp)).frozen 1
              have f2 := (S6.out.1.box (N := w.heap.size) (P := [.int .i64 0, .slice none 0 0, .slice none 0 0]) (by simp)).frozen 2
              have b0 := (S6.out.1.box (N := w2.heap.size) (P := [.int .i64 g, (.slice ra n rc), (.slice ma makes.length mc)]) (by simp)).cell 0
              have b1 := (S6.out.1.box (N := w2.heap.size) (P := [.int .i64 g, (.slice ra n rc), (.slice ma makes.length mc)]) (by simp)).cell 1
              have b2 := (S6.out.1.box (N := w2.heap.size) (P := [.int .i64 g, (.slice ra n rc), (.slice ma makes.length mc)]) (by simp)).cell 2
              simp at r0 r1 r2 b0 b1 b2
              go_wp2
              refine bodyPost_ret (v := .tuple #[.agg #[.int .i64 g, (.slice ra n rc), (.slice ma makes.length mc)], u7]) ?_ rfl ?_
              · simp [results, Tryd.results11, go_sem, r0, r1, r2]
              · exact ⟨g, _, _, _, rows, makes, xs, rfl, ST.out _ (S6.out.1.ab.trans (setAbove w6 _ _ _)), Ints.of_own (setOwn S6.out.2 hw4) (by rw [hxl]; unfold maxLen; omega), setBelow (S6.out.1.below (Nat.le_succ _)) _ _ _⟩
    have hu1 : ¬ 1 < (row rows 0).length := fun h => hall ⟨hg1, hn1, h⟩
    obtain ⟨a9, c9, e9, k9⟩ := (ST.out _ (Above.refl _ _)).rows.opened
    rw [HN.out] at e9
    cases e9
    obtain ⟨G9, u9, rfl, _, cc9, i9⟩ := k9.get 0 (by rw [HN.out]; exact hn1)
    obtain ⟨a8, c8, rfl, _⟩ := i9.opened
    obtain ⟨l9, hl9⟩ : ∃ l, (row rows 0).length = l := ⟨_, rfl⟩
    rw [hl9] at hu1 cc9
    have hlL : ¬ (l9 : Int) > 1 := by omega
    have hnn : (n : Int) > 0 := by omega
    rw [hw3] at cc9
    clear i9 k9 hl9
    go_upto_region 5 with (fail)
    rw [← hw3]
    clear p0 p1 p2 cc9 hw3
    have O4 : Hid (Fo w (w.heap.size + 1) (w.heap.size + 1) w3 [(w.heap.size, [.int .i64 0, .slice none 0 0, .slice none 0 0]), (w2.heap.size, [.int .i64 g, (.slice (some ⟨G9, 0, none⟩) n rc), (.slice ma makes.length mc)])] (w3.alloc (.cells #[] 3)) k2 (.slice (some ⟨w3.heap.size, 0, none⟩) 0 0) []) := Lib.hid ⟨F3.out.on (below_grow _ _), own_made w3 3 rfl⟩
    clear F3
    go_wp2
    go_loopw [7, 8] (fun v i wr => ∃ (j : Nat) (xs : List Int) (k3 : Nat), j ≤ n ∧ i = .int .i64 j ∧ xs.length = j ∧ k3 ≤ k2 + 2 * j ∧ Hid (Fo w (w.heap.size + 1) (w.heap.size + 1) w3 [(w.heap.size, [.int .i64 0, .slice none 0 0, .slice none 0 0]), (w2.heap.size, [.int .i64 g, (.slice (some ⟨G9, 0, none⟩) n rc), (.slice ma makes.length mc)])] wr k3 v xs)) (fun _ i _ => n - (intOf i).toNat)
    case atStart => exact ⟨0, [], k2, by omega, rfl, rfl, by omega, O4⟩
    case round =>
      obtain ⟨j, xs, k3, hj, rfl, hxl, hk3, hS⟩ := hrel
      obtain ⟨wo, rfl⟩ : ∃ wo : World, wo = wr := ⟨_, rfl⟩
      clear O4
      have b0 := (hS.out.1.box (N := w2.heap.size) (P := [.int .i64 g, (.slice (some ⟨G9, 0, none⟩) n rc), (.slice ma makes.length mc)]) (by simp)).cell 0
      have b1 := (hS.out.1.box (N := w2.heap.size) (P := [.int .i64 g, (.slice (some ⟨G9, 0, none⟩) n rc), (.slice ma makes.length mc)]) (by simp)).cell 1
      have b2 := (hS.out.1.box (N := w2.heap.size) (P := [.int .i64 g, (.slice (some ⟨G9, 0, none⟩) n rc), (.slice ma makes.length mc)]) (by simp)).cell 2
      simp at b0 b1 b2
      by_cases hjn : j < n
      · have hjn1 : (j : Int) < (n : Int) := by omega
        go_wp2_with fail
        refine (drawelem_any _ k3 g 30 _ hS.out.1.rd (by omega) (by omega) (by omega)).mono ?_
        rintro e w5 ⟨x, rfl, x0, x1, g4, k4, hk4, hr4⟩
        have S5 := Lib.hid (hS.out.draw g4 hr4)
        clear hS g4 hr4 b0 b1 b2
        go_wp2_with (at_builtin; refine wpAppInt rfl _ _ rfl rfl S5.out.2 (by omega) S5.out.1.ab.1 rfl ?_)
        intro v5 w6 o5 g5 _
        have S6 := Lib.hid (S5.out.app o5 g5)
        clear o5 g5 S5
        go_wp2
        go_roundw
        case rel => exact ⟨j + 1, xs ++ [x], k4, by omega, by go_num, by rw [List.length_append, hxl]; rfl, by omega, S6⟩
        case measure => simp [intOf]; omega
      · obtain rfl : n = j := by omega
        have hjn1 : ¬ ((n : Nat) : Int) < ((n : Nat) : Int) := by omega
        cases hc : clB g rows makes
        · go_wp2_with fail
          refine (sclaim_any g _ _ rows makes _ (ST.out _ hS.out.1.ab)).mono ?_
          rintro e w5 ⟨rfl, hb⟩
          rw [hc]
          have S5 := Lib.hid (hS.out.on hb)
          clear hb hS b0 b1 b2
          have r0 := (S5.out.1.box (N := w.heap.size) (P := [.int .i64 0, .slice none 0 0, .slice none 0 0]) (by simp)).cell 0
          have r1 := (S5.out.1.box (N := w.heap.size) (P := [.int .i64 0, .slice none 0 0, .slice none 0 0]) (by simp)).cell 1
          have r2 := (S5.out.1.box (N := w.heap.size) (P := [.int .i64 0, .slice none 0 0, .slice none 0 0]) (by simp)).cell 2
          have f0 := (S5.out.1.box (N := w.heap.size) (P := [.int .i64 0, .slice none 0 0, .slice none 0 0]) (by simp)).frozen 0
          have f1 := (S5.out.1.box (N := w.heap.size) (P := [.int .i64 0, .slice none 0 0, .slice none 0 0]) (by simp)).frozen 1
          have f2 := (S5.out.1.box (N := w.heap.size) (P := [.int .i64 0, .slice none 0 0, .slice none 0 0]) (by simp)).frozen 2
          have b0 := (S5.out.1.box (N := w2.heap.size) (P := [.int .i64 g, (.slice (some ⟨G9, 0, none⟩) n rc), (.slice ma makes.length mc)]) (by simp)).cell 0
          have b1 := (S5.out.1.box (N := w2.heap.size) (P := [.int .i64 g, (.slice (some ⟨G9, 0, none⟩) n rc), (.slice ma makes.length mc)]) (by simp)).cell 1
          have b2 := (S5.out.1.box (N := w2.heap.size) (P := [.int .i64 g, (.slice (some ⟨G9, 0, none⟩) n rc), (.slice ma makes.length mc)]) (by simp)).cell 2
          simp at r0 r1 r2 b0 b1 b2
          go_wp2
          refine bodyPost_ret (v := .tuple #[.agg #[.int .i64 g, (.slice (some ⟨G9, 0, none⟩) n rc), (.slice ma makes.length mc)], u7]) ?_ rfl ?_
          · simp [results, Tryd.results11, go_sem, r0, r1, r2]
          · exact ⟨g, _, _, _, rows, makes, xs, rfl, ST.out _ (S5.out.1.ab.trans (setAbove w5 _ _ _)), Ints.of_own (setOwn S5.out.2 hw4) (by rw [hxl]; unfold maxLen; omega), setBelow (S5.out.1.below (Nat.le_succ _)) _ _ _⟩
        · go_wp2_with fail
          refine (sclaim_any g _ _ rows makes _ (ST.out _ hS.out.1.ab)).mono ?_
          rintro e w5 ⟨rfl, hb⟩
          rw [hc]
          have S5 := Lib.hid (hS.out.on hb)
          clear hb hS b0 b1 b2
          go_wp2_with fail
          refine (pick_any _ k3 _ _ S5.out.1.rd (by omega)).mono ?_
          rintro e w6 ⟨p, rfl, p0, p1, mm, hw6⟩
          have S6 := Lib.hid (show Fo w (w.heap.size + 1) (w.heap.size + 1) w3 [(w.heap.size, [.int .i64 0, .slice none 0 0, .slice none 0 0]), (w2.heap.size, [.int .i64 g, (.slice (some ⟨G9, 0, none⟩) n rc), (.slice ma makes.length mc)])] w6 (k3 + 1) u7 xs by rw [hw6]; exact S5.out.draw (grown_pick _ _ _ mm) (S5.out.1.rd.next mm))
          clear hw6 S5 p1
          by_cases hp : p = 0
          · subst hp
            have hcl := clB_true.1 hc
            have HFZ : Hid (Fz w (w.heap.size + 1) w3 [(w.heap.size, [.int .i64 0, .slice none 0 0, .slice none 0 0]), (w2.heap.size, [.int .i64 g, (.slice (some ⟨G9, 0, none⟩) n rc), (.slice ma makes.length mc)])] (k3 + 1) (0, none) w6.drew) := Lib.hid ⟨⟨k3 + 1, by simp, S6.out.1.on (Below.refl _ _).drew⟩, fun r hr => by cases hr⟩
            clear S6
            go_wp2_with fail
            apply wp_region_H (Z := Nat × Option (Value × List Int)) (S := fun k => k == 3 || k == 4) (C := fun z w' => Hid (Fz w (w.heap.size + 1) w3 [(w.heap.size, [.int .i64 0, .slice none 0 0, .slice none 0 0]), (w2.heap.size, [.int .i64 g, (.slice (some ⟨G9, 0, none⟩) n rc), (.slice ma makes.length mc)])] (k3 + 1) z w')) [0, 1, 2] (0, none)
            · kernel_rfl
            · kernel_rfl
            · kernel_rfl
            · exact ⟨rfl, rfl, rfl, trivial⟩
            · rfl
            · decide
            · exact HFZ
            · intro z
              dsimp only [pickL, nthO]
              repeat (first | go_big_quiet_skip | (go_big_quiet_want; go_big_quiet_op; first | go_big_quiet_on | (refine ⟨_, fun _ _ => rfl, ?_⟩; go_big_quiet_on)))
              go_big_quiet_want
              go_big_quiet_op
              refine ⟨.agg #[.int .i64 g, (.slice (some ⟨G9, 0, none⟩) n rc), (.slice ma makes.length mc)], fun w' hw' => ?_, ?_⟩
              · have q := Fz.box (N := w2.heap.size) (P := [.int .i64 g, (.slice (some ⟨G9, 0, none⟩) n rc), (.slice ma makes.length mc)]) hw'.out (by simp)
                have q0 := q.cell 0; have q1 := q.cell 1; have q2 := q.cell 2
                simp at q0 q1 q2
                simp [go_sem, q0, q1, q2]
              go_big_quiet_on
              repeat (first | go_big_quiet_skip | (go_big_quiet_want; go_big_quiet_op; first | go_big_quiet_on | (refine ⟨_, fun _ _ => rfl, ?_⟩; go_big_quiet_on)))
              go_big_quiet_want
              go_big_quiet_op
              refine ⟨.agg #[.int .i64 g, (.slice (some ⟨G9, 0, none⟩) n rc), (.slice ma makes.length mc)], fun w' hw' => ?_, ?_⟩
              · have q := Fz.box (N := w2.heap.size) (P := [.int .i64 g, (.slice (some ⟨G9, 0, none⟩) n rc), (.slice ma makes.length mc)]) hw'.out (by simp)
                have q0 := q.cell 0; have q1 := q.cell 1; have q2 := q.cell 2
                simp at q0 q1 q2
                simp [go_sem, q0, q1, q2]
              go_big_quiet_on
              repeat (first | go_big_quiet_skip | (go_big_quiet_want; go_big_quiet_op; first | go_big_quiet_on | (refine ⟨_, fun _ _ => rfl, ?_⟩; go_big_quiet_on)))
              exact wpQuiet_nil rfl
            · skip
              refine wpAnyH_call (i := 3) (d := some 62) 50 #[.pointer (some ⟨w.heap.size + 1, 0, none⟩), .agg #[.int .i64 g, (.slice (some ⟨G9, 0, none⟩) n rc), (.slice ma makes.length mc)]] rfl (by kernel_rfl) rfl rfl (by kernel_rfl) (fun _ => by kernel_rfl) fun wa hc => ?_
              obtain ⟨ka, hka, hd⟩ := hc.out.1
              refine (drawall_any _ ka g _ _ rows makes wa hd.rd (by simp at hka; omega) (fun w' ha => ST.out _ (hd.ab.trans ha)) hcl).mono ?_
              rintro e wc ⟨lv, ls, rfl, ol, hll, hlot, g7, k7, hk7, r7⟩
              refine ⟨_, rfl, (1, some (lv, ls)), Lib.hid ⟨⟨k7, by simp at hka ⊢; omega, hd.draw g7 r7⟩, fun r hr => by cases hr; exact own_mono ol hd.ab.1⟩, ?_⟩
              clear ol g7 r7 hd hka hc
              refine wpAnyH_call (i := 4) (d := some 63) 49 #[.agg #[.int .i64 g, (.slice (some ⟨G9, 0, none⟩) n rc), (.slice ma makes.length mc)], lv] rfl (by kernel_rfl) rfl rfl (by kernel_rfl) (fun _ => by kernel_rfl) fun wd hc => ?_
              obtain ⟨⟨kd, hkd, hd⟩, ho⟩ := hc.out
              refine (smake_any g _ _ lv rows ls wd (ST.out _ hd.ab).rows (Ints.of_own (ho _ rfl) (by unfold maxLen; simp; omega)) hlot.mkd).mono ?_
              rintro e we ⟨mv9, rfl, om, hb⟩
              refine ⟨_, rfl, (1, some (mv9, mkAll g rows ls)), Lib.hid ⟨⟨kd, hkd, hd.on hb⟩, fun r hr => by cases hr; exact own_mono om hd.ab.1⟩, ?_⟩
              clear om hb hd ho hc hkd
              refine wpAnyH_assign (i := 5) (d := some 7) (.tmp 63) rfl (by kernel_rfl) rfl rfl (by kernel_rfl) rfl ?_
              refine ⟨by kernel_rfl, fun wz hz => ?_⟩
              simp only [Act.put, Act.eval]
              obtain ⟨⟨kz, _, hd⟩, ho⟩ := hz.out
              have S7 : Hid (Fo w (w.heap.size + 1) (w.heap.size + 1) w3 [(w.heap.size, [.int .i64 0, .slice none 0 0, .slice none 0 0]), (w2.heap.size, [.int .i64 g, (.slice (some ⟨G9, 0, none⟩) n rc), (.slice ma makes.length mc)])] wz kz mv9 (mkAll g rows ls)) := Lib.hid ⟨hd, ho _ rfl⟩
              have hml := mkAll_len g rows ls
              have hr3 := hcl.r3
              clear hd ho hz HFZ
              have r0 := (S7.out.1.box (N := w.heap.size) (P := [.int .i64 0, .slice none 0 0, .slice none 0 0]) (by simp)).cell 0
              have r1 := (S7.out.1.box (N := w.heap.size) (P := [.int .i64 0, .slice none 0 0, .slice none 0 0]) (by simp)).cell 1
              have r2 := (S7.out.1.box (N := w.heap.size) (P := [.int .i64 0, .slice none 0 0, .slice none 0 0]) (by simp)).cell 2
              have f0 := (S7.out.1.box (N := w.heap.size) (P := [.int .i64 0, .slice none 0 0, .slice none 0 0]) (by simp)).frozen 0
              have f1 := (S7.out.1.box (N := w.heap.size) (P := [.int .i64 0, .slice none 0 0, .slice none 0 0]) (by simp)).frozen 1
              have f2 := (S7.out.1.box (N := w.heap.size) (P := [.int .i64 0, .slice none 0 0, .slice none 0 0]) (by simp)).frozen 2
              have b0 := (S7.out.1.box (N := w2.heap.size) (P := [.int .i64 g, (.slice (some ⟨G9, 0, none⟩) n rc), (.slice ma makes.length mc)]) (by simp)).cell 0
              have b1 := (S7.out.1.box (N := w2.heap.size) (P := [.int .i64 g, (.slice (some ⟨G9, 0, none⟩) n rc), (.slice ma makes.length mc)]) (by simp)).cell 1
              have b2 := (S7.out.1.box (N := w2.heap.size) (P := [.int .i64 g, (.slice (some ⟨G9, 0, none⟩) n rc), (.slice ma makes.length mc)]) (by simp)).cell 2
              simp at r0 r1 r2 b0 b1 b2
              go_wp2
              refine bodyPost_ret (v := .tuple #[.agg #[.int .i64 g, (.slice (some ⟨G9, 0, none⟩) n rc), (.slice ma makes.length mc)], mv9]) ?_ rfl ?_
              · simp [results, Tryd.results11, go_sem, r0, r1, r2]
              · exact ⟨g, _, _, _, rows, makes, (mkAll g rows ls), rfl, ST.out _ (S7.out.1.ab.trans (setAbove wz _ _ _)), Ints.of_own (setOwn S7.out.2 hw4) (by rw [mkAll_len]; unfold maxLen; have := hcl.r3; omega), setBelow (S7.out.1.below (Nat.le_succ _)) _ _ _⟩
          · have hp0 : (p == 0) = false := by simpa using hp
            have r0 := (S6.out.1.box (N := w.heap.size) (P := [.int .i64 0, .slice none 0 0, .slice none 0 0]) (by simp)).cell 0
            have r1 := (S6.out.1.box (N := w.heap.size) (P := [.int .i64 0, .slice none 0 0, .slice none 0 0]) (by simp)).cell 1
            have r2 := (S6.out.1.box (N := w.heap.size) (P := [.int .i64 0, .slice none 0 0, .slice none 0 0]) (by simp)).cell 2
            have f0 := (S6.out.1.box (N := w.heap.size) (P := [.int .i64 0, .slice none 0 0, .slice none 0 0]) (by simp)).frozen 0
            have f1 := (S6.out.1.box (N := w.heap.size) (P := [.int .i64 0, .slice none 0 0, .slice none 0 0]) (by simp)).frozen 1
            have f2 := (S6.out.1.box (N := w.heap.size) (P := [.int .i64 0, .slice none 0 0, .slice none 0 0]) (by simp)).frozen 2
            have b0 := (S6.out.1.box (N := w2.heap.size) (P := [.int .i64 g, (.slice (some ⟨G9, 0, none⟩) n rc), (.slice ma makes.length mc)]) (by simp)).cell 0
            have b1 := (S6.out.1.box (N := w2.heap.size) (P := [.int .i64 g, (.slice (some ⟨G9, 0, none⟩) n rc), (.slice ma makes.length mc)]) (by simp)).cell 1
            have b2 := (S6.out.1.box (N := w2.heap.size) (P := [.int .i64 g, (.slice (some ⟨G9, 0, none⟩) n rc), (.slice ma makes.length mc)]) (by simp)).cell 2
            simp at r0 r1 r2 b0 b1 b2
            go_wp2
            refine bodyPost_ret (v := .tuple #[.agg #[.int .i64 g, (.slice (some ⟨G9, 0, none⟩) n rc), (.slice ma makes.length mc)], u7]) ?_ rfl ?_
            · simp [results, Tryd.results11, go_sem, r0, r1, r2]
            · exact ⟨g, _, _, _, rows, makes, xs, rfl, ST.out _ (S6.out.1.ab.trans (setAbove w6 _ _ _)), Ints.of_own (setOwn S6.out.2 hw4) (by rw [hxl]; unfold maxLen; omega), setBelow (S6.out.1.below (Nat.le_succ _)) _ _ _⟩
  obtain ⟨hg1, hn1, hu1⟩ := hall
  obtain ⟨a9, c9, e9, k9⟩ := (ST.out _ (Above.refl _ _)).rows.opened
  rw [HN.out] at e9
  cases e9
  obtain ⟨G9, u9, rfl, _, cc9, i9⟩ := k9.get 0 (by rw [HN.out]; exact hn1)
  obtain ⟨a8, c8, rfl, _⟩ := i9.opened
  obtain ⟨l9, hl9⟩ : ∃ l, (row rows 0).length = l := ⟨_, rfl⟩
  rw [hl9] at hu1 cc9
  have hgg : g > 1 := by omega
  have hlL : (l9 : Int) > 1 := by omega
  have hnn : (n : Int) > 0 := by omega
  have X3 := Lib.hid (F3.out.box (N := w2.heap.size) (P := [.int .i64 g, (.slice (some ⟨G9, 0, none⟩) n rc), (.slice ma makes.length mc)]) (by simp))
  have f0 := X3.out.frozen 0
  have f1 := X3.out.frozen 1
  have f2 := X3.out.frozen 2
  clear i9 k9 hl9
  rw [hw3] at cc9 f0 f1 f2
  have HW3 := Lib.hid hw3
  clear hw3
  go_upto_region 5 with (fail)
  obtain ⟨w4, hw4'⟩ : ∃ w4, w4 = (((w2.alloc (.cells #[.int .i64 0, (.slice (some ⟨w2.heap.size + 1 + 1, 0, none⟩) 1 1), (.slice (some ⟨w2.heap.size + 1 + 1 + 1, 0, none⟩) 1 1)] 26)).alloc (.cells #[.int .i64 2, .int .i64 4] 3)).alloc (.cells #[.slice (some ⟨w2.heap.size + 1, 0, none⟩) 2 2] 24)).alloc (.cells #[.int .i64 4] 3) := ⟨_, rfl⟩
  have h24 : Below w2.heap.size w2 w4 := by rw [hw4']; exact (((below_grow w2 _).alloc (by simp) _).alloc (by simp; omega) _).alloc (by simp; omega) _
  have h23 : Below w2.heap.size w2 w3 := by rw [HW3.out]; exact below_grow w2 _
  have hs4 : w4.heap.size = w2.heap.size + 4 := by rw [hw4']; simp
  have hs3 : w3.heap.size = w2.heap.size + 1 := by rw [HW3.out]; simp
  have hB : Below w2.heap.size w3 w4 := ⟨h24.os.trans h23.os.symm, h24.tape.trans h23.tape.symm, h24.output.trans h23.output.symm, by omega, fun q hq => (h24.block q hq).trans (h23.block q hq).symm⟩
  have e0 : Box w4 w2.heap.size [.int .i64 0, (.slice (some ⟨w2.heap.size + 1 + 1, 0, none⟩) 1 1), (.slice (some ⟨w2.heap.size + 1 + 1 + 1, 0, none⟩) 1 1)] := by rw [hw4']; exact (((Box.made w2 _ _).alloc _).alloc _).alloc _
  have e1 : Box w4 (w2.heap.size + 1) [.int .i64 2, .int .i64 4] := by
    rw [hw4']; have := (((Box.made (w2.alloc (.cells #[.int .i64 0, (.slice (some ⟨w2.heap.size + 1 + 1, 0, none⟩) 1 1), (.slice (some ⟨w2.heap.size + 1 + 1 + 1, 0, none⟩) 1 1)] 26)) [.int .i64 2, .int .i64 4] 3).alloc (.cells #[.slice (some ⟨w2.heap.size + 1, 0, none⟩) 2 2] 24)).alloc (.cells #[.int .i64 4] 3)); simpa using this
  have e2 : Box w4 (w2.heap.size + 1 + 1) [.slice (some ⟨w2.heap.size + 1, 0, none⟩) 2 2] := by
    rw [hw4']; have := ((Box.made ((w2.alloc (.cells #[.int .i64 0, (.slice (some ⟨w2.heap.size + 1 + 1, 0, none⟩) 1 1), (.slice (some ⟨w2.heap.size + 1 + 1 + 1, 0, none⟩) 1 1)] 26)).alloc (.cells #[.int .i64 2, .int .i64 4] 3)) [.slice (some ⟨w2.heap.size + 1, 0, none⟩) 2 2] 24).alloc (.cells #[.int .i64 4] 3)); simpa using this
  have e3 : Box w4 (w2.heap.size + 1 + 1 + 1) [.int .i64 4] := by
    rw [hw4']; have := (Box.made (((w2.alloc (.cells #[.int .i64 0, (.slice (some ⟨w2.heap.size + 1 + 1, 0, none⟩) 1 1), (.slice (some ⟨w2.heap.size + 1 + 1 + 1, 0, none⟩) 1 1)] 26)).alloc (.cells #[.int .i64 2, .int .i64 4] 3)).alloc (.cells #[.slice (some ⟨w2.heap.size + 1, 0, none⟩) 2 2] 24)) [.int .i64 4] 3); simpa using this
  have F4 : Hid (Fw w (w.heap.size + 1) (w.heap.size + 1) w4 [(w.heap.size, [.int .i64 0, .slice none 0 0, .slice none 0 0]), (w2.heap.size, [.int .i64 0, (.slice (some ⟨w2.heap.size + 1 + 1, 0, none⟩) 1 1), (.slice (some ⟨w2.heap.size + 1 + 1 + 1, 0, none⟩) 1 1)])] w4 k2) := Lib.hid ⟨F3.out.rd.upto hB hs2, by
    have hgr := F3.out.gr
    exact ⟨hB.os.trans hgr.os, hB.tape.trans hgr.tape, hB.output.trans hgr.output, Nat.le_trans hgr.size hB.size, fun q h1 h2 => (hB.block q (by omega)).trans (hgr.block q h1 h2)⟩, (fun p hp => by
    rcases List.mem_cons.1 hp with e | hp
    · subst e; exact ⟨by show w.heap.size < _; omega, by show w.heap.size ≠ w.heap.size + 1; omega, (F3.out.box (N := w.heap.size) (P := [.int .i64 0, .slice none 0 0, .slice none 0 0]) (by simp)).kept (hB.block _ (by omega))⟩
    · rcases List.mem_cons.1 hp with e | hp
      · subst e; exact ⟨by show w2.heap.size < _; omega, by show w2.heap.size ≠ w.heap.size + 1; omega, e0⟩
      · cases hp), Above.refl _ _, Nat.le_refl _, by omega, by omega⟩
  have ST := Lib.hid (show ∀ w', Above (w.heap.size + 1) w4 w' → Cw w' (.slice (some ⟨w2.heap.size + 1 + 1, 0, none⟩) 1 1) (.slice (some ⟨w2.heap.size + 1 + 1 + 1, 0, none⟩) 1 1) [[2, 4]] [4] from fun w' ha => by
    have d1 := e1.kept (ha.2 _ (by omega) (by omega))
    have d2 := e2.kept (ha.2 _ (by omega) (by omega))
    have d3 := e3.kept (ha.2 _ (by omega) (by omega))
    refine ⟨⟨_, _, rfl, by show 1 ≤ maxLen; decide, fun j hj => ?_⟩, .inr ⟨_, _, rfl, by show 1 ≤ maxLen; decide, d3.lt, fun j hj => ?_⟩⟩
    · obtain rfl : j = 0 := by simp at hj; exact hj
      refine ⟨_, _, rfl, d2.lt, d2.cell 0, .inr ⟨_, _, rfl, by show 2 ≤ maxLen; decide, d1.lt, fun i hi => ?_⟩⟩
      have hi2 : i = 0 ∨ i = 1 := by have : i < 2 := hi; omega
      rcases hi2 with rfl | rfl
      · exact d1.cell 0
      · exact d1.cell 1
    · obtain rfl : j = 0 := by simp at hj; exact hj
      exact d3.cell 0)
  have hw4 : w.heap.size < w4.heap.size := by omega
  rw [← hw4']
  clear p0 p1 p2 cc9 f0 f1 f2 X3 hw4' h24 h23 hB e0 e1 e2 e3 hs4 hs3 F3 HW3
  have O4 : Hid (Fo w (w.heap.size + 1) (w.heap.size + 1) w4 [(w.heap.size, [.int .i64 0, .slice none 0 0, .slice none 0 0]), (w2.heap.size, [.int .i64 0, (.slice (some ⟨w2.heap.size + 1 + 1, 0, none⟩) 1 1), (.slice (some ⟨w2.heap.size + 1 + 1 + 1, 0, none⟩) 1 1)])] (w4.alloc (.cells #[] 3)) k2 (.slice (some ⟨w4.heap.size, 0, none⟩) 0 0) []) := Lib.hid ⟨F4.out.on (below_grow _ _), own_made w4 3 rfl⟩
  clear F4
  go_wp2
  go_loopw [7, 8] (fun v i wr => ∃ (j : Nat) (xs : List Int) (k3 : Nat), j ≤ 1 ∧ i = .int .i64 j ∧ xs.length = j ∧ k3 ≤ k2 + 2 * j ∧ Hid (Fo w (w.heap.size + 1) (w.heap.size + 1) w4 [(w.heap.size, [.int .i64 0, .slice none 0 0, .slice none 0 0]), (w2.heap.size, [.int .i64 0, (.slice (some ⟨w2.heap.size + 1 + 1, 0, none⟩) 1 1), (.slice (some ⟨w2.heap.size + 1 + 1 + 1, 0, none⟩) 1 1)])] wr k3 v xs)) (fun _ i _ => 1 - (intOf i).toNat)
  case atStart => exact ⟨0, [], k2, by omega, rfl, rfl, by omega, O4⟩
  case round =>
    obtain ⟨j, xs, k3, hj, rfl, hxl, hk3, hS⟩ := hrel
    obtain ⟨wo, rfl⟩ : ∃ wo : World, wo = wr := ⟨_, rfl⟩
    clear O4
    have b0 := (hS.out.1.box (N := w2.heap.size) (P := [.int .i64 0, (.slice (some ⟨w2.heap.size + 1 + 1, 0, none⟩) 1 1), (.slice (some ⟨w2.heap.size + 1 + 1 + 1, 0, none⟩) 1 1)]) (by simp)).cell 0
    have b1 := (hS.out.1.box (N := w2.heap.size) (P := [.int .i64 0, (.slice (some ⟨w2.heap.size + 1 + 1, 0, none⟩) 1 1), (.slice (some ⟨w2.heap.size + 1 + 1 + 1, 0, none⟩) 1 1)]) (by simp)).cell 1
    have b2 := (hS.out.1.box (N := w2.heap.size) (P := [.int .i64 0, (.slice (some ⟨w2.heap.size + 1 + 1, 0, none⟩) 1 1), (.slice (some ⟨w2.heap.size + 1 + 1 + 1, 0, none⟩) 1 1)]) (by simp)).cell 2
    simp at b0 b1 b2
    by_cases hjn : j < 1
    · have hjn1 : (j : Int) < (1 : Int) := by omega
      go_wp2_with fail
      refine (drawelem_any _ k3 0 30 _ hS.out.1.rd (by omega) (by omega) (by omega)).mono ?_
      rintro e w5 ⟨x, rfl, x0, x1, g4, k4, hk4, hr4⟩
      have S5 := Lib.hid (hS.out.draw g4 hr4)
      clear hS g4 hr4 b0 b1 b2
      go_wp2_with (at_builtin; refine wpAppInt rfl _ _ rfl rfl S5.out.2 (by omega) S5.out.1.ab.1 rfl ?_)
      intro v5 w6 o5 g5 _
      have S6 := Lib.hid (S5.out.app o5 g5)
      clear o5 g5 S5
      go_wp2
      go_roundw
      case rel => exact ⟨j + 1, xs ++ [x], k4, by omega, by go_num, by rw [List.length_append, hxl]; rfl, by omega, S6⟩
      case measure => simp [intOf]; omega
    · obtain rfl : j = 1 := by omega
      have hjn1 : ¬ ((1 : Nat) : Int) < ((1 : Nat) : Int) := by omega
      cases hc : clB 0 [[2, 4]] [4]
      · go_wp2_with fail
        refine (sclaim_any 0 _ _ [[2, 4]] [4] _ (ST.out _ hS.out.1.ab)).mono ?_
        rintro e w5 ⟨rfl, hb⟩
        rw [hc]
        have S5 := Lib.hid (hS.out.on hb)
        clear hb hS b0 b1 b2
        have r0 := (S5.out.1.box (N := w.heap.size) (P := [.int .i64 0, .slice none 0 0, .slice none 0 0]) (by simp)).cell 0
        have r1 := (S5.out.1.box (N := w.heap.size) (P := [.int .i64 0, .slice none 0 0, .slice none 0 0]) (by simp)).cell 1
        have r2 := (S5.out.1.box (N := w.heap.size) (P := [.int .i64 0, .slice none 0 0, .slice none 0 0]) (by simp)).cell 2
        have f0 := (S5.out.1.box (N := w.heap.size) (P := [.int .i64 0, .slice none 0 0, .slice none 0 0]) (by simp)).frozen 0
        have f1 := (S5.out.1.box (N := w.heap.size) (P := [.int .i64 0, .slice none 0 0, .slice none 0 0]) (by simp)).frozen 1
        have f2 := (S5.out.1.box (N := w.heap.size) (P := [.int .i64 0, .slice none 0 0, .slice none 0 0]) (by simp)).frozen 2
        have b0 := (S5.out.1.box (N := w2.heap.size) (P := [.int .i64 0, (.slice (some ⟨w2.heap.size + 1 + 1, 0, none⟩) 1 1), (.slice (some ⟨w2.heap.size + 1 + 1 + 1, 0, none⟩) 1 1)]) (by simp)).cell 0
        have b1 := (S5.out.1.box (N := w2.heap.size) (P := [.int .i64 0, (.slice (some ⟨w2.heap.size + 1 + 1, 0, none⟩) 1 1), (.slice (some ⟨w2.heap.size + 1 + 1 + 1, 0, none⟩) 1 1)]) (by simp)).cell 1
        have b2 := (S5.out.1.box (N := w2.heap.size) (P := [.int .i64 0, (.slice (some ⟨w2.heap.size + 1 + 1, 0, none⟩) 1 1), (.slice (some ⟨w2.heap.size + 1 + 1 + 1, 0, none⟩) 1 1)]) (by simp)).cell 2
        simp at r0 r1 r2 b0 b1 b2
        go_wp2
        refine bodyPost_ret (v := .tuple #[.agg #[.int .i64 0, (.slice (some ⟨w2.heap.size + 1 + 1, 0, none⟩) 1 1), (.slice (some ⟨w2.heap.size + 1 + 1 + 1, 0, none⟩) 1 1)], u7]) ?_ rfl ?_
        · simp [results, Tryd.results11, go_sem, r0, r1, r2]
        · exact ⟨0, _, _, _, [[2, 4]], [4], xs, rfl, ST.out _ (S5.out.1.ab.trans (setAbove w5 _ _ _)), Ints.of_own (setOwn S5.out.2 hw4) (by rw [hxl]; unfold maxLen; omega), setBelow (S5.out.1.below (Nat.le_succ _)) _ _ _⟩
      · go_wp2_with fail
        refine (sclaim_any 0 _ _ [[2, 4]] [4] _ (ST.out _ hS.out.1.ab)).mono ?_
        rintro e w5 ⟨rfl, hb⟩
        rw [hc]
        have S5 := Lib.hid (hS.out.on hb)
        clear hb hS b0 b1 b2
        go_wp2_with fail
        refine (pick_any _ k3 _ _ S5.out.1.rd (by omega)).mono ?_
        rintro e w6 ⟨p, rfl, p0, p1, mm, hw6⟩
        have S6 := Lib.hid (show Fo w (w.heap.size + 1) (w.heap.size + 1) w4 [(w.heap.size, [.int .i64 0, .slice none 0 0, .slice none 0 0]), (w2.heap.size, [.int .i64 0, (.slice (some ⟨w2.heap.size + 1 + 1, 0, none⟩) 1 1), (.slice (some ⟨w2.heap.size + 1 + 1 + 1, 0, none⟩) 1 1)])] w6 (k3 + 1) u7 xs by rw [hw6]; exact S5.out.draw (grown_pick _ _ _ mm) (S5.out.1.rd.next mm))
        clear hw6 S5 p1
        by_cases hp : p = 0
        · subst hp
          have hcl := clB_true.1 hc
          have HFZ : Hid (Fz w (w.heap.size + 1) w4 [(w.heap.size, [.int .i64 0, .slice none 0 0, .slice none 0 0]), (w2.heap.size, [.int .i64 0, (.slice (some ⟨w2.heap.size + 1 + 1, 0, none⟩) 1 1), (.slice (some ⟨w2.heap.size + 1 + 1 + 1, 0, none⟩) 1 1)])] (k3 + 1) (0, none) w6.drew) := Lib.hid ⟨⟨k3 + 1, by simp, S6.out.1.on (Below.refl _ _).drew⟩, fun r hr => by cases hr⟩
          clear S6
          go_wp2_with fail
          apply wp_region_H (Z := Nat × Option (Value × List Int)) (S := fun k => k == 3 || k == 4) (C := fun z w' => Hid (Fz w (w.heap.size + 1) w4 [(w.heap.size, [.int .i64 0, .slice none 0 0, .slice none 0 0]), (w2.heap.size, [.int .i64 0, (.slice (some ⟨w2.heap.size + 1 + 1, 0, none⟩) 1 1), (.slice (some ⟨w2.heap.size + 1 + 1 + 1, 0, none⟩) 1 1)])] (k3 + 1) z w')) [0, 1, 2] (0, none)
          · kernel_rfl
          · kernel_rfl
          · kernel_rfl
          · exact ⟨rfl, rfl, rfl, trivial⟩
          · rfl
          · decide
          · exact HFZ
          · intro z
            dsimp only [pickL, nthO]
            repeat (first | go_big_quiet_skip | (go_big_quiet_want; go_big_quiet_op; first | go_big_quiet_on | (refine ⟨_, fun _ _ => rfl, ?_⟩; go_big_quiet_on)))
            go_big_quiet_want
            go_big_quiet_op
            refine ⟨.agg #[.int .i64 0, (.slice (some ⟨w2.heap.size + 1 + 1, 0, none⟩) 1 1), (.slice (some ⟨w2.heap.size + 1 + 1 + 1, 0, none⟩) 1 1)], fun w' hw' => ?_, ?_⟩
            · have q := Fz.box (N := w2.heap.size) (P := [.int .i64 0, (.slice (some ⟨w2.heap.size + 1 + 1, 0, none⟩) 1 1), (.slice (some ⟨w2.heap.size + 1 + 1 + 1, 0, none⟩) 1 1)]) hw'.out (by simp)
              have q0 := q.cell 0; have q1 := q.cell 1; have q2 := q.cell 2
              simp at q0 q1 q2
              simp [go_sem, q0, q1, q2]
            go_big_quiet_on
            repeat (first | go_big_quiet_skip | (go_big_quiet_want; go_big_quiet_op; first | go_big_quiet_on | (refine ⟨_, fun _ _ => rfl, ?_⟩; go_big_quiet_on)))
            go_big_quiet_want
            go_big_quiet_op
            refine ⟨.agg #[.int .i64 0, (.slice (some ⟨w2.heap.size + 1 + 1, 0, none⟩) 1 1), (.slice (some ⟨w2.heap.size + 1 + 1 + 1, 0, none⟩) 1 1)], fun w' hw' => ?_, ?_⟩
            · have q := Fz.box (N := w2.heap.size) (P := [.int .i64 0, (.slice (some ⟨w2.heap.size + 1 + 1, 0, none⟩) 1 1), (.slice (some ⟨w2.heap.size + 1 + 1 + 1, 0, none⟩) 1 1)]) hw'.out (by simp)
              have q0 := q.cell 0; have q1 := q.cell 1; have q2 := q.cell 2
              simp at q0 q1 q2
              simp [go_sem, q0, q1, q2]
            go_big_quiet_on
            repeat (first | go_big_quiet_skip | (go_big_quiet_want; go_big_quiet_op; first | go_big_quiet_on | (refine ⟨_, fun _ _ => rfl, ?_⟩; go_big_quiet_on)))
            exact wpQuiet_nil rfl
          · skip
            refine wpAnyH_call (i := 3) (d := some 62) 50 #[.pointer (some ⟨w.heap.size + 1, 0, none⟩), .agg #[.int .i64 0, (.slice (some ⟨w2.heap.size + 1 + 1, 0, none⟩) 1 1), (.slice (some ⟨w2.heap.size + 1 + 1 + 1, 0, none⟩) 1 1)]] rfl (by kernel_rfl) rfl rfl (by kernel_rfl) (fun _ => by kernel_rfl) fun wa hc => ?_
            obtain ⟨ka, hka, hd⟩ := hc.out.1
            refine (drawall_any _ ka 0 _ _ [[2, 4]] [4] wa hd.rd (by simp at hka; omega) (fun w' ha => ST.out _ (hd.ab.trans ha)) hcl).mono ?_
            rintro e wc ⟨lv, ls, rfl, ol, hll, hlot, g7, k7, hk7, r7⟩
            refine ⟨_, rfl, (1, some (lv, ls)), Lib.hid ⟨⟨k7, by simp at hka ⊢; omega, hd.draw g7 r7⟩, fun r hr => by cases hr; exact own_mono ol hd.ab.1⟩, ?_⟩
            clear ol g7 r7 hd hka hc
            refine wpAnyH_call (i := 4) (d := some 63) 49 #[.agg #[.int .i64 0, (.slice (some ⟨w2.heap.size + 1 + 1, 0, none⟩) 1 1), (.slice (some ⟨w2.heap.size + 1 + 1 + 1, 0, none⟩) 1 1)], lv] rfl (by kernel_rfl) rfl rfl (by kernel_rfl) (fun _ => by kernel_rfl) fun wd hc => ?_
            obtain ⟨⟨kd, hkd, hd⟩, ho⟩ := hc.out
            refine (smake_any 0 _ _ lv [[2, 4]] ls wd (ST.out _ hd.ab).rows (Ints.of_own (ho _ rfl) (by unfold maxLen; simp; omega)) hlot.mkd).mono ?_
            rintro e we ⟨mv9, rfl, om, hb⟩
            refine ⟨_, rfl, (1, some (mv9, mkAll 0 [[2, 4]] ls)), Lib.hid ⟨⟨kd, hkd, hd.on hb⟩, fun r hr => by cases hr; exact own_mono om hd.ab.1⟩, ?_⟩
            clear om hb hd ho hc hkd
            refine wpAnyH_assign (i := 5) (d := some 7) (.tmp 63) rfl (by kernel_rfl) rfl rfl (by kernel_rfl) rfl ?_
            refine ⟨by kernel_rfl, fun wz hz => ?_⟩
            simp only [Act.put, Act.eval]
            obtain ⟨⟨kz, _, hd⟩, ho⟩ := hz.out
            have S7 : Hid (Fo w (w.heap.size + 1) (w.heap.size + 1) w4 [(w.heap.size, [.int .i64 0, .slice none 0 0, .slice none 0 0]), (w2.heap.size, [.int .i64 0, (.slice (some ⟨w2.heap.size + 1 + 1, 0, none⟩) 1 1), (.slice (some ⟨w2.heap.size + 1 + 1 + 1, 0, none⟩) 1 1)])] wz kz mv9 (mkAll 0 [[2, 4]] ls)) := Lib.hid ⟨hd, ho _ rfl⟩
            have hml := mkAll_len 0 [[2, 4]] ls
            have hr3 := hcl.r3
            clear hd ho hz HFZ
            have r0 := (S7.out.1.box (N := w.heap.size) (P := [.int .i64 0, .slice none 0 0, .slice none 0 0]) (by simp)).cell 0
            have r1 := (S7.out.1.box (N := w.heap.size) (P := [.int .i64 0, .slice none 0 0, .slice none 0 0]) (by simp)).cell 1
            have r2 := (S7.out.1.box (N := w.heap.size) (P := [.int .i64 0, .slice none 0 0, .slice none 0 0]) (by simp)).cell 2
            have f0 := (S7.out.1.box (N := w.heap.size) (P := [.int .i64 0, .slice none 0 0, .slice none 0 0]) (by simp)).frozen 0
            have f1 := (S7.out.1.box (N := w.heap.size) (P := [.int .i64 0, .slice none 0 0, .slice none 0 0]) (by simp)).frozen 1
            have f2 := (S7.out.1.box (N := w.heap.size) (P := [.int .i64 0, .slice none 0 0, .slice none 0 0]) (by simp)).frozen 2
            have b0 := (S7.out.1.box (N := w2.heap.size) (P := [.int .i64 0, (.slice (some ⟨w2.heap.size + 1 + 1, 0, none⟩) 1 1), (.slice (some ⟨w2.heap.size + 1 + 1 + 1, 0, none⟩) 1 1)]) (by simp)).cell 0
            have b1 := (S7.out.1.box (N := w2.heap.size) (P := [.int .i64 0, (.slice (some ⟨w2.heap.size + 1 + 1, 0, none⟩) 1 1), (.slice (some ⟨w2.heap.size + 1 + 1 + 1, 0, none⟩) 1 1)]) (by simp)).cell 1
            have b2 := (S7.out.1.box (N := w2.heap.size) (P := [.int .i64 0, (.slice (some ⟨w2.heap.size + 1 + 1, 0, none⟩) 1 1), (.slice (some ⟨w2.heap.size + 1 + 1 + 1, 0, none⟩) 1 1)]) (by simp)).cell 2
            simp at r0 r1 r2 b0 b1 b2
            go_wp2
            refine bodyPost_ret (v := .tuple #[.agg #[.int .i64 0, (.slice (some ⟨w2.heap.size + 1 + 1, 0, none⟩) 1 1), (.slice (some ⟨w2.heap.size + 1 + 1 + 1, 0, none⟩) 1 1)], mv9]) ?_ rfl ?_
            · simp [results, Tryd.results11, go_sem, r0, r1, r2]
            · exact ⟨0, _, _, _, [[2, 4]], [4], (mkAll 0 [[2, 4]] ls), rfl, ST.out _ (S7.out.1.ab.trans (setAbove wz _ _ _)), Ints.of_own (setOwn S7.out.2 hw4) (by rw [mkAll_len]; unfold maxLen; have := hcl.r3; omega), setBelow (S7.out.1.below (Nat.le_succ _)) _ _ _⟩
        · have hp0 : (p == 0) = false := by simpa using hp
          have r0 := (S6.out.1.box (N := w.heap.size) (P := [.int .i64 0, .slice none 0 0, .slice none 0 0]) (by simp)).cell 0
          have r1 := (S6.out.1.box (N := w.heap.size) (P := [.int .i64 0, .slice none 0 0, .slice none 0 0]) (by simp)).cell 1
          have r2 := (S6.out.1.box (N := w.heap.size) (P := [.int .i64 0, .slice none 0 0, .slice none 0 0]) (by simp)).cell 2
          have f0 := (S6.out.1.box (N := w.heap.size) (P := [.int .i64 0, .slice none 0 0, .slice none 0 0]) (by simp)).frozen 0
          have f1 := (S6.out.1.box (N := w.heap.size) (P := [.int .i64 0, .slice none 0 0, .slice none 0 0]) (by simp)).frozen 1
          have f2 := (S6.out.1.box (N := w.heap.size) (P := [.int .i64 0, .slice none 0 0, .slice none 0 0]) (by simp)).frozen 2
          have b0 := (S6.out.1.box (N := w2.heap.size) (P := [.int .i64 0, (.slice (some ⟨w2.heap.size + 1 + 1, 0, none⟩) 1 1), (.slice (some ⟨w2.heap.size + 1 + 1 + 1, 0, none⟩) 1 1)]) (by simp)).cell 0
          have b1 := (S6.out.1.box (N := w2.heap.size) (P := [.int .i64 0, (.slice (some ⟨w2.heap.size + 1 + 1, 0, none⟩) 1 1), (.slice (some ⟨w2.heap.size + 1 + 1 + 1, 0, none⟩) 1 1)]) (by simp)).cell 1
          have b2 := (S6.out.1.box (N := w2.heap.size) (P := [.int .i64 0, (.slice (some ⟨w2.heap.size + 1 + 1, 0, none⟩) 1 1), (.slice (some ⟨w2.heap.size + 1 + 1 + 1, 0, none⟩) 1 1)]) (by simp)).cell 2
          simp at r0 r1 r2 b0 b1 b2
          go_wp2
          refine bodyPost_ret (v := .tuple #[.agg #[.int .i64 0, (.slice (some ⟨w2.heap.size + 1 + 1, 0, none⟩) 1 1), (.slice (some ⟨w2.heap.size + 1 + 1 + 1, 0, none⟩) 1 1)], u7]) ?_ rfl ?_
          · simp [results, Tryd.results11, go_sem, r0, r1, r2]
          · exact ⟨0, _, _, _, [[2, 4]], [4], xs, rfl, ST.out _ (S6.out.1.ab.trans (setAbove w6 _ _ _)), Ints.of_own (setOwn S6.out.2 hw4) (by rw [hxl]; unfold maxLen; omega), setBelow (S6.out.1.below (Nat.le_succ _)) _ _ _⟩

end Go.Proofs.YtkcikhjobgackacDoor
