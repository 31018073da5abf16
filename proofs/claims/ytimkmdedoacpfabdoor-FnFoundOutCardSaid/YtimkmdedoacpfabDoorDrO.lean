/- DrawBestCheat, with the list's own memory; DrawFoundOut. -/
import Derived.Test.YtimkmdedoacpfabDoorDrN
import Derived.Test.YtimkmdedoacpfabDoorDrK
import Derived.Test.YtimkmdedoacpfabDoorRegionM
namespace Go.Proofs.YtimkmdedoacpfabDoor
open Go.RowKit

def GoPost (w : World) (e : Ending) (w' : World) : Prop := ∃ p v es, e = .returned (.agg #[.int .i64 p, v]) ∧ 0 ≤ p ∧ p ≤ 5 ∧ Own w' w.heap.size v es ∧ es.length ≤ 50 ∧ Sml es ∧ Below w.heap.size w w'
def FtPost (w : World) (e : Ending) (w' : World) : Prop := ∃ p v es t, e = .returned (.tuple #[.agg #[.int .i64 p, v], .int .i64 t]) ∧ 0 ≤ p ∧ p ≤ 5 ∧ Li w' v es ∧ 0 ≤ t ∧ t ≤ 7 ∧ Below w.heap.size w w'
theorem dn_opened {w W0 w1 : World} {Bs : List (Nat × List Value)} (s : Sx w Bs [] W0) (hB : ∀ b, b ∈ Bs → w.heap.size ≤ b.1) (hr : Rd w1 W0.heap.size 0) (hb : Below W0.heap.size W0 w1) : Dn w W0.heap.size Bs [] (some 0) w1 :=
  ⟨fun K e => by cases e; exact hr, Below.on s.be hb, ⟨s.be.size, hr.lt⟩, fun b m => ⟨hB b m, by have := (s.bx b m).lt; omega, (s.bx b m).on hb⟩, fun x m => (by cases m), fun b mb x m => (by cases m)⟩
theorem code_tail {w : World} {b off len cap : Nat} {z : Nat → Int} (h1 : 0 < len) (h2 : len ≤ cap) (h3 : cap ≤ maxLen) (h4 : b < w.heap.size) (h5 : ∀ j, j < len → w.cell? ⟨b, off + j, none⟩ = some (.int .u8 (z j))) (h6 : ∀ j, 0 ≤ z j ∧ z j ≤ 255) : CodeIn w (.slice (some ⟨b, off + 1, none⟩) (len - 1) (cap - 1)) := by
  by_cases h : len = 1
  · exact .inl ⟨_, _, by rw [h]⟩
  · exact .inr ⟨b, off + 1, len - 1, cap - 1, fun j => z (1 + j), rfl, by omega, by omega, by omega, h4, fun j hj => by rw [Nat.add_assoc]; exact h5 (1 + j) (by omega), fun j => h6 (1 + j)⟩

set_option maxHeartbeats 3200000 in
theorem drawBestCheat_own (s : Value) (w : World) (h : CodeIn w s) : Calls Tryd.prog 39 #[s] w (GoPost w) := by
  have H := Lib.hid h; clear h
  obtain ⟨W0, hW0⟩ : ∃ W, W = w.alloc (.cells #[.int .i64 0, .slice none 0 0] 25) := ⟨_, rfl⟩
  have HC := Lib.hid (show CodeIn W0 s by rw [hW0]; exact code_more3 H.out _)
  have B0 := Lib.hid (show Box W0 w.heap.size [.int .i64 0, .slice none 0 0] by rw [hW0]; exact Box.made w _ _)
  have HZ0 := Lib.hid (show W0.heap.size = w.heap.size + 1 by rw [hW0]; simp)
  have HB0 := Lib.hid (show Below w.heap.size w W0 by rw [hW0]; exact below_grow _ _)
  go_enter Tryd.func39, Tryd.ntmps39
  go_wp2_with fail
  rw [← hW0]
  clear hW0 H
  refine (open_any _ _ HC.out).mono ?_
  rintro e w1 ⟨rfl, hr, hb⟩
  have HB := Lib.hid (Below.on HB0.out hb)
  have HS : Hid (w.heap.size < w1.heap.size) := Lib.hid (by have := hb.size; have := HZ0.out; omega)
  have BX := Lib.hid (B0.out.on hb)
  have D1 := Lib.hid (Dx.start hr)
  clear hr hb B0 HC HB0
  go_wp2_with fail
  refine (pick_any _ _ 4 _ D1.out.rd (by omega)).mono ?_
  rintro e w9 ⟨b, rfl, b0, b1, mmb, hw⟩
  have D9 := Lib.hid (D1.out.next hw)
  clear hw b1 D1
  by_cases hb : b = 0
  · subst hb
    have BX2 := Lib.hid (box_drawn3 BX.out D9.out.gr (by have := HZ0.out; omega))
    have HB2 := Lib.hid (show Below w.heap.size w w9 from HB.out.grown D9.out.gr (Nat.le_of_lt HS.out) (fun q e => by cases e; have := HZ0.out; omega))
    have hs9 : w.heap.size < w9.heap.size := BX2.out.lt
    have z0 := BX2.out.cell 0; have z1 := BX2.out.cell 1; have f0 := BX2.out.frozen 0; have f1 := BX2.out.frozen 1
    simp at z0 z1
    have hsz : ((w9.setCell ⟨w.heap.size, 0, none⟩ (.int .i64 4)).setCell ⟨w.heap.size, 1, none⟩ (.slice (some ⟨w9.heap.size, 0, none⟩) 6 6)).heap.size = w9.heap.size := by simp
    have ol := own_lit6 ((w9.setCell ⟨w.heap.size, 0, none⟩ (.int .i64 4)).setCell ⟨w.heap.size, 1, none⟩ (.slice (some ⟨w9.heap.size, 0, none⟩) 6 6)) 1 2 3 12 13 23
    rw [hsz] at ol
    have ho := own_mono ol (Nat.le_of_lt hs9)
    have hf := (((HB2.out).setCell (p := ⟨w.heap.size, 0, none⟩) (Nat.le_refl _) (.int .i64 4)).setCell (p := ⟨w.heap.size, 1, none⟩) (Nat.le_refl _) (.slice (some ⟨w9.heap.size, 0, none⟩) 6 6)).alloc (by rw [hsz]; exact Nat.le_of_lt hs9) (.cells #[.int .i64 1, .int .i64 2, .int .i64 3, .int .i64 12, .int .i64 13, .int .i64 23] 3)
    have BX4 := (((BX2.out.set 0 (.int .i64 4)).set 1 (.slice (some ⟨w9.heap.size, 0, none⟩) 6 6)).alloc (.cells #[.int .i64 1, .int .i64 2, .int .i64 3, .int .i64 12, .int .i64 13, .int .i64 23] 3))
    have E0 := Lib.hid (BX4.cell 0)
    have E1 := Lib.hid (BX4.cell 1)
    clear D9 ol hsz BX4
    go_wp2
    refine bodyPost_ret (v := .agg #[.int .i64 4, .slice (some ⟨w9.heap.size, 0, none⟩) 6 6]) ?_ rfl ⟨4, _, _, rfl, by omega, by omega, ho, by decide, k4_sml, hf⟩
    have e0 := E0.out
    have e1 := E1.out
    clear E0 E1 z0 z1
    simp only [List.set_cons_zero, List.set_cons_succ, List.getElem?_cons_zero, List.getElem?_cons_succ] at e0 e1
    simp [results, Tryd.results39, go_sem, e0, e1]
  · have hd : (b == 0) = false := by simpa using hb
    go_wp2_with fail
    refine (pick_any _ _ 5 _ D9.out.rd (by omega)).mono ?_
    rintro e w2 ⟨a, rfl, a0, a1, mma, hw⟩
    have a2 := a1 (by omega)
    have D2 := Lib.hid (D9.out.next hw)
    clear hw a1 D9
    obtain ⟨m, hm⟩ := Int.eq_ofNat_of_zero_le (show (0 : Int) ≤ 1 + a by omega)
    have m1 : 1 ≤ m := by omega
    have m5 : m ≤ 5 := by omega
    have HTv := Lib.hid (drgph_any _ _ m 12 w2 D2.out.rd (by omega) m1 m5 (by omega))
    go_wp2_with fail
    refine HTv.out.mono ?_
    rintro e w3 ⟨p, v, xs, k3, rfl, ow, hl, hs, hp, hk3, hg, hr⟩
    have D3 := Lib.hid (D2.out.made hg hr ow)
    have HX := Lib.hid (show xs.length ≤ 50 ∧ Sml xs from ⟨by omega, hs⟩)
    have hp0 : 0 ≤ p ∧ p ≤ 5 := by rcases hp with rfl | rfl <;> omega
    clear ow hg hr hl hs hp HTv D2
    have BX2 := Lib.hid (box_drawn3 BX.out D3.out.gr (by have := HZ0.out; omega))
    have HB2 := Lib.hid (show Below w.heap.size w w3 from HB.out.grown D3.out.gr (Nat.le_of_lt HS.out) (fun q e => by cases e; have := HZ0.out; omega))
    have z0 := BX2.out.cell 0; have z1 := BX2.out.cell 1; have f0 := BX2.out.frozen 0; have f1 := BX2.out.frozen 1
    simp at z0 z1
    have ho := own_mono (own_box2 HS.out (D3.out.ls _ (.head _)) (.int .i64 p) v) (Nat.le_of_lt HS.out)
    have hf := ((HB2.out).setCell (p := ⟨w.heap.size, 0, none⟩) (Nat.le_refl _) (.int .i64 p)).setCell (p := ⟨w.heap.size, 1, none⟩) (Nat.le_refl _) v
    obtain ⟨va, vc, hv⟩ := Own.form (D3.out.ls _ (.head _))
    dsimp only at hv
    subst hv
    clear hm D3
    go_wp2
    refine bodyPost_ret (v := .agg #[.int .i64 p, .slice va xs.length vc]) ?_ rfl ⟨p, _, xs, rfl, hp0.1, hp0.2, ho, HX.out.1, HX.out.2, hf⟩
    simp [results, Tryd.results39, go_sem, z0, z1]

set_option maxRecDepth 100000 in
set_option maxHeartbeats 3200000 in
theorem drawFoundOut_any (s : Value) (w : World) (h : CodeIn w s) : Calls Tryd.prog 42 #[s] w (FtPost w) := by
  obtain ⟨W0, hW0⟩ : ∃ z, z = w.alloc (.cells #[.int .i64 0, .slice none 0 0] 25) := ⟨_, rfl⟩
  have S0 : Hid (Sx w [(w.heap.size, [.int .i64 0, .slice none 0 0])] [] W0) := Lib.hid (by rw [hW0]; exact (Sx.start w).made [.int .i64 0, .slice none 0 0] 25)
  have HC := Lib.hid (show CodeIn W0 s by rw [hW0]; exact code_more3 h _)
  have HB : Hid (∀ b, b ∈ ([(w.heap.size, [.int .i64 0, .slice none 0 0])] : List (Nat × List Value)) → w.heap.size ≤ b.1) := Lib.hid (fun b mb => by simp at mb; rcases mb with rfl; dsimp only; omega)
  have HZ0 : Hid (W0.heap.size = w.heap.size + 1) := Lib.hid (by rw [hW0]; simp)
  have HW0 := Lib.hid hW0
  clear h hW0
  go_enter Tryd.func42, Tryd.ntmps42
  go_wp2_with fail
  rw [← HW0.out]
  refine (open_any _ _ HC.out).mono ?_
  rintro e w1 ⟨rfl, hr, hb⟩
  have D1 := Lib.hid (dn_opened S0.out HB.out hr hb)
  have C1 := Lib.hid (code_below HC.out hb)
  clear hr hb HC S0 HB HW0
  have T1 : ∃ b len cap, s = .slice b len cap ∧ ((len = 0 ∧ Hid (CodeIn w1 (.slice b 0 cap))) ∨ ∃ b' off, b = some ⟨b', off, none⟩ ∧ 0 < len ∧ len ≤ cap ∧ cap ≤ maxLen ∧ Hid (CodeIn w1 (.slice (some ⟨b', off + 1, none⟩) (len - 1) (cap - 1)))) := by
    rcases C1.out with ⟨a, cap, rfl⟩ | ⟨b, off, len, cap, z, rfl, g1, g2, g3, g4, g5, g6⟩
    · exact ⟨_, _, _, rfl, .inl ⟨rfl, Lib.hid (.inl ⟨_, _, rfl⟩)⟩⟩
    · exact ⟨_, _, _, rfl, .inr ⟨_, _, rfl, g1, g2, g3, Lib.hid (code_tail g1 g2 g3 g4 g5 g6)⟩⟩
  clear C1
  obtain ⟨sb, len, cap, rfl, hT⟩ := T1
  rcases hT with ⟨rfl, HT⟩ | ⟨b', off, rfl, g1, g2, g3, HT⟩
  · have hm : min (0 : Int) 1 = 0 := rfl
    cases sb with
    | none =>
      go_wp2_with fail
      refine (drawBestCheat_own _ _ (.inl ⟨_, _, rfl⟩)).mono ?_
      rintro e w2 ⟨p, v, es, rfl, p0, p5, oo, lf, ls, hb⟩
      have D2 := Lib.hid (D1.out.made (grown_below _ hb) ((D1.out.rd _ rfl).below hb) oo)
      obtain ⟨ga, gc, e1⟩ := Own.form oo
      subst e1
      obtain ⟨gn, hgn⟩ : ∃ gn, es.length = gn := ⟨_, rfl⟩
      have HG := Lib.hid (show es.length ≤ 50 ∧ Sml es from ⟨lf, ls⟩)
      rw [hgn] at D2 ⊢
      clear oo lf ls hb hgn D1 hm
      have HN5 : Hid (w.heap.size < w2.heap.size) := Lib.hid ((D2.out.bx _ (.head _)).2.2.lt)
      have D3 := Lib.hid (D2.out.box (T := 25) [.int .i64 p, .slice ga gn gc])
      clear D2
      go_wp2_with fail
      apply wp_region_H (Z := List (Nat × List Value) × Option Nat) (S := fun k => k == 2 || k == 4 || k == 7) (C := fun z w' => Hid (Dn w W0.heap.size ((w2.heap.size, [.int .i64 p, .slice ga gn gc]) :: z.1) [(.slice ga gn gc, es)] z.2 w')) [0, 1, 3] ([(w.heap.size, [.int .i64 0, .slice none 0 0])], some 0)
      · kernel_rfl
      · kernel_rfl
      · kernel_rfl
      · exact ⟨rfl, rfl, rfl, trivial⟩
      · rfl
      · decide
      · exact Lib.hid (D3.out.on (Below.refl _ _).drew)
      · intro z
        dsimp only [pickL, nthO]
        go_big_quiet_want
        go_big_quiet_op
        refine ⟨.agg #[.int .i64 p, .slice ga gn gc], fun w' hw' => ?_, ?_⟩
        · have q9 := (hw'.out.bx _ (.head _)).2.2
          have q0 := q9.cell 0
          have q1 := q9.cell 1
          simp at q0 q1
          simp [go_sem, q0, q1]
        go_big_quiet_on
        go_big_quiet_want; go_big_quiet_op; first | go_big_quiet_on | (refine ⟨_, fun _ _ => rfl, ?_⟩; go_big_quiet_on)
        go_big_quiet_want; go_big_quiet_op; first | go_big_quiet_on | (refine ⟨_, fun _ _ => rfl, ?_⟩; go_big_quiet_on)
        exact wpQuiet_nil rfl
      · skip
        refine wpAnyH_call (i := 2) (d := some 16) 68 #[.pointer (some ⟨W0.heap.size, 0, none⟩), .int .i64 7] rfl (by kernel_rfl) rfl rfl (by kernel_rfl) (fun _ => by kernel_rfl) fun wac hc => ?_
        refine (pick_any _ _ 7 _ (hc.out.rd _ rfl) (by omega)).mono ?_
        rintro e wbc ⟨c, rfl, c0, c1, mmc, hw⟩
        have c2 := c1 (by omega)
        refine ⟨_, rfl, ([(w.heap.size, [.int .i64 0, .slice none 0 0])], some (0 + 1)), Lib.hid (hc.out.next hw), ?_⟩
        clear hc hw c1
        refine wpAnyH_call (i := 4) (d := some 18) 68 #[.pointer (some ⟨W0.heap.size, 0, none⟩), .int .i64 20] rfl (by kernel_rfl) rfl rfl (by kernel_rfl) (fun _ => by kernel_rfl) fun wab hc => ?_
        refine (pick_any _ _ 20 _ (hc.out.rd _ rfl) (by omega)).mono ?_
        rintro e wbb ⟨b, rfl, b0, b1, mmb, hw⟩
        have b2 := b1 (by omega)
        refine ⟨_, rfl, ([(w.heap.size, [.int .i64 0, .slice none 0 0])], some (0 + 1 + 1)), Lib.hid (hc.out.next hw), ?_⟩
        clear hc hw b1
        by_cases hd : b = 19
        · subst hd
          refine wpAnyH_take (i := 5) (d := some 19) (.int .i64 1) rfl (by kernel_rfl) rfl rfl (by kernel_rfl) (by kernel_rfl) (by kernel_rfl) (fun _ => by kernel_rfl) ?_
          refine wpAnyH_load (i := 6) (d := some 20) (.int .i64 (c + 1)) rfl (by kernel_rfl) rfl rfl (by kernel_rfl) (by kernel_rfl) (by kernel_rfl) (fun z w0 _ => by simp [go_sem, Act.put]; try (exact IntWalk.i64_in _ (by omega))) ?_
          refine wpAnyH_special (i := 7) (d := none) rfl (by kernel_rfl) rfl rfl (by kernel_rfl) fun we he => ?_
          have kb := (he.out.bx _ (.tail _ (.head _))).2.2
          have k0 := kb.cell 0; have k1 := kb.cell 1; have f0 := kb.frozen 0; have f1 := kb.frozen 1
          simp at k0 k1
          refine ⟨undef, (we.setCell ⟨w.heap.size, 0, none⟩ (.int .i64 p)).setCell ⟨w.heap.size, 1, none⟩ (.slice ga gn gc), ([(w.heap.size, [.int .i64 p, .slice ga gn gc])], none), .inr ⟨by simp [go_sem, Act.put, k0, k1, f0, f1], rfl⟩, Lib.hid ((he.out.put (B1 := [(w2.heap.size, [.int .i64 p, .slice ga gn gc])]) (B2 := []) (fun b mb => by simp at mb; subst mb; exact Nat.ne_of_gt HN5.out) 0 _).put (B1 := [(w2.heap.size, [.int .i64 p, .slice ga gn gc])]) (B2 := []) (fun b mb => by simp at mb; subst mb; exact Nat.ne_of_gt HN5.out) 1 _), ?_⟩
          clear he kb k0 k1 f0 f1
          refine wpAnyH_assign (i := 8) (d := some 3) _ rfl (by kernel_rfl) rfl rfl (by kernel_rfl) rfl ?_
          refine ⟨by kernel_rfl, fun w9 hz => ?_⟩
          simp only [Act.put, List.setIfInBounds_toArray, List.set_cons_zero, List.set_cons_succ]
          dsimp only at hz
          have r0 := (hz.out.bx _ (.tail _ (.head _))).2.2.cell 0
          have r1 := (hz.out.bx _ (.tail _ (.head _))).2.2.cell 1
          simp at r0 r1
          go_wp2
          refine bodyPost_ret (v := .tuple #[.agg #[.int .i64 p, .slice ga gn gc], .int .i64 (c + 1)]) ?_ rfl ?_
          · simp [results, Tryd.results42, go_sem, r0, r1]
          · exact ⟨p, _, es, _, rfl, p0, p5, own_li (hz.out.ls _ (.head _)).1 HG.out.1 HG.out.2, by omega, by omega, hz.out.be⟩
        · have hq : b.tdiv 19 = 0 := Int.tdiv_eq_zero_of_lt b0 (by omega)
          refine wpAnyH_load (i := 5) (d := some 19) (.int .i64 0) rfl (by kernel_rfl) rfl rfl (by kernel_rfl) (by kernel_rfl) (by kernel_rfl) (fun z w0 _ => by simp [go_sem, hq]; rfl) ?_
          refine wpAnyH_load (i := 6) (d := some 20) (.int .i64 (c + 0)) rfl (by kernel_rfl) rfl rfl (by kernel_rfl) (by kernel_rfl) (by kernel_rfl) (fun z w0 _ => by simp [go_sem, Act.put]; try (exact IntWalk.i64_in _ (by omega))) ?_
          refine wpAnyH_special (i := 7) (d := none) rfl (by kernel_rfl) rfl rfl (by kernel_rfl) fun we he => ?_
          have kb := (he.out.bx _ (.tail _ (.head _))).2.2
          have k0 := kb.cell 0; have k1 := kb.cell 1; have f0 := kb.frozen 0; have f1 := kb.frozen 1
          simp at k0 k1
          refine ⟨undef, (we.setCell ⟨w.heap.size, 0, none⟩ (.int .i64 p)).setCell ⟨w.heap.size, 1, none⟩ (.slice ga gn gc), ([(w.heap.size, [.int .i64 p, .slice ga gn gc])], none), .inr ⟨by simp [go_sem, Act.put, k0, k1, f0, f1], rfl⟩, Lib.hid ((he.out.put (B1 := [(w2.heap.size, [.int .i64 p, .slice ga gn gc])]) (B2 := []) (fun b mb => by simp at mb; subst mb; exact Nat.ne_of_gt HN5.out) 0 _).put (B1 := [(w2.heap.size, [.int .i64 p, .slice ga gn gc])]) (B2 := []) (fun b mb => by simp at mb; subst mb; exact Nat.ne_of_gt HN5.out) 1 _), ?_⟩
          clear he kb k0 k1 f0 f1
          refine wpAnyH_assign (i := 8) (d := some 3) _ rfl (by kernel_rfl) rfl rfl (by kernel_rfl) rfl ?_
          refine ⟨by kernel_rfl, fun w9 hz => ?_⟩
          simp only [Act.put, List.setIfInBounds_toArray, List.set_cons_zero, List.set_cons_succ]
          dsimp only at hz
          have r0 := (hz.out.bx _ (.tail _ (.head _))).2.2.cell 0
          have r1 := (hz.out.bx _ (.tail _ (.head _))).2.2.cell 1
          simp at r0 r1
          go_wp2
          refine bodyPost_ret (v := .tuple #[.agg #[.int .i64 p, .slice ga gn gc], .int .i64 (c + 0)]) ?_ rfl ?_
          · simp [results, Tryd.results42, go_sem, r0, r1]
          · exact ⟨p, _, es, _, rfl, p0, p5, own_li (hz.out.ls _ (.head _)).1 HG.out.1 HG.out.2, by omega, by omega, hz.out.be⟩
    | some sv =>
      by_cases hc0 : cap = 0
      · subst hc0
        go_wp2_with fail
        refine (drawBestCheat_own _ _ (.inl ⟨_, _, rfl⟩)).mono ?_
        rintro e w2 ⟨p, v, es, rfl, p0, p5, oo, lf, ls, hb⟩
        have D2 := Lib.hid (D1.out.made (grown_below _ hb) ((D1.out.rd _ rfl).below hb) oo)
        obtain ⟨ga, gc, e1⟩ := Own.form oo
        subst e1
        obtain ⟨gn, hgn⟩ : ∃ gn, es.length = gn := ⟨_, rfl⟩
        have HG := Lib.hid (show es.length ≤ 50 ∧ Sml es from ⟨lf, ls⟩)
        rw [hgn] at D2 ⊢
        clear oo lf ls hb hgn D1 hm
        have HN5 : Hid (w.heap.size < w2.heap.size) := Lib.hid ((D2.out.bx _ (.head _)).2.2.lt)
        have D3 := Lib.hid (D2.out.box (T := 25) [.int .i64 p, .slice ga gn gc])
        clear D2
        go_wp2_with fail
        apply wp_region_H (Z := List (Nat × List Value) × Option Nat) (S := fun k => k == 2 || k == 4 || k == 7) (C := fun z w' => Hid (Dn w W0.heap.size ((w2.heap.size, [.int .i64 p, .slice ga gn gc]) :: z.1) [(.slice ga gn gc, es)] z.2 w')) [0, 1, 3] ([(w.heap.size, [.int .i64 0, .slice none 0 0])], some 0)
        · kernel_rfl
        · kernel_rfl
        · kernel_rfl
        · exact ⟨rfl, rfl, rfl, trivial⟩
        · rfl
        · decide
        · exact Lib.hid (D3.out.on (Below.refl _ _).drew)
        · intro z
          dsimp only [pickL, nthO]
          go_big_quiet_want
          go_big_quiet_op
          refine ⟨.agg #[.int .i64 p, .slice ga gn gc], fun w' hw' => ?_, ?_⟩
          · have q9 := (hw'.out.bx _ (.head _)).2.2
            have q0 := q9.cell 0
            have q1 := q9.cell 1
            simp at q0 q1
            simp [go_sem, q0, q1]
          go_big_quiet_on
          go_big_quiet_want; go_big_quiet_op; first | go_big_quiet_on | (refine ⟨_, fun _ _ => rfl, ?_⟩; go_big_quiet_on)
          go_big_quiet_want; go_big_quiet_op; first | go_big_quiet_on | (refine ⟨_, fun _ _ => rfl, ?_⟩; go_big_quiet_on)
          exact wpQuiet_nil rfl
        · skip
          refine wpAnyH_call (i := 2) (d := some 16) 68 #[.pointer (some ⟨W0.heap.size, 0, none⟩), .int .i64 7] rfl (by kernel_rfl) rfl rfl (by kernel_rfl) (fun _ => by kernel_rfl) fun wac hc => ?_
          refine (pick_any _ _ 7 _ (hc.out.rd _ rfl) (by omega)).mono ?_
          rintro e wbc ⟨c, rfl, c0, c1, mmc, hw⟩
          have c2 := c1 (by omega)
          refine ⟨_, rfl, ([(w.heap.size, [.int .i64 0, .slice none 0 0])], some (0 + 1)), Lib.hid (hc.out.next hw), ?_⟩
          clear hc hw c1
          refine wpAnyH_call (i := 4) (d := some 18) 68 #[.pointer (some ⟨W0.heap.size, 0, none⟩), .int .i64 20] rfl (by kernel_rfl) rfl rfl (by kernel_rfl) (fun _ => by kernel_rfl) fun wab hc => ?_
          refine (pick_any _ _ 20 _ (hc.out.rd _ rfl) (by omega)).mono ?_
          rintro e wbb ⟨b, rfl, b0, b1, mmb, hw⟩
          have b2 := b1 (by omega)
          refine ⟨_, rfl, ([(w.heap.size, [.int .i64 0, .slice none 0 0])], some (0 + 1 + 1)), Lib.hid (hc.out.next hw), ?_⟩
          clear hc hw b1
          by_cases hd : b = 19
          · subst hd
            refine wpAnyH_take (i := 5) (d := some 19) (.int .i64 1) rfl (by kernel_rfl) rfl rfl (by kernel_rfl) (by kernel_rfl) (by kernel_rfl) (fun _ => by kernel_rfl) ?_
            refine wpAnyH_load (i := 6) (d := some 20) (.int .i64 (c + 1)) rfl (by kernel_rfl) rfl rfl (by kernel_rfl) (by kernel_rfl) (by kernel_rfl) (fun z w0 _ => by simp [go_sem, Act.put]; try (exact IntWalk.i64_in _ (by omega))) ?_
            refine wpAnyH_special (i := 7) (d := none) rfl (by kernel_rfl) rfl rfl (by kernel_rfl) fun we he => ?_
            have kb := (he.out.bx _ (.tail _ (.head _))).2.2
            have k0 := kb.cell 0; have k1 := kb.cell 1; have f0 := kb.frozen 0; have f1 := kb.frozen 1
            simp at k0 k1
            refine ⟨undef, (we.setCell ⟨w.heap.size, 0, none⟩ (.int .i64 p)).setCell ⟨w.heap.size, 1, none⟩ (.slice ga gn gc), ([(w.heap.size, [.int .i64 p, .slice ga gn gc])], none), .inr ⟨by simp [go_sem, Act.put, k0, k1, f0, f1], rfl⟩, Lib.hid ((he.out.put (B1 := [(w2.heap.size, [.int .i64 p, .slice ga gn gc])]) (B2 := []) (fun b mb => by simp at mb; subst mb; exact Nat.ne_of_gt HN5.out) 0 _).put (B1 := [(w2.heap.size, [.int .i64 p, .slice ga gn gc])]) (B2 := []) (fun b mb => by simp at mb; subst mb; exact Nat.ne_of_gt HN5.out) 1 _), ?_⟩
            clear he kb k0 k1 f0 f1
            refine wpAnyH_assign (i := 8) (d := some 3) _ rfl (by kernel_rfl) rfl rfl (by kernel_rfl) rfl ?_
            refine ⟨by kernel_rfl, fun w9 hz => ?_⟩
            simp only [Act.put, List.setIfInBounds_toArray, List.set_cons_zero, List.set_cons_succ]
            dsimp only at hz
            have r0 := (hz.out.bx _ (.tail _ (.head _))).2.2.cell 0
            have r1 := (hz.out.bx _ (.tail _ (.head _))).2.2.cell 1
            simp at r0 r1
            go_wp2
            refine bodyPost_ret (v := .tuple #[.agg #[.int .i64 p, .slice ga gn gc], .int .i64 (c + 1)]) ?_ rfl ?_
            · simp [results, Tryd.results42, go_sem, r0, r1]
            · exact ⟨p, _, es, _, rfl, p0, p5, own_li (hz.out.ls _ (.head _)).1 HG.out.1 HG.out.2, by omega, by omega, hz.out.be⟩
          · have hq : b.tdiv 19 = 0 := Int.tdiv_eq_zero_of_lt b0 (by omega)
            refine wpAnyH_load (i := 5) (d := some 19) (.int .i64 0) rfl (by kernel_rfl) rfl rfl (by kernel_rfl) (by kernel_rfl) (by kernel_rfl) (fun z w0 _ => by simp [go_sem, hq]; rfl) ?_
            refine wpAnyH_load (i := 6) (d := some 20) (.int .i64 (c + 0)) rfl (by kernel_rfl) rfl rfl (by kernel_rfl) (by kernel_rfl) (by kernel_rfl) (fun z w0 _ => by simp [go_sem, Act.put]; try (exact IntWalk.i64_in _ (by omega))) ?_
            refine wpAnyH_special (i := 7) (d := none) rfl (by kernel_rfl) rfl rfl (by kernel_rfl) fun we he => ?_
            have kb := (he.out.bx _ (.tail _ (.head _))).2.2
            have k0 := kb.cell 0; have k1 := kb.cell 1; have f0 := kb.frozen 0; have f1 := kb.frozen 1
            simp at k0 k1
            refine ⟨undef, (we.setCell ⟨w.heap.size, 0, none⟩ (.int .i64 p)).setCell ⟨w.heap.size, 1, none⟩ (.slice ga gn gc), ([(w.heap.size, [.int .i64 p, .slice ga gn gc])], none), .inr ⟨by simp [go_sem, Act.put, k0, k1, f0, f1], rfl⟩, Lib.hid ((he.out.put (B1 := [(w2.heap.size, [.int .i64 p, .slice ga gn gc])]) (B2 := []) (fun b mb => by simp at mb; subst mb; exact Nat.ne_of_gt HN5.out) 0 _).put (B1 := [(w2.heap.size, [.int .i64 p, .slice ga gn gc])]) (B2 := []) (fun b mb => by simp at mb; subst mb; exact Nat.ne_of_gt HN5.out) 1 _), ?_⟩
            clear he kb k0 k1 f0 f1
            refine wpAnyH_assign (i := 8) (d := some 3) _ rfl (by kernel_rfl) rfl rfl (by kernel_rfl) rfl ?_
            refine ⟨by kernel_rfl, fun w9 hz => ?_⟩
            simp only [Act.put, List.setIfInBounds_toArray, List.set_cons_zero, List.set_cons_succ]
            dsimp only at hz
            have r0 := (hz.out.bx _ (.tail _ (.head _))).2.2.cell 0
            have r1 := (hz.out.bx _ (.tail _ (.head _))).2.2.cell 1
            simp at r0 r1
            go_wp2
            refine bodyPost_ret (v := .tuple #[.agg #[.int .i64 p, .slice ga gn gc], .int .i64 (c + 0)]) ?_ rfl ?_
            · simp [results, Tryd.results42, go_sem, r0, r1]
            · exact ⟨p, _, es, _, rfl, p0, p5, own_li (hz.out.ls _ (.head _)).1 HG.out.1 HG.out.2, by omega, by omega, hz.out.be⟩
      · have hc1 : ¬ 0 = cap := fun e => hc0 e.symm
        go_wp2_with fail
        refine (drawBestCheat_own _ _ (.inl ⟨_, _, rfl⟩)).mono ?_
        rintro e w2 ⟨p, v, es, rfl, p0, p5, oo, lf, ls, hb⟩
        have D2 := Lib.hid (D1.out.made (grown_below _ hb) ((D1.out.rd _ rfl).below hb) oo)
        obtain ⟨ga, gc, e1⟩ := Own.form oo
        subst e1
        obtain ⟨gn, hgn⟩ : ∃ gn, es.length = gn := ⟨_, rfl⟩
        have HG := Lib.hid (show es.length ≤ 50 ∧ Sml es from ⟨lf, ls⟩)
        rw [hgn] at D2 ⊢
        clear oo lf ls hb hgn D1 hm
        have HN5 : Hid (w.heap.size < w2.heap.size) := Lib.hid ((D2.out.bx _ (.head _)).2.2.lt)
        have D3 := Lib.hid (D2.out.box (T := 25) [.int .i64 p, .slice ga gn gc])
        clear D2
        go_wp2_with fail
        apply wp_region_H (Z := List (Nat × List Value) × Option Nat) (S := fun k => k == 2 || k == 4 || k == 7) (C := fun z w' => Hid (Dn w W0.heap.size ((w2.heap.size, [.int .i64 p, .slice ga gn gc]) :: z.1) [(.slice ga gn gc, es)] z.2 w')) [0, 1, 3] ([(w.heap.size, [.int .i64 0, .slice none 0 0])], some 0)
        · kernel_rfl
        · kernel_rfl
        · kernel_rfl
        · exact ⟨rfl, rfl, rfl, trivial⟩
        · rfl
        · decide
        · exact Lib.hid (D3.out.on (Below.refl _ _).drew)
        · intro z
          dsimp only [pickL, nthO]
          go_big_quiet_want
          go_big_quiet_op
          refine ⟨.agg #[.int .i64 p, .slice ga gn gc], fun w' hw' => ?_, ?_⟩
          · have q9 := (hw'.out.bx _ (.head _)).2.2
            have q0 := q9.cell 0
            have q1 := q9.cell 1
            simp at q0 q1
            simp [go_sem, q0, q1]
          go_big_quiet_on
          go_big_quiet_want; go_big_quiet_op; first | go_big_quiet_on | (refine ⟨_, fun _ _ => rfl, ?_⟩; go_big_quiet_on)
          go_big_quiet_want; go_big_quiet_op; first | go_big_quiet_on | (refine ⟨_, fun _ _ => rfl, ?_⟩; go_big_quiet_on)
          exact wpQuiet_nil rfl
        · skip
          refine wpAnyH_call (i := 2) (d := some 16) 68 #[.pointer (some ⟨W0.heap.size, 0, none⟩), .int .i64 7] rfl (by kernel_rfl) rfl rfl (by kernel_rfl) (fun _ => by kernel_rfl) fun wac hc => ?_
          refine (pick_any _ _ 7 _ (hc.out.rd _ rfl) (by omega)).mono ?_
          rintro e wbc ⟨c, rfl, c0, c1, mmc, hw⟩
          have c2 := c1 (by omega)
          refine ⟨_, rfl, ([(w.heap.size, [.int .i64 0, .slice none 0 0])], some (0 + 1)), Lib.hid (hc.out.next hw), ?_⟩
          clear hc hw c1
          refine wpAnyH_call (i := 4) (d := some 18) 68 #[.pointer (some ⟨W0.heap.size, 0, none⟩), .int .i64 20] rfl (by kernel_rfl) rfl rfl (by kernel_rfl) (fun _ => by kernel_rfl) fun wab hc => ?_
          refine (pick_any _ _ 20 _ (hc.out.rd _ rfl) (by omega)).mono ?_
          rintro e wbb ⟨b, rfl, b0, b1, mmb, hw⟩
          have b2 := b1 (by omega)
          refine ⟨_, rfl, ([(w.heap.size, [.int .i64 0, .slice none 0 0])], some (0 + 1 + 1)), Lib.hid (hc.out.next hw), ?_⟩
          clear hc hw b1
          by_cases hd : b = 19
          · subst hd
            refine wpAnyH_take (i := 5) (d := some 19) (.int .i64 1) rfl (by kernel_rfl) rfl rfl (by kernel_rfl) (by kernel_rfl) (by kernel_rfl) (fun _ => by kernel_rfl) ?_
            refine wpAnyH_load (i := 6) (d := some 20) (.int .i64 (c + 1)) rfl (by kernel_rfl) rfl rfl (by kernel_rfl) (by kernel_rfl) (by kernel_rfl) (fun z w0 _ => by simp [go_sem, Act.put]; try (exact IntWalk.i64_in _ (by omega))) ?_
            refine wpAnyH_special (i := 7) (d := none) rfl (by kernel_rfl) rfl rfl (by kernel_rfl) fun we he => ?_
            have kb := (he.out.bx _ (.tail _ (.head _))).2.2
            have k0 := kb.cell 0; have k1 := kb.cell 1; have f0 := kb.frozen 0; have f1 := kb.frozen 1
            simp at k0 k1
            refine ⟨undef, (we.setCell ⟨w.heap.size, 0, none⟩ (.int .i64 p)).setCell ⟨w.heap.size, 1, none⟩ (.slice ga gn gc), ([(w.heap.size, [.int .i64 p, .slice ga gn gc])], none), .inr ⟨by simp [go_sem, Act.put, k0, k1, f0, f1], rfl⟩, Lib.hid ((he.out.put (B1 := [(w2.heap.size, [.int .i64 p, .slice ga gn gc])]) (B2 := []) (fun b mb => by simp at mb; subst mb; exact Nat.ne_of_gt HN5.out) 0 _).put (B1 := [(w2.heap.size, [.int .i64 p, .slice ga gn gc])]) (B2 := []) (fun b mb => by simp at mb; subst mb; exact Nat.ne_of_gt HN5.out) 1 _), ?_⟩
            clear he kb k0 k1 f0 f1
            refine wpAnyH_assign (i := 8) (d := some 3) _ rfl (by kernel_rfl) rfl rfl (by kernel_rfl) rfl ?_
            refine ⟨by kernel_rfl, fun w9 hz => ?_⟩
            simp only [Act.put, List.setIfInBounds_toArray, List.set_cons_zero, List.set_cons_succ]
            dsimp only at hz
            have r0 := (hz.out.bx _ (.tail _ (.head _))).2.2.cell 0
            have r1 := (hz.out.bx _ (.tail _ (.head _))).2.2.cell 1
            simp at r0 r1
            go_wp2
            refine bodyPost_ret (v := .tuple #[.agg #[.int .i64 p, .slice ga gn gc], .int .i64 (c + 1)]) ?_ rfl ?_
            · simp [results, Tryd.results42, go_sem, r0, r1]
            · exact ⟨p, _, es, _, rfl, p0, p5, own_li (hz.out.ls _ (.head _)).1 HG.out.1 HG.out.2, by omega, by omega, hz.out.be⟩
          · have hq : b.tdiv 19 = 0 := Int.tdiv_eq_zero_of_lt b0 (by omega)
            refine wpAnyH_load (i := 5) (d := some 19) (.int .i64 0) rfl (by kernel_rfl) rfl rfl (by kernel_rfl) (by kernel_rfl) (by kernel_rfl) (fun z w0 _ => by simp [go_sem, hq]; rfl) ?_
            refine wpAnyH_load (i := 6) (d := some 20) (.int .i64 (c + 0)) rfl (by kernel_rfl) rfl rfl (by kernel_rfl) (by kernel_rfl) (by kernel_rfl) (fun z w0 _ => by simp [go_sem, Act.put]; try (exact IntWalk.i64_in _ (by omega))) ?_
            refine wpAnyH_special (i := 7) (d := none) rfl (by kernel_rfl) rfl rfl (by kernel_rfl) fun we he => ?_
            have kb := (he.out.bx _ (.tail _ (.head _))).2.2
            have k0 := kb.cell 0; have k1 := kb.cell 1; have f0 := kb.frozen 0; have f1 := kb.frozen 1
            simp at k0 k1
            refine ⟨undef, (we.setCell ⟨w.heap.size, 0, none⟩ (.int .i64 p)).setCell ⟨w.heap.size, 1, none⟩ (.slice ga gn gc), ([(w.heap.size, [.int .i64 p, .slice ga gn gc])], none), .inr ⟨by simp [go_sem, Act.put, k0, k1, f0, f1], rfl⟩, Lib.hid ((he.out.put (B1 := [(w2.heap.size, [.int .i64 p, .slice ga gn gc])]) (B2 := []) (fun b mb => by simp at mb; subst mb; exact Nat.ne_of_gt HN5.out) 0 _).put (B1 := [(w2.heap.size, [.int .i64 p, .slice ga gn gc])]) (B2 := []) (fun b mb => by simp at mb; subst mb; exact Nat.ne_of_gt HN5.out) 1 _), ?_⟩
            clear he kb k0 k1 f0 f1
            refine wpAnyH_assign (i := 8) (d := some 3) _ rfl (by kernel_rfl) rfl rfl (by kernel_rfl) rfl ?_
            refine ⟨by kernel_rfl, fun w9 hz => ?_⟩
            simp only [Act.put, List.setIfInBounds_toArray, List.set_cons_zero, List.set_cons_succ]
            dsimp only at hz
            have r0 := (hz.out.bx _ (.tail _ (.head _))).2.2.cell 0
            have r1 := (hz.out.bx _ (.tail _ (.head _))).2.2.cell 1
            simp at r0 r1
            go_wp2
            refine bodyPost_ret (v := .tuple #[.agg #[.int .i64 p, .slice ga gn gc], .int .i64 (c + 0)]) ?_ rfl ?_
            · simp [results, Tryd.results42, go_sem, r0, r1]
            · exact ⟨p, _, es, _, rfl, p0, p5, own_li (hz.out.ls _ (.head _)).1 HG.out.1 HG.out.2, by omega, by omega, hz.out.be⟩
  · unfold maxLen at g3
    have hm : min (len : Int) 1 = 1 := by omega
    by_cases hc0 : cap = 1
    · obtain rfl : len = 1 := by omega
      subst hc0
      go_wp2_with fail
      refine (drawBestCheat_own _ _ (.inl ⟨_, _, rfl⟩)).mono ?_
      rintro e w2 ⟨p, v, es, rfl, p0, p5, oo, lf, ls, hb⟩
      have D2 := Lib.hid (D1.out.made (grown_below _ hb) ((D1.out.rd _ rfl).below hb) oo)
      obtain ⟨ga, gc, e1⟩ := Own.form oo
      subst e1
      obtain ⟨gn, hgn⟩ : ∃ gn, es.length = gn := ⟨_, rfl⟩
      have HG := Lib.hid (show es.length ≤ 50 ∧ Sml es from ⟨lf, ls⟩)
      rw [hgn] at D2 ⊢
      clear oo lf ls hb hgn D1 hm
      have HN5 : Hid (w.heap.size < w2.heap.size) := Lib.hid ((D2.out.bx _ (.head _)).2.2.lt)
      have D3 := Lib.hid (D2.out.box (T := 25) [.int .i64 p, .slice ga gn gc])
      clear D2
      go_wp2_with fail
      apply wp_region_H (Z := List (Nat × List Value) × Option Nat) (S := fun k => k == 2 || k == 4 || k == 7) (C := fun z w' => Hid (Dn w W0.heap.size ((w2.heap.size, [.int .i64 p, .slice ga gn gc]) :: z.1) [(.slice ga gn gc, es)] z.2 w')) [0, 1, 3] ([(w.heap.size, [.int .i64 0, .slice none 0 0])], some 0)
      · kernel_rfl
      · kernel_rfl
      · kernel_rfl
      · exact ⟨rfl, rfl, rfl, trivial⟩
      · rfl
      · decide
      · exact Lib.hid (D3.out.on (Below.refl _ _).drew)
      · intro z
        dsimp only [pickL, nthO]
        go_big_quiet_want
        go_big_quiet_op
        refine ⟨.agg #[.int .i64 p, .slice ga gn gc], fun w' hw' => ?_, ?_⟩
        · have q9 := (hw'.out.bx _ (.head _)).2.2
          have q0 := q9.cell 0
          have q1 := q9.cell 1
          simp at q0 q1
          simp [go_sem, q0, q1]
        go_big_quiet_on
        go_big_quiet_want; go_big_quiet_op; first | go_big_quiet_on | (refine ⟨_, fun _ _ => rfl, ?_⟩; go_big_quiet_on)
        go_big_quiet_want; go_big_quiet_op; first | go_big_quiet_on | (refine ⟨_, fun _ _ => rfl, ?_⟩; go_big_quiet_on)
        exact wpQuiet_nil rfl
      · skip
        refine wpAnyH_call (i := 2) (d := some 16) 68 #[.pointer (some ⟨W0.heap.size, 0, none⟩), .int .i64 7] rfl (by kernel_rfl) rfl rfl (by kernel_rfl) (fun _ => by kernel_rfl) fun wac hc => ?_
        refine (pick_any _ _ 7 _ (hc.out.rd _ rfl) (by omega)).mono ?_
        rintro e wbc ⟨c, rfl, c0, c1, mmc, hw⟩
        have c2 := c1 (by omega)
        refine ⟨_, rfl, ([(w.heap.size, [.int .i64 0, .slice none 0 0])], some (0 + 1)), Lib.hid (hc.out.next hw), ?_⟩
        clear hc hw c1
        refine wpAnyH_call (i := 4) (d := some 18) 68 #[.pointer (some ⟨W0.heap.size, 0, none⟩), .int .i64 20] rfl (by kernel_rfl) rfl rfl (by kernel_rfl) (fun _ => by kernel_rfl) fun wab hc => ?_
        refine (pick_any _ _ 20 _ (hc.out.rd _ rfl) (by omega)).mono ?_
        rintro e wbb ⟨b, rfl, b0, b1, mmb, hw⟩
        have b2 := b1 (by omega)
        refine ⟨_, rfl, ([(w.heap.size, [.int .i64 0, .slice none 0 0])], some (0 + 1 + 1)), Lib.hid (hc.out.next hw), ?_⟩
        clear hc hw b1
        by_cases hd : b = 19
        · subst hd
          refine wpAnyH_take (i := 5) (d := some 19) (.int .i64 1) rfl (by kernel_rfl) rfl rfl (by kernel_rfl) (by kernel_rfl) (by kernel_rfl) (fun _ => by kernel_rfl) ?_
          refine wpAnyH_load (i := 6) (d := some 20) (.int .i64 (c + 1)) rfl (by kernel_rfl) rfl rfl (by kernel_rfl) (by kernel_rfl) (by kernel_rfl) (fun z w0 _ => by simp [go_sem, Act.put]; try (exact IntWalk.i64_in _ (by omega))) ?_
          refine wpAnyH_special (i := 7) (d := none) rfl (by kernel_rfl) rfl rfl (by kernel_rfl) fun we he => ?_
          have kb := (he.out.bx _ (.tail _ (.head _))).2.2
          have k0 := kb.cell 0; have k1 := kb.cell 1; have f0 := kb.frozen 0; have f1 := kb.frozen 1
          simp at k0 k1
          refine ⟨undef, (we.setCell ⟨w.heap.size, 0, none⟩ (.int .i64 p)).setCell ⟨w.heap.size, 1, none⟩ (.slice ga gn gc), ([(w.heap.size, [.int .i64 p, .slice ga gn gc])], none), .inr ⟨by simp [go_sem, Act.put, k0, k1, f0, f1], rfl⟩, Lib.hid ((he.out.put (B1 := [(w2.heap.size, [.int .i64 p, .slice ga gn gc])]) (B2 := []) (fun b mb => by simp at mb; subst mb; exact Nat.ne_of_gt HN5.out) 0 _).put (B1 := [(w2.heap.size, [.int .i64 p, .slice ga gn gc])]) (B2 := []) (fun b mb => by simp at mb; subst mb; exact Nat.ne_of_gt HN5.out) 1 _), ?_⟩
          clear he kb k0 k1 f0 f1
          refine wpAnyH_assign (i := 8) (d := some 3) _ rfl (by kernel_rfl) rfl rfl (by kernel_rfl) rfl ?_
          refine ⟨by kernel_rfl, fun w9 hz => ?_⟩
          simp only [Act.put, List.setIfInBounds_toArray, List.set_cons_zero, List.set_cons_succ]
          dsimp only at hz
          have r0 := (hz.out.bx _ (.tail _ (.head _))).2.2.cell 0
          have r1 := (hz.out.bx _ (.tail _ (.head _))).2.2.cell 1
          simp at r0 r1
          go_wp2
          refine bodyPost_ret (v := .tuple #[.agg #[.int .i64 p, .slice ga gn gc], .int .i64 (c + 1)]) ?_ rfl ?_
          · simp [results, Tryd.results42, go_sem, r0, r1]
          · exact ⟨p, _, es, _, rfl, p0, p5, own_li (hz.out.ls _ (.head _)).1 HG.out.1 HG.out.2, by omega, by omega, hz.out.be⟩
        · have hq : b.tdiv 19 = 0 := Int.tdiv_eq_zero_of_lt b0 (by omega)
          refine wpAnyH_load (i := 5) (d := some 19) (.int .i64 0) rfl (by kernel_rfl) rfl rfl (by kernel_rfl) (by kernel_rfl) (by kernel_rfl) (fun z w0 _ => by simp [go_sem, hq]; rfl) ?_
          refine wpAnyH_load (i := 6) (d := some 20) (.int .i64 (c + 0)) rfl (by kernel_rfl) rfl rfl (by kernel_rfl) (by kernel_rfl) (by kernel_rfl) (fun z w0 _ => by simp [go_sem, Act.put]; try (exact IntWalk.i64_in _ (by omega))) ?_
          refine wpAnyH_special (i := 7) (d := none) rfl (by kernel_rfl) rfl rfl (by kernel_rfl) fun we he => ?_
          have kb := (he.out.bx _ (.tail _ (.head _))).2.2
          have k0 := kb.cell 0; have k1 := kb.cell 1; have f0 := kb.frozen 0; have f1 := kb.frozen 1
          simp at k0 k1
          refine ⟨undef, (we.setCell ⟨w.heap.size, 0, none⟩ (.int .i64 p)).setCell ⟨w.heap.size, 1, none⟩ (.slice ga gn gc), ([(w.heap.size, [.int .i64 p, .slice ga gn gc])], none), .inr ⟨by simp [go_sem, Act.put, k0, k1, f0, f1], rfl⟩, Lib.hid ((he.out.put (B1 := [(w2.heap.size, [.int .i64 p, .slice ga gn gc])]) (B2 := []) (fun b mb => by simp at mb; subst mb; exact Nat.ne_of_gt HN5.out) 0 _).put (B1 := [(w2.heap.size, [.int .i64 p, .slice ga gn gc])]) (B2 := []) (fun b mb => by simp at mb; subst mb; exact Nat.ne_of_gt HN5.out) 1 _), ?_⟩
          clear he kb k0 k1 f0 f1
          refine wpAnyH_assign (i := 8) (d := some 3) _ rfl (by kernel_rfl) rfl rfl (by kernel_rfl) rfl ?_
          refine ⟨by kernel_rfl, fun w9 hz => ?_⟩
          simp only [Act.put, List.setIfInBounds_toArray, List.set_cons_zero, List.set_cons_succ]
          dsimp only at hz
          have r0 := (hz.out.bx _ (.tail _ (.head _))).2.2.cell 0
          have r1 := (hz.out.bx _ (.tail _ (.head _))).2.2.cell 1
          simp at r0 r1
          go_wp2
          refine bodyPost_ret (v := .tuple #[.agg #[.int .i64 p, .slice ga gn gc], .int .i64 (c + 0)]) ?_ rfl ?_
          · simp [results, Tryd.results42, go_sem, r0, r1]
          · exact ⟨p, _, es, _, rfl, p0, p5, own_li (hz.out.ls _ (.head _)).1 HG.out.1 HG.out.2, by omega, by omega, hz.out.be⟩
    · have hc1 : ¬ 1 = cap := fun e => hc0 e.symm
      by_cases hl1 : len = 1
      · subst hl1
        go_wp2_with fail
        refine (drawBestCheat_own _ _ (.inl ⟨_, _, rfl⟩)).mono ?_
        rintro e w2 ⟨p, v, es, rfl, p0, p5, oo, lf, ls, hb⟩
        have D2 := Lib.hid (D1.out.made (grown_below _ hb) ((D1.out.rd _ rfl).below hb) oo)
        obtain ⟨ga, gc, e1⟩ := Own.form oo
        subst e1
        obtain ⟨gn, hgn⟩ : ∃ gn, es.length = gn := ⟨_, rfl⟩
        have HG := Lib.hid (show es.length ≤ 50 ∧ Sml es from ⟨lf, ls⟩)
        rw [hgn] at D2 ⊢
        clear oo lf ls hb hgn D1 hm
        have HN5 : Hid (w.heap.size < w2.heap.size) := Lib.hid ((D2.out.bx _ (.head _)).2.2.lt)
        have D3 := Lib.hid (D2.out.box (T := 25) [.int .i64 p, .slice ga gn gc])
        clear D2
        go_wp2_with fail
        apply wp_region_H (Z := List (Nat × List Value) × Option Nat) (S := fun k => k == 2 || k == 4 || k == 7) (C := fun z w' => Hid (Dn w W0.heap.size ((w2.heap.size, [.int .i64 p, .slice ga gn gc]) :: z.1) [(.slice ga gn gc, es)] z.2 w')) [0, 1, 3] ([(w.heap.size, [.int .i64 0, .slice none 0 0])], some 0)
        · kernel_rfl
        · kernel_rfl
        · kernel_rfl
        · exact ⟨rfl, rfl, rfl, trivial⟩
        · rfl
        · decide
        · exact Lib.hid (D3.out.on (Below.refl _ _).drew)
        · intro z
          dsimp only [pickL, nthO]
          go_big_quiet_want
          go_big_quiet_op
          refine ⟨.agg #[.int .i64 p, .slice ga gn gc], fun w' hw' => ?_, ?_⟩
          · have q9 := (hw'.out.bx _ (.head _)).2.2
            have q0 := q9.cell 0
            have q1 := q9.cell 1
            simp at q0 q1
            simp [go_sem, q0, q1]
          go_big_quiet_on
          go_big_quiet_want; go_big_quiet_op; first | go_big_quiet_on | (refine ⟨_, fun _ _ => rfl, ?_⟩; go_big_quiet_on)
          go_big_quiet_want; go_big_quiet_op; first | go_big_quiet_on | (refine ⟨_, fun _ _ => rfl, ?_⟩; go_big_quiet_on)
          exact wpQuiet_nil rfl
        · skip
          refine wpAnyH_call (i := 2) (d := some 16) 68 #[.pointer (some ⟨W0.heap.size, 0, none⟩), .int .i64 7] rfl (by kernel_rfl) rfl rfl (by kernel_rfl) (fun _ => by kernel_rfl) fun wac hc => ?_
          refine (pick_any _ _ 7 _ (hc.out.rd _ rfl) (by omega)).mono ?_
          rintro e wbc ⟨c, rfl, c0, c1, mmc, hw⟩
          have c2 := c1 (by omega)
          refine ⟨_, rfl, ([(w.heap.size, [.int .i64 0, .slice none 0 0])], some (0 + 1)), Lib.hid (hc.out.next hw), ?_⟩
          clear hc hw c1
          refine wpAnyH_call (i := 4) (d := some 18) 68 #[.pointer (some ⟨W0.heap.size, 0, none⟩), .int .i64 20] rfl (by kernel_rfl) rfl rfl (by kernel_rfl) (fun _ => by kernel_rfl) fun wab hc => ?_
          refine (pick_any _ _ 20 _ (hc.out.rd _ rfl) (by omega)).mono ?_
          rintro e wbb ⟨b, rfl, b0, b1, mmb, hw⟩
          have b2 := b1 (by omega)
          refine ⟨_, rfl, ([(w.heap.size, [.int .i64 0, .slice none 0 0])], some (0 + 1 + 1)), Lib.hid (hc.out.next hw), ?_⟩
          clear hc hw b1
          by_cases hd : b = 19
          · subst hd
            refine wpAnyH_take (i := 5) (d := some 19) (.int .i64 1) rfl (by kernel_rfl) rfl rfl (by kernel_rfl) (by kernel_rfl) (by kernel_rfl) (fun _ => by kernel_rfl) ?_
            refine wpAnyH_load (i := 6) (d := some 20) (.int .i64 (c + 1)) rfl (by kernel_rfl) rfl rfl (by kernel_rfl) (by kernel_rfl) (by kernel_rfl) (fun z w0 _ => by simp [go_sem, Act.put]; try (exact IntWalk.i64_in _ (by omega))) ?_
            refine wpAnyH_special (i := 7) (d := none) rfl (by kernel_rfl) rfl rfl (by kernel_rfl) fun we he => ?_
            have kb := (he.out.bx _ (.tail _ (.head _))).2.2
            have k0 := kb.cell 0; have k1 := kb.cell 1; have f0 := kb.frozen 0; have f1 := kb.frozen 1
            simp at k0 k1
            refine ⟨undef, (we.setCell ⟨w.heap.size, 0, none⟩ (.int .i64 p)).setCell ⟨w.heap.size, 1, none⟩ (.slice ga gn gc), ([(w.heap.size, [.int .i64 p, .slice ga gn gc])], none), .inr ⟨by simp [go_sem, Act.put, k0, k1, f0, f1], rfl⟩, Lib.hid ((he.out.put (B1 := [(w2.heap.size, [.int .i64 p, .slice ga gn gc])]) (B2 := []) (fun b mb => by simp at mb; subst mb; exact Nat.ne_of_gt HN5.out) 0 _).put (B1 := [(w2.heap.size, [.int .i64 p, .slice ga gn gc])]) (B2 := []) (fun b mb => by simp at mb; subst mb; exact Nat.ne_of_gt HN5.out) 1 _), ?_⟩
            clear he kb k0 k1 f0 f1
            refine wpAnyH_assign (i := 8) (d := some 3) _ rfl (by kernel_rfl) rfl rfl (by kernel_rfl) rfl ?_
            refine ⟨by kernel_rfl, fun w9 hz => ?_⟩
            simp only [Act.put, List.setIfInBounds_toArray, List.set_cons_zero, List.set_cons_succ]
            dsimp only at hz
            have r0 := (hz.out.bx _ (.tail _ (.head _))).2.2.cell 0
            have r1 := (hz.out.bx _ (.tail _ (.head _))).2.2.cell 1
            simp at r0 r1
            go_wp2
            refine bodyPost_ret (v := .tuple #[.agg #[.int .i64 p, .slice ga gn gc], .int .i64 (c + 1)]) ?_ rfl ?_
            · simp [results, Tryd.results42, go_sem, r0, r1]
            · exact ⟨p, _, es, _, rfl, p0, p5, own_li (hz.out.ls _ (.head _)).1 HG.out.1 HG.out.2, by omega, by omega, hz.out.be⟩
          · have hq : b.tdiv 19 = 0 := Int.tdiv_eq_zero_of_lt b0 (by omega)
            refine wpAnyH_load (i := 5) (d := some 19) (.int .i64 0) rfl (by kernel_rfl) rfl rfl (by kernel_rfl) (by kernel_rfl) (by kernel_rfl) (fun z w0 _ => by simp [go_sem, hq]; rfl) ?_
            refine wpAnyH_load (i := 6) (d := some 20) (.int .i64 (c + 0)) rfl (by kernel_rfl) rfl rfl (by kernel_rfl) (by kernel_rfl) (by kernel_rfl) (fun z w0 _ => by simp [go_sem, Act.put]; try (exact IntWalk.i64_in _ (by omega))) ?_
            refine wpAnyH_special (i := 7) (d := none) rfl (by kernel_rfl) rfl rfl (by kernel_rfl) fun we he => ?_
            have kb := (he.out.bx _ (.tail _ (.head _))).2.2
            have k0 := kb.cell 0; have k1 := kb.cell 1; have f0 := kb.frozen 0; have f1 := kb.frozen 1
            simp at k0 k1
            refine ⟨undef, (we.setCell ⟨w.heap.size, 0, none⟩ (.int .i64 p)).setCell ⟨w.heap.size, 1, none⟩ (.slice ga gn gc), ([(w.heap.size, [.int .i64 p, .slice ga gn gc])], none), .inr ⟨by simp [go_sem, Act.put, k0, k1, f0, f1], rfl⟩, Lib.hid ((he.out.put (B1 := [(w2.heap.size, [.int .i64 p, .slice ga gn gc])]) (B2 := []) (fun b mb => by simp at mb; subst mb; exact Nat.ne_of_gt HN5.out) 0 _).put (B1 := [(w2.heap.size, [.int .i64 p, .slice ga gn gc])]) (B2 := []) (fun b mb => by simp at mb; subst mb; exact Nat.ne_of_gt HN5.out) 1 _), ?_⟩
            clear he kb k0 k1 f0 f1
            refine wpAnyH_assign (i := 8) (d := some 3) _ rfl (by kernel_rfl) rfl rfl (by kernel_rfl) rfl ?_
            refine ⟨by kernel_rfl, fun w9 hz => ?_⟩
            simp only [Act.put, List.setIfInBounds_toArray, List.set_cons_zero, List.set_cons_succ]
            dsimp only at hz
            have r0 := (hz.out.bx _ (.tail _ (.head _))).2.2.cell 0
            have r1 := (hz.out.bx _ (.tail _ (.head _))).2.2.cell 1
            simp at r0 r1
            go_wp2
            refine bodyPost_ret (v := .tuple #[.agg #[.int .i64 p, .slice ga gn gc], .int .i64 (c + 0)]) ?_ rfl ?_
            · simp [results, Tryd.results42, go_sem, r0, r1]
            · exact ⟨p, _, es, _, rfl, p0, p5, own_li (hz.out.ls _ (.head _)).1 HG.out.1 HG.out.2, by omega, by omega, hz.out.be⟩
      · have hl2 : ¬ (len : Int) ≤ 1 := by omega
        have hl3 : (1 : Int) ≤ (len : Int) := by omega
        go_wp2_with fail
        refine (drawBestCheat_own _ _ (HT.out)).mono ?_
        rintro e w2 ⟨p, v, es, rfl, p0, p5, oo, lf, ls, hb⟩
        have D2 := Lib.hid (D1.out.made (grown_below _ hb) ((D1.out.rd _ rfl).below hb) oo)
        obtain ⟨ga, gc, e1⟩ := Own.form oo
        subst e1
        obtain ⟨gn, hgn⟩ : ∃ gn, es.length = gn := ⟨_, rfl⟩
        have HG := Lib.hid (show es.length ≤ 50 ∧ Sml es from ⟨lf, ls⟩)
        rw [hgn] at D2 ⊢
        clear oo lf ls hb hgn D1 hm
        have HN5 : Hid (w.heap.size < w2.heap.size) := Lib.hid ((D2.out.bx _ (.head _)).2.2.lt)
        have D3 := Lib.hid (D2.out.box (T := 25) [.int .i64 p, .slice ga gn gc])
        clear D2
        go_wp2_with fail
        apply wp_region_H (Z := List (Nat × List Value) × Option Nat) (S := fun k => k == 2 || k == 4 || k == 7) (C := fun z w' => Hid (Dn w W0.heap.size ((w2.heap.size, [.int .i64 p, .slice ga gn gc]) :: z.1) [(.slice ga gn gc, es)] z.2 w')) [0, 1, 3] ([(w.heap.size, [.int .i64 0, .slice none 0 0])], some 0)
        · kernel_rfl
        · kernel_rfl
        · kernel_rfl
        · exact ⟨rfl, rfl, rfl, trivial⟩
        · rfl
        · decide
        · exact Lib.hid (D3.out.on (Below.refl _ _).drew)
        · intro z
          dsimp only [pickL, nthO]
          go_big_quiet_want
          go_big_quiet_op
          refine ⟨.agg #[.int .i64 p, .slice ga gn gc], fun w' hw' => ?_, ?_⟩
          · have q9 := (hw'.out.bx _ (.head _)).2.2
            have q0 := q9.cell 0
            have q1 := q9.cell 1
            simp at q0 q1
            simp [go_sem, q0, q1]
          go_big_quiet_on
          go_big_quiet_want; go_big_quiet_op; first | go_big_quiet_on | (refine ⟨_, fun _ _ => rfl, ?_⟩; go_big_quiet_on)
          go_big_quiet_want; go_big_quiet_op; first | go_big_quiet_on | (refine ⟨_, fun _ _ => rfl, ?_⟩; go_big_quiet_on)
          exact wpQuiet_nil rfl
        · skip
          refine wpAnyH_call (i := 2) (d := some 16) 68 #[.pointer (some ⟨W0.heap.size, 0, none⟩), .int .i64 7] rfl (by kernel_rfl) rfl rfl (by kernel_rfl) (fun _ => by kernel_rfl) fun wac hc => ?_
          refine (pick_any _ _ 7 _ (hc.out.rd _ rfl) (by omega)).mono ?_
          rintro e wbc ⟨c, rfl, c0, c1, mmc, hw⟩
          have c2 := c1 (by omega)
          refine ⟨_, rfl, ([(w.heap.size, [.int .i64 0, .slice none 0 0])], some (0 + 1)), Lib.hid (hc.out.next hw), ?_⟩
          clear hc hw c1
          refine wpAnyH_call (i := 4) (d := some 18) 68 #[.pointer (some ⟨W0.heap.size, 0, none⟩), .int .i64 20] rfl (by kernel_rfl) rfl rfl (by kernel_rfl) (fun _ => by kernel_rfl) fun wab hc => ?_
          refine (pick_any _ _ 20 _ (hc.out.rd _ rfl) (by omega)).mono ?_
          rintro e wbb ⟨b, rfl, b0, b1, mmb, hw⟩
          have b2 := b1 (by omega)
          refine ⟨_, rfl, ([(w.heap.size, [.int .i64 0, .slice none 0 0])], some (0 + 1 + 1)), Lib.hid (hc.out.next hw), ?_⟩
          clear hc hw b1
          by_cases hd : b = 19
          · subst hd
            refine wpAnyH_take (i := 5) (d := some 19) (.int .i64 1) rfl (by kernel_rfl) rfl rfl (by kernel_rfl) (by kernel_rfl) (by kernel_rfl) (fun _ => by kernel_rfl) ?_
            refine wpAnyH_load (i := 6) (d := some 20) (.int .i64 (c + 1)) rfl (by kernel_rfl) rfl rfl (by kernel_rfl) (by kernel_rfl) (by kernel_rfl) (fun z w0 _ => by simp [go_sem, Act.put]; try (exact IntWalk.i64_in _ (by omega))) ?_
            refine wpAnyH_special (i := 7) (d := none) rfl (by kernel_rfl) rfl rfl (by kernel_rfl) fun we he => ?_
            have kb := (he.out.bx _ (.tail _ (.head _))).2.2
            have k0 := kb.cell 0; have k1 := kb.cell 1; have f0 := kb.frozen 0; have f1 := kb.frozen 1
            simp at k0 k1
            refine ⟨undef, (we.setCell ⟨w.heap.size, 0, none⟩ (.int .i64 p)).setCell ⟨w.heap.size, 1, none⟩ (.slice ga gn gc), ([(w.heap.size, [.int .i64 p, .slice ga gn gc])], none), .inr ⟨by simp [go_sem, Act.put, k0, k1, f0, f1], rfl⟩, Lib.hid ((he.out.put (B1 := [(w2.heap.size, [.int .i64 p, .slice ga gn gc])]) (B2 := []) (fun b mb => by simp at mb; subst mb; exact Nat.ne_of_gt HN5.out) 0 _).put (B1 := [(w2.heap.size, [.int .i64 p, .slice ga gn gc])]) (B2 := []) (fun b mb => by simp at mb; subst mb; exact Nat.ne_of_gt HN5.out) 1 _), ?_⟩
            clear he kb k0 k1 f0 f1
            refine wpAnyH_assign (i := 8) (d := some 3) _ rfl (by kernel_rfl) rfl rfl (by kernel_rfl) rfl ?_
            refine ⟨by kernel_rfl, fun w9 hz => ?_⟩
            simp only [Act.put, List.setIfInBounds_toArray, List.set_cons_zero, List.set_cons_succ]
            dsimp only at hz
            have r0 := (hz.out.bx _ (.tail _ (.head _))).2.2.cell 0
            have r1 := (hz.out.bx _ (.tail _ (.head _))).2.2.cell 1
            simp at r0 r1
            go_wp2
            refine bodyPost_ret (v := .tuple #[.agg #[.int .i64 p, .slice ga gn gc], .int .i64 (c + 1)]) ?_ rfl ?_
            · simp [results, Tryd.results42, go_sem, r0, r1]
            · exact ⟨p, _, es, _, rfl, p0, p5, own_li (hz.out.ls _ (.head _)).1 HG.out.1 HG.out.2, by omega, by omega, hz.out.be⟩
          · have hq : b.tdiv 19 = 0 := Int.tdiv_eq_zero_of_lt b0 (by omega)
            refine wpAnyH_load (i := 5) (d := some 19) (.int .i64 0) rfl (by kernel_rfl) rfl rfl (by kernel_rfl) (by kernel_rfl) (by kernel_rfl) (fun z w0 _ => by simp [go_sem, hq]; rfl) ?_
            refine wpAnyH_load (i := 6) (d := some 20) (.int .i64 (c + 0)) rfl (by kernel_rfl) rfl rfl (by kernel_rfl) (by kernel_rfl) (by kernel_rfl) (fun z w0 _ => by simp [go_sem, Act.put]; try (exact IntWalk.i64_in _ (by omega))) ?_
            refine wpAnyH_special (i := 7) (d := none) rfl (by kernel_rfl) rfl rfl (by kernel_rfl) fun we he => ?_
            have kb := (he.out.bx _ (.tail _ (.head _))).2.2
            have k0 := kb.cell 0; have k1 := kb.cell 1; have f0 := kb.frozen 0; have f1 := kb.frozen 1
            simp at k0 k1
            refine ⟨undef, (we.setCell ⟨w.heap.size, 0, none⟩ (.int .i64 p)).setCell ⟨w.heap.size, 1, none⟩ (.slice ga gn gc), ([(w.heap.size, [.int .i64 p, .slice ga gn gc])], none), .inr ⟨by simp [go_sem, Act.put, k0, k1, f0, f1], rfl⟩, Lib.hid ((he.out.put (B1 := [(w2.heap.size, [.int .i64 p, .slice ga gn gc])]) (B2 := []) (fun b mb => by simp at mb; subst mb; exact Nat.ne_of_gt HN5.out) 0 _).put (B1 := [(w2.heap.size, [.int .i64 p, .slice ga gn gc])]) (B2 := []) (fun b mb => by simp at mb; subst mb; exact Nat.ne_of_gt HN5.out) 1 _), ?_⟩
            clear he kb k0 k1 f0 f1
            refine wpAnyH_assign (i := 8) (d := some 3) _ rfl (by kernel_rfl) rfl rfl (by kernel_rfl) rfl ?_
            refine ⟨by kernel_rfl, fun w9 hz => ?_⟩
            simp only [Act.put, List.setIfInBounds_toArray, List.set_cons_zero, List.set_cons_succ]
            dsimp only at hz
            have r0 := (hz.out.bx _ (.tail _ (.head _))).2.2.cell 0
            have r1 := (hz.out.bx _ (.tail _ (.head _))).2.2.cell 1
            simp at r0 r1
            go_wp2
            refine bodyPost_ret (v := .tuple #[.agg #[.int .i64 p, .slice ga gn gc], .int .i64 (c + 0)]) ?_ rfl ?_
            · simp [results, Tryd.results42, go_sem, r0, r1]
            · exact ⟨p, _, es, _, rfl, p0, p5, own_li (hz.out.ls _ (.head _)).1 HG.out.1 HG.out.2, by omega, by omega, hz.out.be⟩
end Go.Proofs.YtimkmdedoacpfabDoor
