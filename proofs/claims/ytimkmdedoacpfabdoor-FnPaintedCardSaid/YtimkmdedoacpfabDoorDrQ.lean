/- l20Coloured: a graph and colours are drawn; DrawColoured, DrawFailsOf. -/
import Derived.Test.YtimkmdedoacpfabDoorDrI
import Derived.Test.YtimkmdedoacpfabDoorRegionM
import Derived.Test.YtimkmdedoacpfabDoorColT
namespace Go.Proofs.YtimkmdedoacpfabDoor
open Go.RowKit

/-- A graph and colours, drawn. -/
structure Clr (w w' : World) (p : Int) (gv cv : Value) (g cs : List Int) : Prop where
  og : Own w' w.heap.size gv g
  oc : Own w' w.heap.size cv cs
  lg : g.length ≤ 50
  sg : Sml g
  lc : cs.length ≤ 50
  sc : Sml cs
  p0 : 0 ≤ p
  p5 : p ≤ 5
def ClrDr (R k d : Nat) (w : World) (e : Ending) (w' : World) : Prop :=
  ∃ p gv g cv cs k', e = .returned (.tuple #[.agg #[.int .i64 p, gv], cv]) ∧ Clr w w' p gv cv g cs ∧ k' ≤ k + d ∧ w.grownBy w' (some R) ∧ Rd w' R k'
theorem swap2 {α : Type} {a b x : α} (h : x ∈ [a, b]) : x ∈ [b, a] := by simp at h ⊢; exact h.symm
theorem fit_sml {p : Int} {es cs : List Int} (h : cs ∈ colsB p es) : cs.length ≤ 50 ∧ Sml cs := by
  cases hk : gkB p es
  · rw [colsB_no hk] at h; cases h
  · rw [colsB_yes hk] at h
    have f := ((cols_mem (gkB_true.1 hk)).1 h).1
    refine ⟨by have := f.len; have := f.gk.p5; omega, fun j hj => by have := f.bd j hj; omega⟩
theorem cols_few {p : Int} {es : List Int} : (colsB p es).length ≤ 1000 := by
  cases h : gkB p es
  · rw [colsB_no h]; simp
  · have hg := gkB_true.1 h
    have h5 := hg.p5
    rw [colsB_yes h]
    have := solTo_len (okC es) (lots 3 p.toNat) (3 ^ p.toNat)
    have h3 : 3 ^ p.toNat ≤ 3 ^ 5 := Nat.pow_le_pow_right (by omega) (by omega)
    unfold cols
    have : (3 : Nat) ^ 5 = 243 := by decide
    omega
/-- The end: the graph and the colours lie in memory of the call's own; the answer's box is laid. -/
theorem clr_end {w w' : World} {R k k1 d : Nat} {p : Int} {gv cv : Value} {g cs : List Int} {Bs : List (Nat × List Value)} (D : Dx w R Bs [(cv, cs), (gv, g)] k1 w') (hg : g.length ≤ 50 ∧ Sml g) (hc : cs.length ≤ 50 ∧ Sml cs) (hp : 0 ≤ p ∧ p ≤ 5) (hk : k1 ≤ k + d) : ClrDr R k d w (.returned (.tuple #[.agg #[.int .i64 p, gv], cv])) w' :=
  ⟨p, gv, g, cv, cs, k1, rfl, ⟨D.ls _ (.tail _ (.head _)), D.ls _ (.head _), hg.1, hg.2, hc.1, hc.2, hp.1, hp.2⟩, hk, D.gr, D.rd⟩
/-- What a round keeps: the draw, and all that lay there but the reader and one box. -/
structure Kq (w w5 : World) (R N4 : Nat) (G : List Value) (gv : Value) (g : List Int) (z : List Value × Nat) (w' : World) : Prop where
  d : Dx w R [(w.heap.size, z.1), (N4, G)] [(gv, g)] z.2 w'
  kp : ∀ q, q < w5.heap.size → q ≠ R → q ≠ w.heap.size → w'.heap[q]? = w5.heap[q]?
  sz : w5.heap.size ≤ w'.heap.size
theorem Kq.on {w w5 w' w'' : World} {R N4 : Nat} {G : List Value} {gv : Value} {g : List Int} {z : List Value × Nat} (h : Kq w w5 R N4 G gv g z w') (hb : Below w'.heap.size w' w'') : Kq w w5 R N4 G gv g z w'' :=
  ⟨h.d.on hb, fun q a b c => (hb.block q (Nat.lt_of_lt_of_le a h.sz)).trans (h.kp q a b c), Nat.le_trans h.sz hb.size⟩
theorem Kq.draw {w w5 w' w'' : World} {R N4 : Nat} {G : List Value} {gv : Value} {g : List Int} {z : List Value × Nat} {k' : Nat} (h : Kq w w5 R N4 G gv g z w') (hg : w'.grownBy w'' (some R)) (hr : Rd w'' R k') : Kq w w5 R N4 G gv g (z.1, k') w'' :=
  ⟨h.d.draw hg hr, fun q a b c => (hg.block q (Nat.lt_of_lt_of_le a h.sz) fun e => b (Option.some.inj e)).trans (h.kp q a b c), Nat.le_trans h.sz hg.size⟩
theorem Kq.put {w w5 w' : World} {R N4 : Nat} {G : List Value} {gv : Value} {g : List Int} {cs : List Value} {k : Nat} (h : Kq w w5 R N4 G gv g (cs, k) w') (hN : w.heap.size < N4) (j : Nat) (v : Value) : Kq w w5 R N4 G gv g (cs.set j v, k) (w'.setCell ⟨w.heap.size, j, none⟩ v) :=
  ⟨h.d.put (fun b mb => by simp at mb; subst mb; exact Nat.ne_of_gt hN) j v, fun q a b c => (Below.heap_setCell _ _ _ _ c).trans (h.kp q a b c), by simpa [World.setCell] using h.sz⟩

set_option maxRecDepth 100000 in
set_option maxHeartbeats 6400000 in
theorem clr_any (R k : Nat) (w : World) (h : Rd w R k) (hk : k ≤ 70000) :
    Calls Tryd.prog 58 #[.pointer (some ⟨R, 0, none⟩)] w (ClrDr R k 50 w) := by
  have D0 : Hid (Dx w R [(w.heap.size, [.int .i64 0, .slice none 0 0])] [] k (w.alloc (.cells #[.int .i64 0, .slice none 0 0] 25))) := Lib.hid ((Dx.start h).box (T := 25) [.int .i64 0, .slice none 0 0])
  clear h
  go_enter Tryd.func58, Tryd.ntmps58
  go_wp2_with fail
  refine (pick_any _ _ 5 _ D0.out.rd (by omega)).mono ?_
  rintro e w1 ⟨a, rfl, a0, a1, mma, hw⟩
  have a2 := a1 (by omega)
  have D1 := Lib.hid (D0.out.next hw)
  clear hw a1 D0
  obtain ⟨m, hm⟩ := Int.eq_ofNat_of_zero_le (show (0 : Int) ≤ 1 + a by omega)
  have m1 : 1 ≤ m := by omega
  have m5 : m ≤ 5 := by omega
  have HT := Lib.hid (drgph_any _ _ m 14 w1 D1.out.rd (by omega) m1 m5 (by omega))
  go_wp2_with fail
  refine HT.out.mono ?_
  rintro e w2 ⟨p, gv, g, k2, rfl, ow, hl, hs, hp, hk2, hg, hr⟩
  have D2 := Lib.hid (D1.out.made hg hr ow)
  have HLG := Lib.hid (show g.length ≤ 50 ∧ Sml g from ⟨by omega, hs⟩)
  have hp0 : 0 ≤ p ∧ p ≤ 5 := by rcases hp with rfl | rfl <;> omega
  obtain ⟨pn, rfl⟩ := Int.eq_ofNat_of_zero_le hp0.1
  have hpn : pn ≤ 5 := by omega
  obtain ⟨ga, gc, e1⟩ := Own.form ow
  subst e1
  clear ow hg hr hl hs HT D1 hp
  obtain ⟨gn, hgn⟩ : ∃ gn, g.length = gn := ⟨_, rfl⟩
  have HGN := Lib.hid hgn
  rw [hgn] at D2 ⊢
  clear hgn
  obtain ⟨w3, hw3⟩ : ∃ z, z = w2.alloc (.cells #[.int .i64 (pn : Nat), .slice ga gn gc] 25) := ⟨_, rfl⟩
  have D3 : Hid (Dx w R [(w2.heap.size, [.int .i64 (pn : Nat), .slice ga gn gc]), (w.heap.size, [.int .i64 0, .slice none 0 0])] [(.slice ga gn gc, g)] k2 w3) := Lib.hid (by rw [hw3]; exact D2.out.box [.int .i64 (pn : Nat), .slice ga gn gc])
  have HN4 : Hid (w.heap.size < w2.heap.size) := Lib.hid ((D2.out.bx _ (.head _)).2.lt)
  have HW3 := Lib.hid hw3
  have HW3S : Hid (w.heap.size < w3.heap.size ∧ w2.heap.size < w3.heap.size) := Lib.hid (by have hz9 := (D3.out.bx _ (.head _)).2.lt; have := HN4.out; exact ⟨by dsimp only at hz9; omega, hz9⟩)
  clear hw3 D2 hm a0 a2
  have q0 := (D3.out.bx _ (.head _)).2.cell 0
  have q1 := (D3.out.bx _ (.head _)).2.cell 1
  simp at q0 q1
  have hil : g.length ≤ maxLen := by have := HLG.out.1; unfold maxLen; omega
  have ip : intIn (pn : Int) := ⟨by omega, by omega⟩
  have hnum : ∀ j, j < g.length → intIn (nth g j) := fun j hj => by have := HLG.out.2 j hj; exact ⟨by omega, by omega⟩
  rw [HW3.out] at q0 q1
  go_wp2_with fail
  rw [← HW3.out]
  refine (sco_any pn _ g _ (Ints.of_own (D3.out.ls _ (.head _)) hil) ip hnum).mono ?_
  rintro e w5 ⟨lv, us, rfl, oo, hb⟩
  have D5 := Lib.hid (D3.out.on hb)
  have HZ3 : Hid (w3.heap.size ≤ w5.heap.size) := Lib.hid hb.size
  have HO := Lib.hid oo
  obtain ⟨la, lc, e2⟩ := OwnSS.form oo
  obtain ⟨L, hL⟩ : ∃ n, (colsB pn g).length = n := ⟨_, rfl⟩
  have HL := Lib.hid hL
  rw [hL] at e2
  subst e2
  have HAT := Lib.hid (show ∀ j, j < L → ∃ gb, la = some ⟨gb, 0, none⟩ ∧ w3.heap.size ≤ gb ∧ gb < w5.heap.size ∧ w5.cell? ⟨gb, j, none⟩ = some (val us j) ∧ Own w5 w3.heap.size (val us j) (row (colsB pn g) j) from fun j hj => by
    obtain ⟨a9, c9, e9, h9⟩ := outer_cell oo.outer
    rw [oo.len, hL] at e9
    cases e9
    obtain ⟨gb, e8, e7, e6⟩ := h9 j (by rw [oo.len, hL]; exact hj)
    subst e8
    exact ⟨gb, rfl, (oo.outer.lt gb rfl).1, e7, e6, oo.rows j (by rw [oo.len, hL]; exact hj)⟩)
  have HLM : Hid (L ≤ 1000) := Lib.hid (by rw [← hL]; exact cols_few)
  clear hb D3 q0 q1 HW3 oo hL
  have HRL : Hid (R < w.heap.size) := Lib.hid D5.out.rl
  have HW3Z : Hid (w.heap.size < w3.heap.size ∧ w2.heap.size < w3.heap.size) := Lib.hid ⟨HW3S.out.1, HW3S.out.2⟩
  clear ip hnum hil
  by_cases h0 : 0 < L
  · have hL0 : (0 : Int) < (L : Int) := by omega
    go_wp2_with fail
    refine (pick_any _ _ 3 _ D5.out.rd (by omega)).mono ?_
    rintro e w6 ⟨b, rfl, b0, b1, mmb, hw⟩
    have b2 := b1 (by omega)
    have D6 := Lib.hid (D5.out.next hw)
    have KQ : Hid (Kq w w5 R w2.heap.size [.int .i64 (pn : Nat), .slice ga gn gc] (.slice ga gn gc) g ([.int .i64 0, .slice none 0 0], k2 + 1) w6) := Lib.hid (by
      have hk := (Kq.mk (w5 := w5) (z := ([.int .i64 0, .slice none 0 0], k2)) (D5.out.sub (Bs' := [(w.heap.size, [.int .i64 0, .slice none 0 0]), (w2.heap.size, [.int .i64 (pn : Nat), .slice ga gn gc])]) (fun b mb => swap2 mb) (fun _ m => m)) (fun _ _ _ _ => rfl) (Nat.le_refl _))
      subst hw
      exact hk.draw (grown_pick _ _ _ _) (D5.out.rd.next _))
    clear hw b1 D5
    by_cases hb : 0 < b
    · skip
      obtain ⟨MN, hMN⟩ : ∃ n, min (L : Int) 256 = n := ⟨_, rfl⟩
      have hM1 : 1 ≤ MN := by omega
      have hM2 : MN ≤ (L : Int) := by omega
      have HMN := Lib.hid hMN
      go_wp2_with fail
      apply wp_region_H (Z := List Value × Nat) (S := fun k => k == 5 || k == 6 || k == 9) (C := fun z w' => Hid (Kq w w5 R w2.heap.size [.int .i64 (pn : Nat), .slice ga gn gc] (.slice ga gn gc) g z w')) [0, 1, 2, 3, 4] ([.int .i64 0, .slice none 0 0], k2 + 1)
      · kernel_rfl
      · kernel_rfl
      · kernel_rfl
      · exact ⟨rfl, rfl, rfl, rfl, rfl, trivial⟩
      · rfl
      · decide
      · exact Lib.hid (KQ.out.on (Below.refl _ _).drew)
      · intro z
        dsimp only [pickL, nthO]
        go_big_quiet_want
        go_big_quiet_op
        refine ⟨.agg #[.int .i64 (pn : Nat), .slice ga gn gc], fun w' hw' => ?_, ?_⟩
        · have q9 := (hw'.out.d.bx _ (.tail _ (.head _))).2
          have q0 := q9.cell 0
          have q1 := q9.cell 1
          simp at q0 q1
          simp [go_sem, q0, q1]
        go_big_quiet_on
        go_big_quiet_want; go_big_quiet_op; first | go_big_quiet_on | (refine ⟨_, fun _ _ => rfl, ?_⟩; go_big_quiet_on)
        go_big_quiet_want; go_big_quiet_op; first | go_big_quiet_on | (refine ⟨_, fun _ _ => rfl, ?_⟩; go_big_quiet_on)
        go_big_quiet_want; go_big_quiet_op; first | go_big_quiet_on | (refine ⟨_, fun _ _ => rfl, ?_⟩; go_big_quiet_on)
        go_big_quiet_want; go_big_quiet_op; first | go_big_quiet_on | (refine ⟨_, fun _ _ => rfl, ?_⟩; go_big_quiet_on)
        exact wpQuiet_nil rfl
      · skip
        refine wpAnyH_special (i := 5) (d := some 28) rfl (by kernel_rfl) rfl rfl (by kernel_rfl) fun wp hp => ⟨.int .i64 MN, wp, ([.int .i64 0, .slice none 0 0], k2 + 1), .inl (by simp [go_sem]; have h9 := HMN.out; split <;> omega), hp, ?_⟩
        refine wpAnyH_call (i := 6) (d := some 29) 68 #[.pointer (some ⟨R, 0, none⟩), .int .i64 MN] rfl (by kernel_rfl) rfl rfl (by kernel_rfl) (fun _ => by kernel_rfl) fun wa hc => ?_
        refine (pick_any _ _ MN _ hc.out.d.rd (by omega)).mono ?_
        rintro e wb ⟨c, rfl, c0, c1, mmc, hw⟩
        have c2 := c1 (by omega)
        refine ⟨_, rfl, ([.int .i64 0, .slice none 0 0], k2 + 1 + 1), Lib.hid (by subst hw; exact hc.out.draw (grown_pick _ _ _ _) (hc.out.d.rd.next _)), ?_⟩
        clear hc hw c1
        obtain ⟨bn, rfl⟩ := Int.eq_ofNat_of_zero_le c0
        obtain ⟨gb, rfl, hg1, hg2, hg3, hg4⟩ := HAT.out bn (by omega)
        have hgw : w.heap.size < w3.heap.size := by have := HW3Z.out; omega
        have HGR : Hid (gb ≠ R ∧ gb ≠ w.heap.size) := Lib.hid ⟨by have := HRL.out; omega, by omega⟩
        have HC9 := Lib.hid hg3
        have HR9 := Lib.hid hg4
        have HG2 := Lib.hid hg2
        have hbl : (bn : Int) < (L : Int) := by omega
        clear hg3 hg4
        refine wpAnyH_load (i := 7) (d := some 30) (.pointer (some ⟨gb, bn, none⟩)) rfl (by kernel_rfl) rfl rfl (by kernel_rfl) (by kernel_rfl) (by kernel_rfl) (fun z w' _ => by simp [go_sem, Act.put]; omega) ?_
        refine wpAnyH_load (i := 8) (d := some 31) (val us bn) rfl (by kernel_rfl) rfl rfl (by kernel_rfl) (by kernel_rfl) (by kernel_rfl) (fun z w' hw' => by
          have c9 : w'.cell? ⟨gb, bn, none⟩ = some (val us bn) := by
            have h9 := HC9.out
            simp only [World.cell?, hw'.out.kp gb HG2.out HGR.out.1 HGR.out.2] at h9 ⊢
            exact h9
          simp [go_sem, c9]) ?_
        refine wpAnyH_special (i := 9) (d := none) rfl (by kernel_rfl) rfl rfl (by kernel_rfl) fun we he => ?_
        have kb := (he.out.d.bx _ (.head _)).2
        have k0 := kb.cell 0; have k1 := kb.cell 1; have f0 := kb.frozen 0; have f1 := kb.frozen 1
        simp at k0 k1
        refine ⟨undef, (we.setCell ⟨w.heap.size, 0, none⟩ (.int .i64 (pn : Nat))).setCell ⟨w.heap.size, 1, none⟩ (.slice ga gn gc), ([.int .i64 (pn : Nat), .slice ga gn gc], k2 + 1 + 1), .inr ⟨by simp [go_sem, Act.put, k0, k1, f0, f1], rfl⟩, Lib.hid ((he.out.put HN4.out 0 _).put HN4.out 1 _), ?_⟩
        clear he kb k0 k1 f0 f1
        refine wpAnyH_assign (i := 10) (d := some 3) _ rfl (by kernel_rfl) rfl rfl (by kernel_rfl) rfl ?_
        refine ⟨by kernel_rfl, fun w9 hz => ?_⟩
        simp only [Act.put, List.setIfInBounds_toArray, List.set_cons_zero, List.set_cons_succ]
        have r0 := (hz.out.d.bx _ (.head _)).2.cell 0
        have r1 := (hz.out.d.bx _ (.head _)).2.cell 1
        simp at r0 r1
        have hfit := fit_sml (row_mem (xss := colsB pn g) (j := bn) (by rw [HL.out]; omega))
        have D9 := hz.out.d.add (own_heap HR9.out fun q hq => hz.out.kp q (HR9.out.lt q hq).2 (by have := (HR9.out.lt q hq).1; have := HRL.out; omega) (by have := (HR9.out.lt q hq).1; omega)) (show w.heap.size ≤ w3.heap.size by omega) (fun b mb q hq => by
          have h1 := (HR9.out.lt q hq).1
          have h2 := HW3Z.out
          simp at mb
          rcases mb with rfl | rfl <;> (dsimp only; omega))
        go_wp2
        refine bodyPost_ret (v := .tuple #[.agg #[.int .i64 (pn : Nat), .slice ga gn gc], val us bn]) ?_ rfl (clr_end D9 HLG.out hfit hp0 (by omega))
        simp [results, Tryd.results58, go_sem, r0, r1]
    · clear KQ
      have E0 : Hid (Dx w6 R [] [(.slice (some ⟨w6.heap.size, 0, none⟩) 0 0, [])] (k2 + 1) (w6.alloc (.cells #[] 3))) := Lib.hid (((Dx.start D6.out.rd).on (below_grow w6 _)).add (own_made' w6) (Nat.le_refl _) (fun b mb => by cases mb))
      have HWZ : Hid (R < w6.heap.size) := Lib.hid D6.out.rd.lt
      go_upto_region 7 with (fail)
      go_loopw [6, 7] (fun u i wr => ∃ j : Nat, j ≤ pn ∧ i = .int .i64 j ∧ ∃ cs k7, Hid (Dx w6 R [] [(u, cs)] k7 wr) ∧ cs.length = j ∧ Hid (Sml cs) ∧ k7 ≤ k2 + 1 + j) (fun _ i _ => pn - (intOf i).toNat)
      case atStart => exact ⟨0, by omega, rfl, [], _, E0, rfl, Lib.hid (fun j hj => by simp at hj), by omega⟩
      case round =>
        clear E0
        obtain ⟨j, hj, rfl, cs, k7, E1, hcl, HSC, hk7⟩ := hrel
        obtain ⟨wo, rfl⟩ : ∃ wo : World, wo = wr := ⟨_, rfl⟩
        have bx4 := box_drawn3 (D6.out.bx _ (.head _)).2 E1.out.gr (show w2.heap.size ≠ R by have := D6.out.rl; have := HN4.out; omega)
        have q0 := bx4.cell 0
        simp at q0
        clear bx4
        by_cases hlt : j < pn
        · have hlt1 : (j : Int) < (pn : Int) := by omega
          go_wp2_with fail
          refine (pick_any _ _ 3 _ E1.out.rd (by omega)).mono ?_
          rintro e w8 ⟨c, rfl, c0, c1, mmc, hw⟩
          have c2 := c1 (by omega)
          have E2 := Lib.hid (E1.out.next hw)
          clear hw c1 E1 q0
          have ov := E2.out.ls _ (.head _)
          have oz := E2.out.gr.size
          have hxl : cs.length < 1000000000 := by omega
          go_wp2_with (at_builtin; refine wpAppInt rfl _ _ rfl rfl ov hxl oz rfl ?_)
          intro v9 w9 o9 g9 hv9
          have E3 := Lib.hid (E2.out.app o9 g9 rfl hv9)
          have HS3 := Lib.hid (HSC.out.app (y := c) c0 (by omega))
          have hl3 : (cs ++ [c]).length = j + 1 := by rw [List.length_append, hcl]; rfl
          clear o9 g9 hv9 ov oz E2
          go_wp2
          go_roundw
          case rel => exact ⟨j + 1, by omega, by go_num, cs ++ [c], _, E3, hl3, HS3, by omega⟩
          case measure => simp [intOf]; omega
        · obtain rfl : pn = j := by omega
          go_wp2_with fail
          refine (odd_any R k7 14 wo E1.out.rd (by omega) (by omega) (by omega)).mono ?_
          rintro e w8 ⟨bb, rfl, mm, hw⟩
          have E2 := Lib.hid (E1.out.next hw)
          clear hw E1 q0
          cases bb
          · have HSM := HSC.out
            have D9 := (D6.out.draw E2.out.gr E2.out.rd).add (E2.out.ls _ (.head _)) (show w.heap.size ≤ w6.heap.size from D6.out.gr.size) (fun b mb q hq => by
              have h1 := ((E2.out.ls _ (.head _)).lt q hq).1
              have h2 := (D6.out.bx b mb).2.lt
              omega)
            have D9' := D9.sub (Bs' := [(w.heap.size, [.int .i64 0, .slice none 0 0]), (w2.heap.size, [.int .i64 (pn : Nat), .slice ga gn gc])]) (fun b mb => swap2 mb) (fun _ m => m)
            have q0 := (D9'.bx _ (.tail _ (.head _))).2.cell 0
            have q1 := (D9'.bx _ (.tail _ (.head _))).2.cell 1
            have z0 := (D9'.bx _ (.head _)).2.cell 0; have z1 := (D9'.bx _ (.head _)).2.cell 1; have f0 := (D9'.bx _ (.head _)).2.frozen 0; have f1 := (D9'.bx _ (.head _)).2.frozen 1
            simp at q0 q1 z0 z1
            have hne9 : ∀ b, b ∈ [(w2.heap.size, [Value.int .i64 (pn : Nat), .slice ga gn gc])] → b.1 ≠ w.heap.size := fun b mb => by simp at mb; subst mb; exact Nat.ne_of_gt HN4.out
            have D10 := Lib.hid ((D9'.put hne9 0 (.int .i64 (pn : Nat))).put hne9 1 (.slice ga gn gc))
            clear D9 D9'
            go_wp2
            refine bodyPost_ret (v := .tuple #[.agg #[.int .i64 (pn : Nat), .slice ga gn gc], _]) ?_ rfl (clr_end D10.out HLG.out ⟨by omega, HSM⟩ hp0 (by omega))
            simp [results, Tryd.results58, go_sem, z0, z1]
          · have ov := E2.out.ls _ (.head _)
            have oz := E2.out.gr.size
            have hxl : cs.length < 1000000000 := by omega
            go_wp2_with (at_builtin; refine wpAppInt rfl _ _ rfl rfl ov hxl oz rfl ?_)
            intro v9 w9 o9 g9 hv9
            have E3 := Lib.hid (E2.out.app o9 g9 rfl hv9)
            have HSM := HSC.out.app (y := 3) (by omega) (by omega)
            have hl3 : (cs ++ [(3 : Int)]).length = pn + 1 := by rw [List.length_append, hcl]; rfl
            clear o9 g9 hv9 ov oz E2
            have D9 := (D6.out.draw E3.out.gr E3.out.rd).add (E3.out.ls _ (.head _)) (show w.heap.size ≤ w6.heap.size from D6.out.gr.size) (fun b mb q hq => by
              have h1 := ((E3.out.ls _ (.head _)).lt q hq).1
              have h2 := (D6.out.bx b mb).2.lt
              omega)
            have D9' := D9.sub (Bs' := [(w.heap.size, [.int .i64 0, .slice none 0 0]), (w2.heap.size, [.int .i64 (pn : Nat), .slice ga gn gc])]) (fun b mb => swap2 mb) (fun _ m => m)
            have q0 := (D9'.bx _ (.tail _ (.head _))).2.cell 0
            have q1 := (D9'.bx _ (.tail _ (.head _))).2.cell 1
            have z0 := (D9'.bx _ (.head _)).2.cell 0; have z1 := (D9'.bx _ (.head _)).2.cell 1; have f0 := (D9'.bx _ (.head _)).2.frozen 0; have f1 := (D9'.bx _ (.head _)).2.frozen 1
            simp at q0 q1 z0 z1
            have hne9 : ∀ b, b ∈ [(w2.heap.size, [Value.int .i64 (pn : Nat), .slice ga gn gc])] → b.1 ≠ w.heap.size := fun b mb => by simp at mb; subst mb; exact Nat.ne_of_gt HN4.out
            have D10 := Lib.hid ((D9'.put hne9 0 (.int .i64 (pn : Nat))).put hne9 1 (.slice ga gn gc))
            clear D9 D9'
            go_wp2
            refine bodyPost_ret (v := .tuple #[.agg #[.int .i64 (pn : Nat), .slice ga gn gc], _]) ?_ rfl (clr_end D10.out HLG.out ⟨by omega, HSM⟩ hp0 (by omega))
            simp [results, Tryd.results58, go_sem, z0, z1]
  · have hL0 : ¬ (0 : Int) < (L : Int) := by omega
    have E0 : Hid (Dx w5 R [] [(.slice (some ⟨w5.heap.size, 0, none⟩) 0 0, [])] (k2) (w5.alloc (.cells #[] 3))) := Lib.hid (((Dx.start D5.out.rd).on (below_grow w5 _)).add (own_made' w5) (Nat.le_refl _) (fun b mb => by cases mb))
    have HWZ : Hid (R < w5.heap.size) := Lib.hid D5.out.rd.lt
    go_upto_region 7 with (fail)
    go_loopw [6, 7] (fun u i wr => ∃ j : Nat, j ≤ pn ∧ i = .int .i64 j ∧ ∃ cs k7, Hid (Dx w5 R [] [(u, cs)] k7 wr) ∧ cs.length = j ∧ Hid (Sml cs) ∧ k7 ≤ k2 + j) (fun _ i _ => pn - (intOf i).toNat)
    case atStart => exact ⟨0, by omega, rfl, [], _, E0, rfl, Lib.hid (fun j hj => by simp at hj), by omega⟩
    case round =>
      clear E0
      obtain ⟨j, hj, rfl, cs, k7, E1, hcl, HSC, hk7⟩ := hrel
      obtain ⟨wo, rfl⟩ : ∃ wo : World, wo = wr := ⟨_, rfl⟩
      have bx4 := box_drawn3 (D5.out.bx _ (.head _)).2 E1.out.gr (show w2.heap.size ≠ R by have := D5.out.rl; have := HN4.out; omega)
      have q0 := bx4.cell 0
      simp at q0
      clear bx4
      by_cases hlt : j < pn
      · have hlt1 : (j : Int) < (pn : Int) := by omega
        go_wp2_with fail
        refine (pick_any _ _ 3 _ E1.out.rd (by omega)).mono ?_
        rintro e w8 ⟨c, rfl, c0, c1, mmc, hw⟩
        have c2 := c1 (by omega)
        have E2 := Lib.hid (E1.out.next hw)
        clear hw c1 E1 q0
        have ov := E2.out.ls _ (.head _)
        have oz := E2.out.gr.size
        have hxl : cs.length < 1000000000 := by omega
        go_wp2_with (at_builtin; refine wpAppInt rfl _ _ rfl rfl ov hxl oz rfl ?_)
        intro v9 w9 o9 g9 hv9
        have E3 := Lib.hid (E2.out.app o9 g9 rfl hv9)
        have HS3 := Lib.hid (HSC.out.app (y := c) c0 (by omega))
        have hl3 : (cs ++ [c]).length = j + 1 := by rw [List.length_append, hcl]; rfl
        clear o9 g9 hv9 ov oz E2
        go_wp2
        go_roundw
        case rel => exact ⟨j + 1, by omega, by go_num, cs ++ [c], _, E3, hl3, HS3, by omega⟩
        case measure => simp [intOf]; omega
      · obtain rfl : pn = j := by omega
        go_wp2_with fail
        refine (odd_any R k7 14 wo E1.out.rd (by omega) (by omega) (by omega)).mono ?_
        rintro e w8 ⟨bb, rfl, mm, hw⟩
        have E2 := Lib.hid (E1.out.next hw)
        clear hw E1 q0
        cases bb
        · have HSM := HSC.out
          have D9 := (D5.out.draw E2.out.gr E2.out.rd).add (E2.out.ls _ (.head _)) (show w.heap.size ≤ w5.heap.size from D5.out.gr.size) (fun b mb q hq => by
            have h1 := ((E2.out.ls _ (.head _)).lt q hq).1
            have h2 := (D5.out.bx b mb).2.lt
            omega)
          have D9' := D9.sub (Bs' := [(w.heap.size, [.int .i64 0, .slice none 0 0]), (w2.heap.size, [.int .i64 (pn : Nat), .slice ga gn gc])]) (fun b mb => swap2 mb) (fun _ m => m)
          have q0 := (D9'.bx _ (.tail _ (.head _))).2.cell 0
          have q1 := (D9'.bx _ (.tail _ (.head _))).2.cell 1
          have z0 := (D9'.bx _ (.head _)).2.cell 0; have z1 := (D9'.bx _ (.head _)).2.cell 1; have f0 := (D9'.bx _ (.head _)).2.frozen 0; have f1 := (D9'.bx _ (.head _)).2.frozen 1
          simp at q0 q1 z0 z1
          have hne9 : ∀ b, b ∈ [(w2.heap.size, [Value.int .i64 (pn : Nat), .slice ga gn gc])] → b.1 ≠ w.heap.size := fun b mb => by simp at mb; subst mb; exact Nat.ne_of_gt HN4.out
          have D10 := Lib.hid ((D9'.put hne9 0 (.int .i64 (pn : Nat))).put hne9 1 (.slice ga gn gc))
          clear D9 D9'
          go_wp2
          refine bodyPost_ret (v := .tuple #[.agg #[.int .i64 (pn : Nat), .slice ga gn gc], _]) ?_ rfl (clr_end D10.out HLG.out ⟨by omega, HSM⟩ hp0 (by omega))
          simp [results, Tryd.results58, go_sem, z0, z1]
        · have ov := E2.out.ls _ (.head _)
          have oz := E2.out.gr.size
          have hxl : cs.length < 1000000000 := by omega
          go_wp2_with (at_builtin; refine wpAppInt rfl _ _ rfl rfl ov hxl oz rfl ?_)
          intro v9 w9 o9 g9 hv9
          have E3 := Lib.hid (E2.out.app o9 g9 rfl hv9)
          have HSM := HSC.out.app (y := 3) (by omega) (by omega)
          have hl3 : (cs ++ [(3 : Int)]).length = pn + 1 := by rw [List.length_append, hcl]; rfl
          clear o9 g9 hv9 ov oz E2
          have D9 := (D5.out.draw E3.out.gr E3.out.rd).add (E3.out.ls _ (.head _)) (show w.heap.size ≤ w5.heap.size from D5.out.gr.size) (fun b mb q hq => by
            have h1 := ((E3.out.ls _ (.head _)).lt q hq).1
            have h2 := (D5.out.bx b mb).2.lt
            omega)
          have D9' := D9.sub (Bs' := [(w.heap.size, [.int .i64 0, .slice none 0 0]), (w2.heap.size, [.int .i64 (pn : Nat), .slice ga gn gc])]) (fun b mb => swap2 mb) (fun _ m => m)
          have q0 := (D9'.bx _ (.tail _ (.head _))).2.cell 0
          have q1 := (D9'.bx _ (.tail _ (.head _))).2.cell 1
          have z0 := (D9'.bx _ (.head _)).2.cell 0; have z1 := (D9'.bx _ (.head _)).2.cell 1; have f0 := (D9'.bx _ (.head _)).2.frozen 0; have f1 := (D9'.bx _ (.head _)).2.frozen 1
          simp at q0 q1 z0 z1
          have hne9 : ∀ b, b ∈ [(w2.heap.size, [Value.int .i64 (pn : Nat), .slice ga gn gc])] → b.1 ≠ w.heap.size := fun b mb => by simp at mb; subst mb; exact Nat.ne_of_gt HN4.out
          have D10 := Lib.hid ((D9'.put hne9 0 (.int .i64 (pn : Nat))).put hne9 1 (.slice ga gn gc))
          clear D9 D9'
          go_wp2
          refine bodyPost_ret (v := .tuple #[.agg #[.int .i64 (pn : Nat), .slice ga gn gc], _]) ?_ rfl (clr_end D10.out HLG.out ⟨by omega, HSM⟩ hp0 (by omega))
          simp [results, Tryd.results58, go_sem, z0, z1]

def ClPost (w : World) (e : Ending) (w' : World) : Prop := ∃ p v es u cs, e = .returned (.tuple #[.agg #[.int .i64 p, v], u]) ∧ 0 ≤ p ∧ p ≤ 5 ∧ Li w' v es ∧ Li w' u cs ∧ Below w.heap.size w w'

set_option maxHeartbeats 3200000 in
theorem drawColoured_any (s : Value) (w : World) (h : CodeIn w s) : Calls Tryd.prog 21 #[s] w (ClPost w) := by
  have H := Lib.hid h; clear h
  obtain ⟨W0, hW0⟩ : ∃ W, W = w.alloc (.cells #[.int .i64 0, .slice none 0 0] 25) := ⟨_, rfl⟩
  have HC := Lib.hid (show CodeIn W0 s by rw [hW0]; exact code_more3 H.out _)
  have B0 := Lib.hid (show Box W0 w.heap.size [.int .i64 0, .slice none 0 0] by rw [hW0]; exact Box.made w _ _)
  have HZ0 := Lib.hid (show W0.heap.size = w.heap.size + 1 by rw [hW0]; simp)
  have HB0 := Lib.hid (show Below w.heap.size w W0 by rw [hW0]; exact below_grow _ _)
  go_enter Tryd.func21, Tryd.ntmps21
  go_wp2_with fail
  rw [← hW0]
  clear hW0 H
  refine (open_any _ _ HC.out).mono ?_
  rintro e w1 ⟨rfl, hr, hb⟩
  have HB := Lib.hid (Below.on HB0.out hb)
  have HS : Hid (w.heap.size < w1.heap.size) := Lib.hid (by have := hb.size; have := HZ0.out; omega)
  have BX := Lib.hid (B0.out.on hb)
  have HTv := Lib.hid (clr_any _ _ w1 hr (by omega))
  clear hr hb B0 HC HB0
  go_wp2_with fail
  refine HTv.out.mono ?_
  rintro e w3 ⟨p, v, xs, u, cs, k3, rfl, cl, hk3, hg, hr⟩
  have BX2 := Lib.hid (box_drawn3 BX.out hg (by have := HZ0.out; omega))
  have HB2 := Lib.hid (show Below w.heap.size w w3 from HB.out.grown hg (Nat.le_of_lt HS.out) (fun q e => by cases e; have := HZ0.out; omega))
  have z0 := BX2.out.cell 0; have z1 := BX2.out.cell 1; have f0 := BX2.out.frozen 0; have f1 := BX2.out.frozen 1
  simp at z0 z1
  have ho := own_li (own_box2 HS.out cl.og (.int .i64 p) v) cl.lg cl.sg
  have hc := own_li (own_box2 HS.out cl.oc (.int .i64 p) v) cl.lc cl.sc
  have hp0 := cl.p0
  have hp5 := cl.p5
  have hf := ((HB2.out).setCell (p := ⟨w.heap.size, 0, none⟩) (Nat.le_refl _) (.int .i64 p)).setCell (p := ⟨w.heap.size, 1, none⟩) (Nat.le_refl _) v
  obtain ⟨va, vc, hv⟩ := Own.form cl.og
  subst hv
  clear HTv cl hg hr
  go_wp2
  refine bodyPost_ret (v := .tuple #[.agg #[.int .i64 p, .slice va xs.length vc], u]) ?_ rfl ⟨p, _, xs, u, cs, rfl, hp0, hp5, ho, hc, hf⟩
  simp [results, Tryd.results21, go_sem, z0, z1]

set_option maxHeartbeats 3200000 in
theorem drawFailsOf_any (s : Value) (w : World) (h : CodeIn w s) : Calls Tryd.prog 15 #[s] w (ClPost w) := by
  have H := Lib.hid h; clear h
  obtain ⟨W0, hW0⟩ : ∃ W, W = w.alloc (.cells #[.int .i64 0, .slice none 0 0] 25) := ⟨_, rfl⟩
  have HC := Lib.hid (show CodeIn W0 s by rw [hW0]; exact code_more3 H.out _)
  have B0 := Lib.hid (show Box W0 w.heap.size [.int .i64 0, .slice none 0 0] by rw [hW0]; exact Box.made w _ _)
  have HZ0 := Lib.hid (show W0.heap.size = w.heap.size + 1 by rw [hW0]; simp)
  have HB0 := Lib.hid (show Below w.heap.size w W0 by rw [hW0]; exact below_grow _ _)
  go_enter Tryd.func15, Tryd.ntmps15
  go_wp2_with fail
  rw [← hW0]
  clear hW0 H
  refine (open_any _ _ HC.out).mono ?_
  rintro e w1 ⟨rfl, hr, hb⟩
  have HB := Lib.hid (Below.on HB0.out hb)
  have HS : Hid (w.heap.size < w1.heap.size) := Lib.hid (by have := hb.size; have := HZ0.out; omega)
  have BX := Lib.hid (B0.out.on hb)
  have HTv := Lib.hid (clr_any _ _ w1 hr (by omega))
  clear hr hb B0 HC HB0
  go_wp2_with fail
  refine HTv.out.mono ?_
  rintro e w3 ⟨p, v, xs, u, cs, k3, rfl, cl, hk3, hg, hr⟩
  have BX2 := Lib.hid (box_drawn3 BX.out hg (by have := HZ0.out; omega))
  have HB2 := Lib.hid (show Below w.heap.size w w3 from HB.out.grown hg (Nat.le_of_lt HS.out) (fun q e => by cases e; have := HZ0.out; omega))
  have z0 := BX2.out.cell 0; have z1 := BX2.out.cell 1; have f0 := BX2.out.frozen 0; have f1 := BX2.out.frozen 1
  simp at z0 z1
  have ho := own_li (own_box2 HS.out cl.og (.int .i64 p) v) cl.lg cl.sg
  have hc := own_li (own_box2 HS.out cl.oc (.int .i64 p) v) cl.lc cl.sc
  have hp0 := cl.p0
  have hp5 := cl.p5
  have hf := ((HB2.out).setCell (p := ⟨w.heap.size, 0, none⟩) (Nat.le_refl _) (.int .i64 p)).setCell (p := ⟨w.heap.size, 1, none⟩) (Nat.le_refl _) v
  obtain ⟨va, vc, hv⟩ := Own.form cl.og
  subst hv
  clear HTv cl hg hr
  go_wp2
  refine bodyPost_ret (v := .tuple #[.agg #[.int .i64 p, .slice va xs.length vc], u]) ?_ rfl ⟨p, _, xs, u, cs, rfl, hp0, hp5, ho, hc, hf⟩
  simp [results, Tryd.results15, go_sem, z0, z1]
end Go.Proofs.YtimkmdedoacpfabDoor
