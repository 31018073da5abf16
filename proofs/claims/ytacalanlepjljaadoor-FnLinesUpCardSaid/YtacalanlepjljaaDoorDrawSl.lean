/- DrawSomeOk, DrawLinesUp. -/
import Derived.Test.YtacalanlepjljaaDoorDrawSm
import Derived.Deep.Cut
namespace Go.Proofs.YtacalanlepjljaaDoor
open Go.RowKit

theorem code_more {w : World} {s : Value} (h : CodeIn w s) (o : Obj) : CodeIn (w.alloc o) s := by
  rcases h with ⟨a, cap, rfl⟩ | ⟨b, off, len, cap, z, rfl, h1, h2, h3, h4, h5, h6⟩
  · exact .inl ⟨a, cap, rfl⟩
  · exact .inr ⟨b, off, len, cap, z, rfl, h1, h2, h3, by simp; omega, fun j hj => ((below_grow w o).cell (p := ⟨b, off + j, none⟩) h4).trans (h5 j hj), h6⟩

set_option maxRecDepth 20000 in
set_option maxHeartbeats 1600000 in
theorem drawSomeOk_any (s : Value) (w : World) (h : CodeIn w s) : Calls Tryd.prog 26 #[s] w fun e w' => ∃ (g : Int) (kv : Value) (keys : List Int) (need : Int) (sv : Value) (q : Int) (xv tv : Value) (ss xs ts : List Int), e = .returned (.tuple #[.int .i64 g, kv, .int .i64 need, .agg #[sv, .int .i64 q, xv, tv]]) ∧ (1 ≤ need ∧ need ≤ 5) ∧ (1 ≤ keys.length ∧ keys.length ≤ 5) ∧ ss.length ≤ 6 ∧ xs.length ≤ 5 ∧ ts.length ≤ 5
    ∧ Ints w' kv keys ∧ Ints w' sv ss ∧ Ints w' xv xs ∧ Ints w' tv ts ∧ Below w.heap.size w w' := by
  have H := Lib.hid h; clear h
  obtain ⟨W0, hW0⟩ : ∃ W, W = w.alloc (.cells #[.slice none 0 0, .int .i64 0, .slice none 0 0, .slice none 0 0] 24) := ⟨_, rfl⟩
  have HC := Lib.hid (show CodeIn W0 s by rw [hW0]; exact code_more H.out _)
  have B0 := Lib.hid (show Box W0 w.heap.size [.slice none 0 0, .int .i64 0, .slice none 0 0, .slice none 0 0] by rw [hW0]; exact Box.made w _ _)
  have HZ0 := Lib.hid (show W0.heap.size = w.heap.size + 1 by rw [hW0]; simp)
  have HB0 := Lib.hid (show Below w.heap.size w W0 by rw [hW0]; exact below_grow _ _)
  go_enter Tryd.func26, Tryd.ntmps26
  go_wp2_with fail
  rw [← hW0]
  clear hW0 H
  refine (open_any _ _ HC.out).mono ?_
  rintro e w1 ⟨rfl, H1, hb1⟩
  have RD := Lib.hid H1
  have B1 := Lib.hid hb1
  have BX1 := Lib.hid (B0.out.on hb1)
  clear H1 hb1 B0 HC
  go_wp2_with fail
  refine (drawsome_any _ 0 _ RD.out (by omega)).mono ?_
  rintro e w2 ⟨g, kv, keys, need, sv, q, xv, tv, ss, xs, ts, k2, rfl, hg, hd, hl, hs, hx, ht, hk2, r2, g2, ok, os, ox, ot⟩
  have n1 : w.heap.size < w1.heap.size := BX1.out.lt
  have BX2 := Lib.hid (box_draw BX1.out g2 (by have := HZ0.out; omega))
  have HBB := Lib.hid (show Below w.heap.size w w2 from below_of_grown (Below.on HB0.out B1.out) g2 (Below.on HB0.out B1.out).size (by have := HZ0.out; omega))
  have OK := Lib.hid ok; have OS := Lib.hid os; have OX := Lib.hid ox; have OT := Lib.hid ot
  clear ok os ox ot g2 r2 RD BX1 B1
  have z0 := BX2.out.cell 0; have z1 := BX2.out.cell 1; have z2 := BX2.out.cell 2; have z3 := BX2.out.cell 3; have f0 := BX2.out.frozen 0; have f1 := BX2.out.frozen 1; have f2 := BX2.out.frozen 2; have f3 := BX2.out.frozen 3
  simp at z0 z1 z2 z3
  obtain ⟨KA, KC, e1⟩ := Own.form OK.out
  obtain ⟨SA, SC, e2⟩ := Own.form OS.out
  obtain ⟨XA, XC, e3⟩ := Own.form OX.out
  obtain ⟨TA, TC, e4⟩ := Own.form OT.out
  subst e1 e2 e3 e4
  have off : Hid (∀ (a b c d : Value) {v : Value} {zs : List Int}, Own w2 w1.heap.size v zs → Own ((((w2.setCell ⟨w.heap.size, 0, none⟩ a).setCell ⟨w.heap.size, 1, none⟩ b).setCell ⟨w.heap.size, 2, none⟩ c).setCell ⟨w.heap.size, 3, none⟩ d) w1.heap.size v zs) := Lib.hid fun a b c d v zs ho => own_off (own_off (own_off (own_off ho n1) n1) n1) n1
  go_wp2
  refine bodyPost_ret (v := .tuple #[.int .i64 g, .slice KA keys.length KC, .int .i64 need, .agg #[.slice SA ss.length SC, .int .i64 q, .slice XA xs.length XC, .slice TA ts.length TC]]) ?_ rfl ?_
  · simp [results, Tryd.results26, go_sem, z0, z1, z2, z3]
  · exact ⟨g, _, keys, need, _, q, _, _, ss, xs, ts, rfl, hd, hl, hs, hx, ht, Ints.of_own (off.out _ _ _ _ OK.out) (by unfold maxLen; omega), Ints.of_own (off.out _ _ _ _ OS.out) (by unfold maxLen; omega), Ints.of_own (off.out _ _ _ _ OX.out) (by unfold maxLen; omega), Ints.of_own (off.out _ _ _ _ OT.out) (by unfold maxLen; omega), (((HBB.out.setCell (Nat.le_refl _) _).setCell (Nat.le_refl _) _).setCell (Nat.le_refl _) _).setCell (Nat.le_refl _) _⟩

set_option maxRecDepth 20000 in
set_option maxHeartbeats 3200000 in
theorem drawLinesUp_any (s : Value) (w : World) (h : CodeIn w s) : Calls Tryd.prog 22 #[s] w fun e w' => ∃ (g need ask : Int) (av : Value) (asks : List Int), e = .returned (.tuple #[.int .i64 g, .int .i64 need, .int .i64 ask, av]) ∧ asks.length ≤ 5 ∧ (1 ≤ need ∧ need ≤ 5) ∧ Ints w' av asks ∧ Below w.heap.size w w' := by
  have H := Lib.hid h; clear h
  go_enter Tryd.func22, Tryd.ntmps22
  go_wp2_with fail
  refine (open_any _ _ H.out).mono ?_
  rintro e w1 ⟨rfl, H1, hb1⟩
  have RD := Lib.hid H1
  have B1 := Lib.hid hb1
  clear H1 hb1 H
  go_wp2_with fail
  refine (drawsome_any _ 0 _ RD.out (by omega)).mono ?_
  rintro e w2 ⟨g, kv, keys, need, sv, q, xv, tv, ss, xs, ts, k2, rfl, hg, hd, hl, hs, hx, ht, hk2, r2, g2, ok, os, ox, ot⟩
  obtain ⟨SA, SC, e2⟩ := Own.form os
  obtain ⟨XA, XC, e3⟩ := Own.form ox
  obtain ⟨TA, TC, e4⟩ := Own.form ot
  subst e2 e3 e4
  have n1 : w.heap.size < w1.heap.size := RD.out.lt
  obtain ⟨w3, hw3⟩ : ∃ z, z = w2.alloc (.cells #[.slice SA ss.length SC, .int .i64 q, .slice XA xs.length XC, .slice TA ts.length TC] 24) := ⟨_, rfl⟩
  have R3 := Lib.hid (show Rd w3 w.heap.size k2 by rw [hw3]; exact r2.below (below_grow _ _))
  have G3 := Lib.hid (show w1.grownBy w3 (some w.heap.size) by rw [hw3]; exact grown_trans g2 (grown_below _ (below_grow _ _)))
  have X3 := Lib.hid (show Box w3 w2.heap.size [.slice SA ss.length SC, .int .i64 q, .slice XA xs.length XC, .slice TA ts.length TC] by rw [hw3]; exact Box.made w2 _ _)
  have O3 := Lib.hid (show Own w3 w1.heap.size (.slice XA xs.length XC) xs by rw [hw3]; exact own_below ox (below_grow _ _))
  have hz := g2.size
  clear r2 g2 ok os ox ot RD
  go_wp2_with fail
  rw [← hw3]
  clear hw3
  refine (pick_any w.heap.size k2 4 _ R3.out (by omega)).mono ?_
  rintro e w4 ⟨pv, rfl, p0, p1, mp, hw4⟩
  have hgp := grown_pick w3 w.heap.size k2 mp
  have hrn := R3.out.next mp
  rw [← hw4] at hgp hrn
  have R4 := Lib.hid hrn
  have G4 := Lib.hid (grown_trans G3.out hgp)
  have X4 := Lib.hid (box_draw X3.out hgp (by omega))
  have O4 := Lib.hid (own_draw O3.out n1 hgp)
  clear hw4 hgp hrn R3 G3 X3 O3 p1 p0
  obtain ⟨N1, hN1⟩ : ∃ N, N = w2.heap.size := ⟨_, rfl⟩
  rw [← hN1] at X4 ⊢
  clear hN1 hz
  have HB4 := Lib.hid (show Below w.heap.size w w4 from below_of_grown B1.out G4.out B1.out.size (by omega))
  have HR4 := Lib.hid R4.out.lt
  by_cases hp : pv = 0
  · have hpb : (pv == 0) = true := by simpa using hp
    clear hp
    have K5 := Lib.hid (show Ky w4 w.heap.size (w4.alloc (.cells #[] 3)) (k2 + 1) (.slice none 0 0) (.slice (some ⟨w4.heap.size, 0, none⟩) 0 0) [] [] from
      ⟨R4.out.below (below_grow _ _), grown_below _ (below_grow _ _), World.ownsRow_nil _ _ _ _, own_made w4 3 rfl, fun b e1 e2 => by simp [Value.ownBlock] at e1, HR4.out⟩)
    clear R4 X4 O4
    obtain ⟨k3, hk3⟩ : ∃ k3, k3 = k2 + 1 := ⟨_, rfl⟩
    rw [← hk3] at K5
    obtain ⟨w5, hw5⟩ : ∃ z, z = w4.alloc (.cells #[] 3) := ⟨_, rfl⟩
    rw [← hw5] at K5
    go_wp2_with fail
    rw [← hw5]
    clear hw5
    refine (pick_any w.heap.size k3 3 _ K5.out.rd (by omega)).mono ?_
    rintro e w6 ⟨cv, rfl, c0, c1, mp, hw6⟩
    have c2 := c1 (by omega)
    have hgp := grown_pick w5 w.heap.size k3 mp
    have hrn := K5.out.rd.next mp
    rw [← hw6] at hgp hrn
    have K6 := Lib.hid (K5.out.draw hgp hrn)
    clear hw6 hgp hrn K5 c1
    obtain ⟨k4, hk4⟩ : ∃ k4, k4 = k3 + 1 := ⟨_, rfl⟩
    rw [← hk4] at K6
    obtain ⟨cn, hcn⟩ : ∃ n : Nat, (n : Int) = 1 + cv := ⟨(1 + cv).toNat, by omega⟩
    have cn3 : cn ≤ 3 := by omega
    skip
    have h1c : (1 : Int) + cv = cn := hcn.symm
    clear hcn c0 c2
    go_wp2
    go_loopw [11, 12] (fun v i wr => ∃ (c : Nat) (zs : List Int) (kk : Nat), c ≤ cn ∧ i = .int .i64 c ∧ zs.length + c = cn ∧ kk ≤ k4 + 2 * zs.length ∧ Hid (Ky w4 w.heap.size wr kk (.slice none 0 0) v [] zs)) (fun _ i _ => (intOf i).toNat)
    case atStart => exact ⟨cn, [], k4, by omega, rfl, by simp, by simp, K6⟩
    case round =>
      obtain ⟨c, zs, kk, hc, rfl, hlz, hkk, hK⟩ := hrel
      obtain ⟨wo, rfl⟩ : ∃ wo : World, wo = wr := ⟨_, rfl⟩
      clear K6 h1c
      by_cases hc0 : 0 < c
      · have hc1 : (c : Int) > 0 := by omega
        go_wp2_with fail
        refine (drawexp_any w.heap.size kk g 14 _ hK.out.rd (by omega) (by omega) (by omega)).mono ?_
        rintro e w7 ⟨s7, rfl, a7, b7, g7, k7, hk7, r7⟩
        have K7 := Lib.hid (hK.out.draw g7 r7)
        clear g7 r7 hK
        have ov := K7.out.os
        have hle := K7.out.le
        have HLZ := Lib.hid hlz
        go_wp2_with (at_builtin; refine wpAppInt rfl _ _ rfl rfl ov (by have := HLZ.out; omega) (by omega) rfl ?_)
        intro v8 w8 o8 g8 k8
        have K8 := Lib.hid (K7.out.app2 o8 g8 k8)
        clear o8 g8 k8 ov hle K7
        go_wp2
        go_roundw
        case rel => exact ⟨c - 1, zs ++ [s7], k7, by omega, by congr 1; omega, by rw [List.length_append]; have := HLZ.out; simp; omega, by rw [List.length_append]; simp; omega, K8⟩
        case measure => simp [intOf]; omega
      · have hc1 : ¬ (c : Int) > 0 := by omega
        have HLZ := Lib.hid hlz
        obtain ⟨av, hav⟩ : ∃ v : Value, v = u11 := ⟨_, rfl⟩
        rw [← hav] at hK ⊢
        clear hav
        have hzl : zs.length ≤ 3 := by omega
        clear hlz
        go_wp2_with fail
        refine (pick_any w.heap.size kk 3 _ hK.out.rd (by omega)).mono ?_
        rintro e w7 ⟨nv, rfl, n0, n9, mp, hw7⟩
        have n8 := n9 (by omega)
        have hgp := grown_pick wo w.heap.size kk mp
        have hrn := hK.out.rd.next mp
        rw [← hw7] at hgp hrn
        have K7 := Lib.hid (hK.out.draw hgp hrn)
        clear hw7 hgp hrn hK n9
        go_wp2_with fail
        refine (drawexp_any w.heap.size (kk + 1) g 14 _ K7.out.rd (by omega) (by omega) (by omega)).mono ?_
        rintro e w8 ⟨s8, rfl, a8, b8, g8, k8, hk8, r8⟩
        have K8 := Lib.hid (K7.out.draw g8 r8)
        clear g8 r8 K7
        go_wp2
        refine bodyPost_ret (v := .tuple #[.int .i64 g, .int .i64 (1 + nv), .int .i64 s8, av]) ?_ rfl ?_
        · simp [results, Tryd.results22, go_sem]
        · exact ⟨g, 1 + nv, s8, _, zs, rfl, by omega, ⟨by omega, by omega⟩, Ints.of_own K8.out.os (by unfold maxLen; omega), below_of_grown HB4.out K8.out.gr HB4.out.size (Nat.le_refl _)⟩
  · have hpb : (pv == 0) = false := by simpa using hp
    clear hp
    have D5 : Hid (Below w4.heap.size w4 w4.drew) := Lib.hid (Below.refl _ _).drew
    go_wp2_with fail
    refine wp_region_class (C := fun w' => Hid (Below w4.heap.size w4 w')) (by kernel_rfl) (by kernel_rfl) D5 ?_
    repeat (first | go_big_quiet_skip | (go_big_quiet_want; go_big_quiet_op; first | go_big_quiet_on | (refine ⟨_, fun _ _ => rfl, ?_⟩; go_big_quiet_on)))
    go_big_quiet_want
    go_big_quiet_op
    refine ⟨.int .i64 q, fun w' hw' => ?_, ?_⟩
    · have q0 := (X4.out.on hw'.out).cell 1
      simp at q0
      simp [go_sem, q0]
    go_big_quiet_on
    repeat (first | go_big_quiet_skip | (go_big_quiet_want; go_big_quiet_op; first | go_big_quiet_on | (refine ⟨_, fun _ _ => rfl, ?_⟩; go_big_quiet_on)))
    go_big_quiet_want
    go_big_quiet_op
    refine ⟨.slice XA xs.length XC, fun w' hw' => ?_, ?_⟩
    · have q0 := (X4.out.on hw'.out).cell 2
      simp at q0
      simp [go_sem, q0]
    go_big_quiet_on
    repeat (first | go_big_quiet_skip | (go_big_quiet_want; go_big_quiet_op; first | go_big_quiet_on | (refine ⟨_, fun _ _ => rfl, ?_⟩; go_big_quiet_on)))
    refine wpQuiet_nil ?_
    intro w5 hw5
    go_wp2
    refine bodyPost_ret (v := .tuple #[.int .i64 g, .int .i64 need, .int .i64 q, .slice XA xs.length XC]) ?_ rfl ?_
    · simp [results, Tryd.results22, go_sem]
    · exact ⟨g, need, q, _, xs, rfl, hx, hd, (Ints.of_own O4.out (by unfold maxLen; omega)).below hw5.out, Below.on HB4.out hw5.out⟩
end Go.Proofs.YtacalanlepjljaaDoor
