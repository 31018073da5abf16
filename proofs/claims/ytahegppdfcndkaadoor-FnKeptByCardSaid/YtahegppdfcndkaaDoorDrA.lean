/- l20Asker: a table of questions drawn; the draws of chapter 9 over groups. -/
import Derived.Test.YtahegppdfcndkaaDoorDrawQ
import Derived.Test.YtahegppdfcndkaaDoorBRd
namespace Go.Proofs.YtahegppdfcndkaaDoor
open Go.RowKit

theorem own_draw9 {w w' : World} {R B : Nat} {v : Value} {xs : List Int} (h : Own w B v xs) (hR : R < B) (hg : w.grownBy w' (some R)) : Own w' B v xs :=
  own_heap h fun b hb => hg.block b (h.lt b hb).2 fun e => by cases e; have := (h.lt _ hb).1; omega
theorem rd_upto9 {w w' : World} {R k B : Nat} (h : Rd w R k) (hb : Below B w w') (hB : R < B) : Rd w' R k :=
  h.of_same (hb.cell (p := ⟨R, 0, none⟩) hB) ((hb.cell (p := ⟨R, 1, none⟩) hB).trans h.pos) ((hb.frozen (p := ⟨R, 1, none⟩) hB).trans h.free) hb.size (fun b o hbR => hb.cell (p := ⟨b, o, none⟩) (Nat.lt_trans hbR hB))
/-- The reader, and a list of the call's own. -/
structure Ak (w : World) (R : Nat) (wr : World) (k : Nat) (v : Value) (l : List Int) : Prop where
  rd : Rd wr R k
  gr : w.grownBy wr (some R)
  ow : Own wr w.heap.size v l
  rl : R < w.heap.size
section
variable {w wr w' : World} {R k k' : Nat} {v v' : Value} {l l' : List Int}
theorem Ak.draw (h : Ak w R wr k v l) (hg : wr.grownBy w' (some R)) (hr : Rd w' R k') : Ak w R w' k' v l := ⟨hr, grown_trans h.gr hg, own_draw9 h.ow h.rl hg, h.rl⟩
theorem Ak.on (h : Ak w R wr k v l) (hb : Below wr.heap.size wr w') : Ak w R w' k v l := h.draw (grown_below R hb) (h.rd.below hb)
theorem Ak.app (h : Ak w R wr k v l) (ho : Own w' w.heap.size v' l') (hg : wr.grownBy w' v.ownBlock) : Ak w R w' k v' l' :=
  ⟨rd_upto9 (B := R + 1) h.rd ⟨hg.os, hg.tape, hg.output, hg.size, fun q hq => hg.block q (by have := h.gr.size; have := h.rl; omega) fun e => by have := (h.ow.lt q e.symm).1; have := h.rl; omega⟩ (by omega),
   ⟨hg.os.trans h.gr.os, hg.tape.trans h.gr.tape, hg.output.trans h.gr.output, Nat.le_trans h.gr.size hg.size, fun q a b => (hg.block q (Nat.lt_of_lt_of_le a h.gr.size) fun e => by have := (h.ow.lt q e.symm).1; omega).trans (h.gr.block q a b)⟩, ho, h.rl⟩
end
def AskPost (R k : Nat) (w : World) (e : Ending) (w' : World) : Prop := ∃ v l k', e = .returned v ∧ l.length ≤ 24 ∧ k' ≤ k + 60 ∧ Ak w R w' k' v l

set_option maxHeartbeats 1600000 in
theorem drawask_any (R k : Nat) (g nn : Int) (w : World) (h : Rd w R k) (hk : k ≤ 10000) (hn1 : 1 ≤ nn) (hn2 : nn ≤ 1000) : Calls Tryd.prog 20 #[.pointer (some ⟨R, 0, none⟩), .int .i64 g, .int .i64 nn] w (AskPost R k w) := by
  obtain ⟨o, ho⟩ : ∃ o, ord g = o := ⟨_, rfl⟩
  have HO := Lib.hid ho
  obtain ⟨n, hn⟩ : ∃ n : Nat, n = (ord g).toNat := ⟨_, rfl⟩
  have hon : o = -1 ∧ n = 0 ∨ o = n ∧ n ≤ 23 := by
    by_cases hg : 0 ≤ g ∧ g < 4
    · have := ord_bd hg.1 hg.2; omega
    · have := ord_none hg; omega
  have HGR := Lib.hid (show ∀ k : Nat, k < n → 0 ≤ g ∧ g < 4 from fun k hk => by
    by_cases hg : 0 ≤ g ∧ g < 4
    · exact hg
    · have := ord_none hg; omega)
  have HON := Lib.hid hon
  have K0 := Lib.hid (show Ak w R (w.alloc (.cells #[] 3)) k (.slice (some ⟨w.heap.size, 0, none⟩) 0 0) [] from ⟨h.below (below_grow _ _), grown_below R (below_grow _ _), own_made w 3 rfl, h.lt⟩)
  clear h ho hn hon
  go_enter Tryd.func20, Tryd.ntmps20
  go_wp2
  go_loopw [7, 8] (fun v i wr => ∃ (j : Nat) (l : List Int) (kk : Nat), j ≤ n ∧ i = .int .i64 j ∧ l.length = j ∧ kk ≤ k + 2 * j ∧ Hid (Ak w R wr kk v l)) (fun _ i _ => n - (intOf i).toNat)
  case atStart => exact ⟨0, [], k, by omega, rfl, rfl, by omega, K0⟩
  case round =>
    obtain ⟨j, l, kk, hj, rfl, hl, hkk, hK⟩ := hrel
    obtain ⟨wo, rfl⟩ : ∃ wo : World, wo = wr := ⟨_, rfl⟩
    have HL := Lib.hid hl
    have hn23 : n ≤ 23 := by have := HON.out; omega
    clear hl K0
    go_wp2_with fail
    refine (sord_any g _).mono ?_
    rintro e w1 ⟨rfl, hb⟩
    rw [HO.out]
    have K1 := Lib.hid (hK.out.on hb)
    clear hb hK
    by_cases hlt : j < n
    · have hlt1 : (j : Int) < o := by have := HON.out; omega
      go_wp2_with fail
      refine (drawex0_any R kk g _ (HGR.out j hlt).1 (HGR.out j hlt).2 K1.out.rd (by omega)).mono ?_
      rintro e w2 ⟨s, rfl, hs, g2, k2, hk2, r2⟩
      have K2 := Lib.hid (K1.out.draw g2 r2)
      clear g2 r2 hs K1
      have ov := K2.out.ow
      have hle := K2.out.gr.size
      go_wp2_with (at_builtin; refine wpAppInt rfl _ _ rfl rfl ov (by rw [HL.out]; omega) hle rfl ?_)
      intro v3 w3 o3 g3 _
      have K3 := Lib.hid (K2.out.app o3 g3)
      clear o3 g3 ov hle K2
      go_wp2
      go_roundw
      case rel => exact ⟨j + 1, l ++ [s], k2, by omega, by go_num, by rw [List.length_append, HL.out]; rfl, by omega, K3⟩
      case measure => simp [intOf]; omega
    · obtain rfl : j = n := by omega
      have hlt1 : ¬ (j : Int) < o := by have := HON.out; omega
      go_wp2_with fail
      refine (odd_any R kk nn _ K1.out.rd (by omega) hn1 (by omega)).mono ?_
      rintro e w2 ⟨b, rfl, mm, hw2⟩
      have hgp := grown_pick w1 R kk mm
      have hrn := K1.out.rd.next mm
      rw [← hw2] at hgp hrn
      have K2 := Lib.hid (K1.out.draw hgp hrn)
      clear hw2 hgp hrn K1
      cases b
      · go_wp2
        go_ret
        exact ⟨_, l, _, rfl, by rw [HL.out]; omega, by omega, K2.out⟩
      · have ov := K2.out.ow
        have hle := K2.out.gr.size
        go_wp2_with (at_builtin; refine wpAppInt rfl _ _ rfl rfl ov (by rw [HL.out]; omega) hle rfl ?_)
        intro v3 w3 o3 g3 _
        have K3 := Lib.hid (K2.out.app o3 g3)
        clear o3 g3 ov hle K2
        go_wp2
        go_ret
        exact ⟨_, l ++ [0], _, rfl, by rw [List.length_append, HL.out]; simp; omega, by omega, K3.out⟩

theorem drawHeardFrom_any (s : Value) (w : World) (h : CodeIn w s) : Calls Tryd.prog 5 #[s] w fun e w' => ∃ (g : Int) (x : Int) (av : Value) (l : List Int), e = .returned (.tuple #[.int .i64 g, .int .i64 x, av]) ∧ l.length ≤ 24 ∧ Ints w' av l ∧ Below w.heap.size w w' := by
  have H := Lib.hid h; clear h
  go_enter Tryd.func5, Tryd.ntmps5
  go_wp2_with fail
  refine (open_any _ _ H.out).mono ?_
  rintro e w1 ⟨rfl, H1, hb1⟩
  have RD := Lib.hid H1
  have B1 := Lib.hid hb1
  clear H1 hb1
  go_wp2_with fail
  refine (drawgroup_any _ _ 14 _ RD.out (by omega) (by omega) (by omega)).mono ?_
  rintro e w2 ⟨g, rfl, hg0, hg1, g2, k2, hk2, r2⟩
  have R2 := Lib.hid r2
  have G2 := Lib.hid g2
  clear r2 g2 hg0 hg1
  go_wp2_with fail
  refine (drawexp_any _ _ g 14 _ R2.out (by omega) (by omega) (by omega)).mono ?_
  rintro e w3 ⟨x, rfl, x0, x1, g3, k3, hk3, r3⟩
  have R3 := Lib.hid r3
  have G3 := Lib.hid (grown_trans G2.out g3)
  clear r3 g3 x0 x1
  go_wp2_with fail
  refine (drawask_any _ _ g 14 _ R3.out (by omega) (by omega) (by omega)).mono ?_
  rintro e w4 ⟨av, l, k4, rfl, hl, hk4, hK⟩
  have K4 := Lib.hid hK
  have HL := Lib.hid hl
  clear hK hl
  have HB := Lib.hid (below_of_grown B1.out (grown_trans G3.out K4.out.gr) B1.out.size (by omega))
  have HI := Lib.hid (Ints.of_own K4.out.ow (by have := HL.out; unfold maxLen; omega))
  go_wp2
  refine bodyPost_ret (v := .tuple #[.int .i64 g, .int .i64 x, av]) ?_ rfl ?_
  · simp [results, Tryd.results5, go_sem]
  · exact ⟨g, x, av, l, rfl, HL.out, HI.out, HB.out⟩

theorem drawKeptBy_any (s : Value) (w : World) (h : CodeIn w s) : Calls Tryd.prog 13 #[s] w fun e w' => ∃ (g : Int) (x : Int) (av : Value) (l : List Int), e = .returned (.tuple #[.int .i64 g, .int .i64 x, av]) ∧ l.length ≤ 24 ∧ Ints w' av l ∧ Below w.heap.size w w' := by
  have H := Lib.hid h; clear h
  go_enter Tryd.func13, Tryd.ntmps13
  go_wp2_with fail
  refine (open_any _ _ H.out).mono ?_
  rintro e w1 ⟨rfl, H1, hb1⟩
  have RD := Lib.hid H1
  have B1 := Lib.hid hb1
  clear H1 hb1
  go_wp2_with fail
  refine (drawgroup_any _ _ 14 _ RD.out (by omega) (by omega) (by omega)).mono ?_
  rintro e w2 ⟨g, rfl, hg0, hg1, g2, k2, hk2, r2⟩
  have R2 := Lib.hid r2
  have G2 := Lib.hid g2
  clear r2 g2 hg0 hg1
  go_wp2_with fail
  refine (drawelem_any _ _ g 14 _ R2.out (by omega) (by omega) (by omega)).mono ?_
  rintro e w3 ⟨x, rfl, x0, x1, g3, k3, hk3, r3⟩
  have R3 := Lib.hid r3
  have G3 := Lib.hid (grown_trans G2.out g3)
  clear r3 g3 x0 x1
  go_wp2_with fail
  refine (drawask_any _ _ g 14 _ R3.out (by omega) (by omega) (by omega)).mono ?_
  rintro e w4 ⟨av, l, k4, rfl, hl, hk4, hK⟩
  have K4 := Lib.hid hK
  have HL := Lib.hid hl
  clear hK hl
  have HB := Lib.hid (below_of_grown B1.out (grown_trans G3.out K4.out.gr) B1.out.size (by omega))
  have HI := Lib.hid (Ints.of_own K4.out.ow (by have := HL.out; unfold maxLen; omega))
  go_wp2
  refine bodyPost_ret (v := .tuple #[.int .i64 g, .int .i64 x, av]) ?_ rfl ?_
  · simp [results, Tryd.results13, go_sem]
  · exact ⟨g, x, av, l, rfl, HL.out, HI.out, HB.out⟩
end Go.Proofs.YtahegppdfcndkaaDoor
