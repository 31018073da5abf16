/- The exact laws of ClaimOpen, ClaimNumber, ClaimSame, walked: spec's answer, impl's answer, and that both are the same; the answer owns its memory. -/
import Derived.Test.YtljekapbcphdaabDoorClmS
import Derived.Test.YtljekapbcphdaabDoorMarkR
namespace Go.Proofs.YtljekapbcphdaabDoor
open Go.RowKit

theorem markcl2_any (g : Int) (rv mv : Value) (us : List Value) (xss : List (List Int)) (ms : List Int) (m : Int) (lo hi : Nat) (w : World) (h : OwnCl w lo hi rv mv us xss ms) (hh : hi ≤ w.heap.size) (hl : xss.length ≤ 4000000) (hr : ∀ j, j < xss.length → (row xss j).length ≤ 4000000) (hm : ms.length ≤ 4000000) (hc : m + cnt xss xss.length ≤ 1000000000) (m0 : 0 ≤ m) :
    Calls Tryd.prog 18 #[.agg #[.int .i64 g, rv, mv], .int .i64 m] w fun e w' => e = .returned (.int .i64 (m + cnt xss xss.length + ms.length)) ∧ OwnCl w' lo hi rv mv us (markS xss m xss.length) (markTo ms (m + cnt xss xss.length) ms.length) ∧ Outside lo hi w w' := by
  obtain ⟨mid, h1, h2, h3, h4⟩ := h.parts
  obtain ⟨N, hN⟩ : ∃ N : Nat, cnt xss xss.length = N := ⟨_, rfl⟩
  have HR := Lib.hid hr
  have H3 := Lib.hid h3
  have H4 := Lib.hid h4
  have HN := Lib.hid hN
  have H5 := Lib.hid (show ∀ k, mv.ownBlock = some k → mid ≤ k ∧ k < hi from fun k hk => ⟨(h4.lt k hk).1, h.hi1 k hk⟩)
  rw [hN] at hc ⊢
  clear hr h3 h4 h hN
  go_enter Tryd.func18, Tryd.ntmps18
  go_wp2_with fail
  refine (markSS_any rv us xss m lo mid _ (H3.out.on (below_grow _ _)) hl HR.out (by rw [HN.out]; omega) m0).mono ?_
  rintro e w1 ⟨rfl, os, o1⟩
  rw [HN.out]
  have OS := Lib.hid os
  have b1 := (o1.box (Box.made w [.int .i64 g, rv, mv] _) (by omega)).cell 2
  simp at b1
  have H4' : Hid (Own w1 mid mv ms) := Lib.hid (o1.own (H4.out.alloc _) (Nat.le_refl _))
  have O1 : Hid (Outside lo hi w w1) := Lib.hid ((Outside.alloc _ o1).wider (Nat.le_refl _) h2)
  clear o1 os
  go_wp2_with fail
  refine (markI_any mv ms _ mid _ H4'.out hm (by omega) (by omega)).mono ?_
  rintro e w2 ⟨rfl, ot, g2⟩
  have O2 : Hid (Outside lo hi w w2) := Lib.hid (O1.out.trans (Outside.of_grown g2 fun k hk => ⟨Nat.le_trans h1 (H5.out k hk).1, (H5.out k hk).2⟩))
  have OC : Hid (OwnCl w2 lo hi rv mv us (markS xss m xss.length) (markTo ms (m + N) ms.length)) := Lib.hid ⟨⟨mid, h1, h2, OS.out.heap fun k hk1 hk2 => g2.block k (by have := O1.out.size; omega) (fun e => by have := (H5.out k e.symm).1; omega), ot⟩, fun k hk => (H5.out k hk).2⟩
  clear g2 ot
  go_wp2
  go_ret
  exact ⟨rfl, OC.out, O2.out⟩

theorem heldcl_any (g : Int) (rv mv : Value) (yss : List (List Int)) (ms : List Int) (m : Int) (N : Nat) (w : World) (h1 : IntSS w rv yss) (h2 : Ints w mv ms) (hl : yss.length ≤ 4000000) (hr : ∀ j, j < yss.length → (row yss j).length ≤ 4000000) (hN : cnt yss yss.length = N) (hN2 : N ≤ 100000) (hm : ms.length ≤ 4000000) (m0 : 0 ≤ m) (m1 : m ≤ 900000000)
    (e1 : ∀ j, j < yss.length → ∀ i, i < (row yss j).length → nth (row yss j) i = m + cnt yss j + i) (e2 : ∀ j, j < ms.length → nth ms j = m + N + j) :
    Calls Tryd.prog 19 #[.agg #[.int .i64 g, rv, mv], .int .i64 m] w fun e w' => e = .returned (.int .i64 (m + N + ms.length)) ∧ Below w.heap.size w w' := by
  have H1 := Lib.hid h1
  have H2 := Lib.hid h2
  have E1 := Lib.hid e1
  have E2 := Lib.hid e2
  have HR := Lib.hid hr
  have HN := Lib.hid hN
  clear h1 h2 e1 e2 hr hN
  go_enter Tryd.func19, Tryd.ntmps19
  go_wp2_with fail
  refine (heldSS_any rv yss m _ (H1.out.on (below_grow _ _)) hl HR.out (by rw [HN.out]; omega) m0 E1.out).mono ?_
  rintro e w1 ⟨rfl, rfl⟩
  rw [HN.out]
  go_wp2_with fail
  refine (heldI_any mv ms _ _ (H2.out.below (below_grow _ _)) hm (by omega) (by omega) E2.out).mono ?_
  rintro e w2 ⟨rfl, rfl⟩
  go_wp2
  go_ret
  exact ⟨rfl, below_grow _ _⟩

/-- What a small relation is. -/
structure Sm (rows : List (List Int)) (makes : List Int) : Prop where
  r : rows.length ≤ 1
  x : ∀ j, j < rows.length → (row rows j).length ≤ 2
  m : makes.length ≤ 1
theorem sm_none : Sm [] [] := ⟨by simp, fun j hj => by simp at hj, by simp⟩
theorem sm_one {s m : Int} : Sm [[s]] [m] := ⟨by simp, fun j hj => by
  obtain rfl : j = 0 := by simp at hj; omega
  simp [row], by simp⟩
theorem sm_two {b s m : Int} : Sm [[b, s]] [m] := ⟨by simp, fun j hj => by
  obtain rfl : j = 0 := by simp at hj; omega
  simp [row], by simp⟩
theorem Sm.cw {rows : List (List Int)} {makes : List Int} (h : Sm rows makes) {w : World} {lo hi : Nat} {rv mv : Value} {us : List Value} (ho : OwnCl w lo hi rv mv us rows makes) : Cw w rv mv rows makes :=
  ho.cw (by have := h.r; omega) (fun j hj => by have := h.x j hj; omega) (by have := h.m; omega)
theorem heldcl_is {rows : List (List Int)} {makes : List Int} (h : Sm rows makes) (g : Int) (rv mv : Value) (us : List Value) (w : World) {lo hi : Nat} (ho : OwnCl w lo hi rv mv us (markS rows 1 rows.length) (markTo makes (1 + cnt rows rows.length) makes.length)) :
    Calls Tryd.prog 19 #[.agg #[.int .i64 g, rv, mv], .int .i64 1] w fun e w' => e = .returned (.int .i64 (1 + cnt rows rows.length + makes.length)) ∧ Below w.heap.size w w' := by
  have hr := h.r
  have hm := h.m
  have hx := h.x
  have hc := cnt_le2 rows _ hx
  have hlen := markS_len rows 1 rows.length
  have hcnt := markS_cnt rows 1 rows.length (Nat.le_refl _)
  have hrl : ∀ j, j < (markS rows 1 rows.length).length → (row (markS rows 1 rows.length) j).length ≤ 2 := fun j hj => by
    rw [hlen] at hj
    rw [markS_rowlen hj]; exact hx j hj
  obtain ⟨mid, _, _, k3, k4⟩ := ho.parts
  have c := heldcl_any g rv mv (markS rows 1 rows.length) (markTo makes (1 + cnt rows rows.length) makes.length) 1 (cnt rows rows.length) w (ssOf (by rw [hlen]; omega) hrl k3) (Ints.of_own k4 (by rw [markTo_len]; unfold maxLen; omega)) (by rw [hlen]; omega) (fun j hj => by have := hrl j hj; omega) (by rw [hlen, hcnt]) (by omega) (by rw [markTo_len]; omega) (by omega) (by omega)
    (fun j hj i hi => by
      rw [hlen] at hj
      rw [markS_rowlen hj] at hi
      rw [markS_row rows 1 _ (Nat.le_refl _) j hj, markTo_nth _ _ _ (Nat.le_refl _) i hi, markS_cnt rows 1 j (by omega)])
    (fun j hj => by rw [markTo_len] at hj; exact markTo_nth _ _ _ (Nat.le_refl _) j hj)
  rwa [markTo_len] at c
theorem OwnCl.lowCl {w w' : World} {lo hi a b : Nat} {rv mv : Value} {us : List Value} {xss : List (List Int)} {ms : List Int} (h : OwnCl w a b rv mv us xss ms) (ho : Outside lo hi w w') (h1 : b ≤ lo) (h2 : b ≤ w.heap.size) : OwnCl w' a b rv mv us xss ms := by
  obtain ⟨⟨mid, k1, k2, k3, k4⟩, k5⟩ := h
  exact ⟨⟨mid, k1, k2, k3.lowSS ho (by omega) (by omega), ho.low k4 (fun k hk => by have := k5 k hk; omega)⟩, k5⟩


set_option maxHeartbeats 6400000 in
theorem xClaimOpen_core (g s v : Int) (w : World) (G : Gr w) {z : Int} {rows : List (List Int)} {makes : List Int} (hsm : Sm rows makes)
    (HS : Hid (∀ w', Calls Tryd.prog 15 #[.int .i64 g, .int .i64 s, .int .i64 v] w' (ClmPost w' z rows makes))) (HI : Hid (∀ w', Gr w' → Calls Tryd.prog 16 #[.int .i64 g, .int .i64 s, .int .i64 v] w' (ClmPost w' z rows makes))) :
    Calls Tryd.prog 4 #[.int .i64 g, .int .i64 s, .int .i64 v] w fun e w' => e = .returned (.bool true) ∧ Below w.heap.size w w' := by
  have HG := Lib.hid G
  have HM := Lib.hid hsm
  obtain ⟨nr, hnr⟩ : ∃ nr, rows.length = nr := ⟨_, rfl⟩
  obtain ⟨nm, hnm⟩ : ∃ nm, makes.length = nm := ⟨_, rfl⟩
  have HNR := Lib.hid hnr
  have HNM := Lib.hid hnm
  clear G hsm hnr hnm
  go_enter Tryd.func4, Tryd.ntmps4
  go_wp2_with fail
  refine (HS.out _).mono ?_
  rintro e w1 ⟨rv0, mv0, us0, rfl, o, hb⟩
  obtain ⟨⟨a1, c1, er⟩, a2, c2, em⟩ := o.form
  rw [HNR.out] at er
  rw [HNM.out] at em
  subst er em
  have B1 := Lib.hid hb
  have O0 := Lib.hid o
  clear hb o
  go_wp2_with fail
  refine (HI.out _ (HG.out.on (Below.on B1.out (below_grow _ _)))).mono ?_
  rintro e w2 ⟨rv1, mv1, us1, rfl, o, hb⟩
  obtain ⟨⟨a3, c3, er⟩, a4, c4, em⟩ := o.form
  rw [HNR.out] at er
  rw [HNM.out] at em
  subst er em
  have P0 := Lib.hid ((Box.made w1 [.int .i64 z, .slice a1 nr c1, .slice a2 nm c2] 26).on hb)
  have T2 := Lib.hid (Below.on (below_grow w1 (.cells #[.int .i64 z, .slice a1 nr c1, .slice a2 nm c2] 26)) hb)
  have O1 := Lib.hid o
  have LO : Hid ((w1.alloc (.cells #[.int .i64 z, .slice a1 nr c1, .slice a2 nm c2] 26)).heap.size = w1.heap.size + 1) := Lib.hid (by simp)
  rw [LO.out] at O1
  clear hb o
  have q0 := (P0.out.alloc (.cells #[.int .i64 z, .slice a3 nr c3, .slice a4 nm c4] 26)).cell 0
  have q1 := (P0.out.alloc (.cells #[.int .i64 z, .slice a3 nr c3, .slice a4 nm c4] 26)).cell 1
  have q2 := (P0.out.alloc (.cells #[.int .i64 z, .slice a3 nr c3, .slice a4 nm c4] 26)).cell 2
  simp at q0 q1 q2
  have k1 := HM.out.cw (O1.out.on (below_grow w2 (.cells #[.int .i64 z, .slice a3 nr c3, .slice a4 nm c4] 26)))
  have k2 := HM.out.cw (O0.out.on (Below.on T2.out (below_grow w2 (.cells #[.int .i64 z, .slice a3 nr c3, .slice a4 nm c4] 26))))
  have K1 := Lib.hid k1
  have K2 := Lib.hid k2
  clear k1 k2
  go_wp2_with fail
  refine (eqcl_any z _ _ _ _ rows makes _ K1.out.rows K1.out.makes K2.out.rows K2.out.makes).mono ?_
  rintro e w3 ⟨rfl, hb⟩
  have P1 := Lib.hid ((Box.made w2 [.int .i64 z, .slice a3 nr c3, .slice a4 nm c4] 26).on hb)
  have P0b := Lib.hid ((P0.out.alloc (.cells #[.int .i64 z, .slice a3 nr c3, .slice a4 nm c4] 26)).on hb)
  have T3 := Lib.hid (Below.on (below_grow w2 (.cells #[.int .i64 z, .slice a3 nr c3, .slice a4 nm c4] 26)) hb)
  clear hb q0 q1 q2 K1 K2 P0
  have q0 := P1.out.cell 0
  have q1 := P1.out.cell 1
  have q2 := P1.out.cell 2
  simp at q0 q1 q2
  have hr := HM.out.r
  have hmm := HM.out.m
  have hc := cnt_le2 rows _ HM.out.x
  go_wp2_with fail
  refine (markcl2_any z _ _ us1 rows makes 1 (w1.heap.size + 1) w2.heap.size _ (O1.out.on T3.out) T3.out.size (by omega) (fun j hj => by have := HM.out.x j hj; omega) (by omega) (by omega) (by omega)).mono ?_
  rintro e w4 ⟨rfl, o1, out⟩
  have ob := out.below (show w1.heap.size + 1 ≤ w3.heap.size by have := P0b.out.lt; omega)
  have B4 := Lib.hid ((Below.on B1.out (Below.on T2.out T3.out)).trans (ob.mono (by have := B1.out.size; omega)))
  have P1c := Lib.hid (out.box P1.out (Nat.le_refl _))
  have P0c := Lib.hid (P0b.out.low ob (Nat.lt_succ_self _))
  have O0c := Lib.hid (OwnCl.lowCl (O0.out.on (Below.on T2.out T3.out)) out (by omega) (by have := P0b.out.lt; omega))
  have OM := Lib.hid o1
  have HELD := Lib.hid (fun (w' : World) (hb : Below w4.heap.size w4 w') => heldcl_is HM.out z _ _ us1 w' (OM.out.on hb))
  obtain ⟨K, hK⟩ : ∃ K : Int, 1 + (cnt rows rows.length : Int) + makes.length = K := ⟨_, rfl⟩
  have K0 : 0 ≤ K := by omega
  have K1 : K ≤ 1000 := by omega
  rw [hK] at HELD ⊢
  clear o1 out ob hK hc hr hmm q0 q1 q2 P1 P0b O0 O1
  have hne : (K != K) = false := by simp
  have q0 := P1c.out.cell 0
  have q1 := P1c.out.cell 1
  have q2 := P1c.out.cell 2
  simp at q0 q1 q2
  go_wp2_with fail
  refine (HELD.out _ (Below.refl _ _)).mono ?_
  rintro e w5 ⟨rfl, hb⟩
  have T5 := Lib.hid hb
  clear hb q0 q1 q2
  go_wp2_with fail
  refine (HI.out _ (HG.out.on (Below.on B4.out T5.out))).mono ?_
  rintro e w6 ⟨rv2, mv2, us2, rfl, o, hb⟩
  obtain ⟨⟨a5, c5, er⟩, a6, c6, em⟩ := o.form
  rw [HNR.out] at er
  rw [HNM.out] at em
  subst er em
  have T6 := Lib.hid (Below.on T5.out hb)
  have O2 := Lib.hid o
  clear hb o
  have pb := (P0c.out.on T6.out).alloc (.cells #[.int .i64 z, .slice a5 nr c5, .slice a6 nm c6] 26)
  have q0 := pb.cell 0
  have q1 := pb.cell 1
  have q2 := pb.cell 2
  simp at q0 q1 q2
  clear pb
  have k1 := HM.out.cw (O2.out.on (below_grow w6 (.cells #[.int .i64 z, .slice a5 nr c5, .slice a6 nm c6] 26)))
  have k2 := HM.out.cw (O0c.out.on (Below.on T6.out (below_grow w6 (.cells #[.int .i64 z, .slice a5 nr c5, .slice a6 nm c6] 26))))
  have K3 := Lib.hid k1
  have K4 := Lib.hid k2
  clear k1 k2
  go_wp2_with fail
  refine (eqcl_any z _ _ _ _ rows makes _ K3.out.rows K3.out.makes K4.out.rows K4.out.makes).mono ?_
  rintro e w7 ⟨rfl, hb⟩
  have T7 := Lib.hid (Below.on T6.out (Below.on (below_grow w6 (.cells #[.int .i64 z, .slice a5 nr c5, .slice a6 nm c6] 26)) hb))
  clear hb q0 q1 q2 K3 K4
  have pb := P1c.out.on T7.out
  have q0 := pb.cell 0
  have q1 := pb.cell 1
  have q2 := pb.cell 2
  simp at q0 q1 q2
  clear pb
  go_wp2_with fail
  refine (HELD.out _ T7.out).mono ?_
  rintro e w8 ⟨rfl, hb⟩
  have B8 := Lib.hid (Below.on B4.out (Below.on T7.out hb))
  clear hb
  go_wp2
  go_ret
  exact ⟨rfl, B8.out⟩

theorem xClaimOpen_walk (g s v : Int) (w : World) (G : Gr w) : Calls Tryd.prog 4 #[.int .i64 g, .int .i64 s, .int .i64 v] w fun e w' => e = .returned (.bool true) ∧ Below w.heap.size w w' := by
  cases h : envI g s v
  · exact xClaimOpen_core g s v w G sm_none (Lib.hid fun w' => sopen_no g s v w' (envI_false.1 h)) (Lib.hid fun w' G' => iopen_no g s v w' G' h)
  · exact xClaimOpen_core g s v w G sm_two (Lib.hid fun w' => sopen_yes g s v w' (envI_true.1 h)) (Lib.hid fun w' G' => iopen_yes g s v w' G' h)


set_option maxHeartbeats 6400000 in
theorem xClaimNumber_core (g s v n : Int) (w : World) (G : Gr w) {z : Int} {rows : List (List Int)} {makes : List Int} (hsm : Sm rows makes)
    (HS : Hid (∀ w', Calls Tryd.prog 20 #[.int .i64 g, .int .i64 s, .int .i64 v, .int .i64 n] w' (ClmPost w' z rows makes))) (HI : Hid (∀ w', Gr w' → Calls Tryd.prog 21 #[.int .i64 g, .int .i64 s, .int .i64 v, .int .i64 n] w' (ClmPost w' z rows makes))) :
    Calls Tryd.prog 5 #[.int .i64 g, .int .i64 s, .int .i64 v, .int .i64 n] w fun e w' => e = .returned (.bool true) ∧ Below w.heap.size w w' := by
  have HG := Lib.hid G
  have HM := Lib.hid hsm
  obtain ⟨nr, hnr⟩ : ∃ nr, rows.length = nr := ⟨_, rfl⟩
  obtain ⟨nm, hnm⟩ : ∃ nm, makes.length = nm := ⟨_, rfl⟩
  have HNR := Lib.hid hnr
  have HNM := Lib.hid hnm
  clear G hsm hnr hnm
  go_enter Tryd.func5, Tryd.ntmps5
  go_wp2_with fail
  refine (HS.out _).mono ?_
  rintro e w1 ⟨rv0, mv0, us0, rfl, o, hb⟩
  obtain ⟨⟨a1, c1, er⟩, a2, c2, em⟩ := o.form
  rw [HNR.out] at er
  rw [HNM.out] at em
  subst er em
  have B1 := Lib.hid hb
  have O0 := Lib.hid o
  clear hb o
  go_wp2_with fail
  refine (HI.out _ (HG.out.on (Below.on B1.out (below_grow _ _)))).mono ?_
  rintro e w2 ⟨rv1, mv1, us1, rfl, o, hb⟩
  obtain ⟨⟨a3, c3, er⟩, a4, c4, em⟩ := o.form
  rw [HNR.out] at er
  rw [HNM.out] at em
  subst er em
  have P0 := Lib.hid ((Box.made w1 [.int .i64 z, .slice a1 nr c1, .slice a2 nm c2] 26).on hb)
  have T2 := Lib.hid (Below.on (below_grow w1 (.cells #[.int .i64 z, .slice a1 nr c1, .slice a2 nm c2] 26)) hb)
  have O1 := Lib.hid o
  have LO : Hid ((w1.alloc (.cells #[.int .i64 z, .slice a1 nr c1, .slice a2 nm c2] 26)).heap.size = w1.heap.size + 1) := Lib.hid (by simp)
  rw [LO.out] at O1
  clear hb o
  have q0 := (P0.out.alloc (.cells #[.int .i64 z, .slice a3 nr c3, .slice a4 nm c4] 26)).cell 0
  have q1 := (P0.out.alloc (.cells #[.int .i64 z, .slice a3 nr c3, .slice a4 nm c4] 26)).cell 1
  have q2 := (P0.out.alloc (.cells #[.int .i64 z, .slice a3 nr c3, .slice a4 nm c4] 26)).cell 2
  simp at q0 q1 q2
  have k1 := HM.out.cw (O1.out.on (below_grow w2 (.cells #[.int .i64 z, .slice a3 nr c3, .slice a4 nm c4] 26)))
  have k2 := HM.out.cw (O0.out.on (Below.on T2.out (below_grow w2 (.cells #[.int .i64 z, .slice a3 nr c3, .slice a4 nm c4] 26))))
  have K1 := Lib.hid k1
  have K2 := Lib.hid k2
  clear k1 k2
  go_wp2_with fail
  refine (eqcl_any z _ _ _ _ rows makes _ K1.out.rows K1.out.makes K2.out.rows K2.out.makes).mono ?_
  rintro e w3 ⟨rfl, hb⟩
  have P1 := Lib.hid ((Box.made w2 [.int .i64 z, .slice a3 nr c3, .slice a4 nm c4] 26).on hb)
  have P0b := Lib.hid ((P0.out.alloc (.cells #[.int .i64 z, .slice a3 nr c3, .slice a4 nm c4] 26)).on hb)
  have T3 := Lib.hid (Below.on (below_grow w2 (.cells #[.int .i64 z, .slice a3 nr c3, .slice a4 nm c4] 26)) hb)
  clear hb q0 q1 q2 K1 K2 P0
  have q0 := P1.out.cell 0
  have q1 := P1.out.cell 1
  have q2 := P1.out.cell 2
  simp at q0 q1 q2
  have hr := HM.out.r
  have hmm := HM.out.m
  have hc := cnt_le2 rows _ HM.out.x
  go_wp2_with fail
  refine (markcl2_any z _ _ us1 rows makes 1 (w1.heap.size + 1) w2.heap.size _ (O1.out.on T3.out) T3.out.size (by omega) (fun j hj => by have := HM.out.x j hj; omega) (by omega) (by omega) (by omega)).mono ?_
  rintro e w4 ⟨rfl, o1, out⟩
  have ob := out.below (show w1.heap.size + 1 ≤ w3.heap.size by have := P0b.out.lt; omega)
  have B4 := Lib.hid ((Below.on B1.out (Below.on T2.out T3.out)).trans (ob.mono (by have := B1.out.size; omega)))
  have P1c := Lib.hid (out.box P1.out (Nat.le_refl _))
  have P0c := Lib.hid (P0b.out.low ob (Nat.lt_succ_self _))
  have O0c := Lib.hid (OwnCl.lowCl (O0.out.on (Below.on T2.out T3.out)) out (by omega) (by have := P0b.out.lt; omega))
  have OM := Lib.hid o1
  have HELD := Lib.hid (fun (w' : World) (hb : Below w4.heap.size w4 w') => heldcl_is HM.out z _ _ us1 w' (OM.out.on hb))
  obtain ⟨K, hK⟩ : ∃ K : Int, 1 + (cnt rows rows.length : Int) + makes.length = K := ⟨_, rfl⟩
  have K0 : 0 ≤ K := by omega
  have K1 : K ≤ 1000 := by omega
  rw [hK] at HELD ⊢
  clear o1 out ob hK hc hr hmm q0 q1 q2 P1 P0b O0 O1
  have hne : (K != K) = false := by simp
  have q0 := P1c.out.cell 0
  have q1 := P1c.out.cell 1
  have q2 := P1c.out.cell 2
  simp at q0 q1 q2
  go_wp2_with fail
  refine (HELD.out _ (Below.refl _ _)).mono ?_
  rintro e w5 ⟨rfl, hb⟩
  have T5 := Lib.hid hb
  clear hb q0 q1 q2
  go_wp2_with fail
  refine (HI.out _ (HG.out.on (Below.on B4.out T5.out))).mono ?_
  rintro e w6 ⟨rv2, mv2, us2, rfl, o, hb⟩
  obtain ⟨⟨a5, c5, er⟩, a6, c6, em⟩ := o.form
  rw [HNR.out] at er
  rw [HNM.out] at em
  subst er em
  have T6 := Lib.hid (Below.on T5.out hb)
  have O2 := Lib.hid o
  clear hb o
  have pb := (P0c.out.on T6.out).alloc (.cells #[.int .i64 z, .slice a5 nr c5, .slice a6 nm c6] 26)
  have q0 := pb.cell 0
  have q1 := pb.cell 1
  have q2 := pb.cell 2
  simp at q0 q1 q2
  clear pb
  have k1 := HM.out.cw (O2.out.on (below_grow w6 (.cells #[.int .i64 z, .slice a5 nr c5, .slice a6 nm c6] 26)))
  have k2 := HM.out.cw (O0c.out.on (Below.on T6.out (below_grow w6 (.cells #[.int .i64 z, .slice a5 nr c5, .slice a6 nm c6] 26))))
  have K3 := Lib.hid k1
  have K4 := Lib.hid k2
  clear k1 k2
  go_wp2_with fail
  refine (eqcl_any z _ _ _ _ rows makes _ K3.out.rows K3.out.makes K4.out.rows K4.out.makes).mono ?_
  rintro e w7 ⟨rfl, hb⟩
  have T7 := Lib.hid (Below.on T6.out (Below.on (below_grow w6 (.cells #[.int .i64 z, .slice a5 nr c5, .slice a6 nm c6] 26)) hb))
  clear hb q0 q1 q2 K3 K4
  have pb := P1c.out.on T7.out
  have q0 := pb.cell 0
  have q1 := pb.cell 1
  have q2 := pb.cell 2
  simp at q0 q1 q2
  clear pb
  go_wp2_with fail
  refine (HELD.out _ T7.out).mono ?_
  rintro e w8 ⟨rfl, hb⟩
  have B8 := Lib.hid (Below.on B4.out (Below.on T7.out hb))
  clear hb
  go_wp2
  go_ret
  exact ⟨rfl, B8.out⟩

theorem xClaimNumber_walk (g s v n : Int) (w : World) (G : Gr w) : Calls Tryd.prog 5 #[.int .i64 g, .int .i64 s, .int .i64 v, .int .i64 n] w fun e w' => e = .returned (.bool true) ∧ Below w.heap.size w w' := by
  by_cases h : envI g s v = true ∧ exB g n = true
  · exact xClaimNumber_core g s v n w G sm_one (Lib.hid fun w' => snum_yes g s v n w' ⟨(envI_true.1 h.1).1, (envI_true.1 h.1).2, h.2⟩) (Lib.hid fun w' G' => inum_yes g s v n w' G' h)
  · exact xClaimNumber_core g s v n w G sm_none (Lib.hid fun w' => snum_no g s v n w' fun k => h ⟨envI_true.2 ⟨k.1, k.2.1⟩, k.2.2⟩) (Lib.hid fun w' G' => inum_no g s v n w' G' h)


set_option maxHeartbeats 6400000 in
theorem xClaimSame_core (g s a b : Int) (w : World) (G : Gr w) {z : Int} {rows : List (List Int)} {makes : List Int} (hsm : Sm rows makes)
    (HS : Hid (∀ w', Calls Tryd.prog 22 #[.int .i64 g, .int .i64 s, .int .i64 a, .int .i64 b] w' (ClmPost w' z rows makes))) (HI : Hid (∀ w', Gr w' → Calls Tryd.prog 23 #[.int .i64 g, .int .i64 s, .int .i64 a, .int .i64 b] w' (ClmPost w' z rows makes))) :
    Calls Tryd.prog 6 #[.int .i64 g, .int .i64 s, .int .i64 a, .int .i64 b] w fun e w' => e = .returned (.bool true) ∧ Below w.heap.size w w' := by
  have HG := Lib.hid G
  have HM := Lib.hid hsm
  obtain ⟨nr, hnr⟩ : ∃ nr, rows.length = nr := ⟨_, rfl⟩
  obtain ⟨nm, hnm⟩ : ∃ nm, makes.length = nm := ⟨_, rfl⟩
  have HNR := Lib.hid hnr
  have HNM := Lib.hid hnm
  clear G hsm hnr hnm
  go_enter Tryd.func6, Tryd.ntmps6
  go_wp2_with fail
  refine (HS.out _).mono ?_
  rintro e w1 ⟨rv0, mv0, us0, rfl, o, hb⟩
  obtain ⟨⟨a1, c1, er⟩, a2, c2, em⟩ := o.form
  rw [HNR.out] at er
  rw [HNM.out] at em
  subst er em
  have B1 := Lib.hid hb
  have O0 := Lib.hid o
  clear hb o
  go_wp2_with fail
  refine (HI.out _ (HG.out.on (Below.on B1.out (below_grow _ _)))).mono ?_
  rintro e w2 ⟨rv1, mv1, us1, rfl, o, hb⟩
  obtain ⟨⟨a3, c3, er⟩, a4, c4, em⟩ := o.form
  rw [HNR.out] at er
  rw [HNM.out] at em
  subst er em
  have P0 := Lib.hid ((Box.made w1 [.int .i64 z, .slice a1 nr c1, .slice a2 nm c2] 26).on hb)
  have T2 := Lib.hid (Below.on (below_grow w1 (.cells #[.int .i64 z, .slice a1 nr c1, .slice a2 nm c2] 26)) hb)
  have O1 := Lib.hid o
  have LO : Hid ((w1.alloc (.cells #[.int .i64 z, .slice a1 nr c1, .slice a2 nm c2] 26)).heap.size = w1.heap.size + 1) := Lib.hid (by simp)
  rw [LO.out] at O1
  clear hb o
  have q0 := (P0.out.alloc (.cells #[.int .i64 z, .slice a3 nr c3, .slice a4 nm c4] 26)).cell 0
  have q1 := (P0.out.alloc (.cells #[.int .i64 z, .slice a3 nr c3, .slice a4 nm c4] 26)).cell 1
  have q2 := (P0.out.alloc (.cells #[.int .i64 z, .slice a3 nr c3, .slice a4 nm c4] 26)).cell 2
  simp at q0 q1 q2
  have k1 := HM.out.cw (O1.out.on (below_grow w2 (.cells #[.int .i64 z, .slice a3 nr c3, .slice a4 nm c4] 26)))
  have k2 := HM.out.cw (O0.out.on (Below.on T2.out (below_grow w2 (.cells #[.int .i64 z, .slice a3 nr c3, .slice a4 nm c4] 26))))
  have K1 := Lib.hid k1
  have K2 := Lib.hid k2
  clear k1 k2
  go_wp2_with fail
  refine (eqcl_any z _ _ _ _ rows makes _ K1.out.rows K1.out.makes K2.out.rows K2.out.makes).mono ?_
  rintro e w3 ⟨rfl, hb⟩
  have P1 := Lib.hid ((Box.made w2 [.int .i64 z, .slice a3 nr c3, .slice a4 nm c4] 26).on hb)
  have P0b := Lib.hid ((P0.out.alloc (.cells #[.int .i64 z, .slice a3 nr c3, .slice a4 nm c4] 26)).on hb)
  have T3 := Lib.hid (Below.on (below_grow w2 (.cells #[.int .i64 z, .slice a3 nr c3, .slice a4 nm c4] 26)) hb)
  clear hb q0 q1 q2 K1 K2 P0
  have q0 := P1.out.cell 0
  have q1 := P1.out.cell 1
  have q2 := P1.out.cell 2
  simp at q0 q1 q2
  have hr := HM.out.r
  have hmm := HM.out.m
  have hc := cnt_le2 rows _ HM.out.x
  go_wp2_with fail
  refine (markcl2_any z _ _ us1 rows makes 1 (w1.heap.size + 1) w2.heap.size _ (O1.out.on T3.out) T3.out.size (by omega) (fun j hj => by have := HM.out.x j hj; omega) (by omega) (by omega) (by omega)).mono ?_
  rintro e w4 ⟨rfl, o1, out⟩
  have ob := out.below (show w1.heap.size + 1 ≤ w3.heap.size by have := P0b.out.lt; omega)
  have B4 := Lib.hid ((Below.on B1.out (Below.on T2.out T3.out)).trans (ob.mono (by have := B1.out.size; omega)))
  have P1c := Lib.hid (out.box P1.out (Nat.le_refl _))
  have P0c := Lib.hid (P0b.out.low ob (Nat.lt_succ_self _))
  have O0c := Lib.hid (OwnCl.lowCl (O0.out.on (Below.on T2.out T3.out)) out (by omega) (by have := P0b.out.lt; omega))
  have OM := Lib.hid o1
  have HELD := Lib.hid (fun (w' : World) (hb : Below w4.heap.size w4 w') => heldcl_is HM.out z _ _ us1 w' (OM.out.on hb))
  obtain ⟨K, hK⟩ : ∃ K : Int, 1 + (cnt rows rows.length : Int) + makes.length = K := ⟨_, rfl⟩
  have K0 : 0 ≤ K := by omega
  have K1 : K ≤ 1000 := by omega
  rw [hK] at HELD ⊢
  clear o1 out ob hK hc hr hmm q0 q1 q2 P1 P0b O0 O1
  have hne : (K != K) = false := by simp
  have q0 := P1c.out.cell 0
  have q1 := P1c.out.cell 1
  have q2 := P1c.out.cell 2
  simp at q0 q1 q2
  go_wp2_with fail
  refine (HELD.out _ (Below.refl _ _)).mono ?_
  rintro e w5 ⟨rfl, hb⟩
  have T5 := Lib.hid hb
  clear hb q0 q1 q2
  go_wp2_with fail
  refine (HI.out _ (HG.out.on (Below.on B4.out T5.out))).mono ?_
  rintro e w6 ⟨rv2, mv2, us2, rfl, o, hb⟩
  obtain ⟨⟨a5, c5, er⟩, a6, c6, em⟩ := o.form
  rw [HNR.out] at er
  rw [HNM.out] at em
  subst er em
  have T6 := Lib.hid (Below.on T5.out hb)
  have O2 := Lib.hid o
  clear hb o
  have pb := (P0c.out.on T6.out).alloc (.cells #[.int .i64 z, .slice a5 nr c5, .slice a6 nm c6] 26)
  have q0 := pb.cell 0
  have q1 := pb.cell 1
  have q2 := pb.cell 2
  simp at q0 q1 q2
  clear pb
  have k1 := HM.out.cw (O2.out.on (below_grow w6 (.cells #[.int .i64 z, .slice a5 nr c5, .slice a6 nm c6] 26)))
  have k2 := HM.out.cw (O0c.out.on (Below.on T6.out (below_grow w6 (.cells #[.int .i64 z, .slice a5 nr c5, .slice a6 nm c6] 26))))
  have K3 := Lib.hid k1
  have K4 := Lib.hid k2
  clear k1 k2
  go_wp2_with fail
  refine (eqcl_any z _ _ _ _ rows makes _ K3.out.rows K3.out.makes K4.out.rows K4.out.makes).mono ?_
  rintro e w7 ⟨rfl, hb⟩
  have T7 := Lib.hid (Below.on T6.out (Below.on (below_grow w6 (.cells #[.int .i64 z, .slice a5 nr c5, .slice a6 nm c6] 26)) hb))
  clear hb q0 q1 q2 K3 K4
  have pb := P1c.out.on T7.out
  have q0 := pb.cell 0
  have q1 := pb.cell 1
  have q2 := pb.cell 2
  simp at q0 q1 q2
  clear pb
  go_wp2_with fail
  refine (HELD.out _ T7.out).mono ?_
  rintro e w8 ⟨rfl, hb⟩
  have B8 := Lib.hid (Below.on B4.out (Below.on T7.out hb))
  clear hb
  go_wp2
  go_ret
  exact ⟨rfl, B8.out⟩

theorem xClaimSame_walk (g s a b : Int) (w : World) (G : Gr w) : Calls Tryd.prog 6 #[.int .i64 g, .int .i64 s, .int .i64 a, .int .i64 b] w fun e w' => e = .returned (.bool true) ∧ Below w.heap.size w w' := by
  by_cases h : envI g s a = true ∧ envI g s b = true
  · exact xClaimSame_core g s a b w G sm_one (Lib.hid fun w' => ssam_yes g s a b w' ⟨(envI_true.1 h.1).1, (envI_true.1 h.1).2, (envI_true.1 h.2).2⟩) (Lib.hid fun w' G' => isam_yes g s a b w' G' h)
  · exact xClaimSame_core g s a b w G sm_none (Lib.hid fun w' => ssam_no g s a b w' fun k => h ⟨envI_true.2 ⟨k.1, k.2.1⟩, envI_true.2 ⟨k.1, k.2.2⟩⟩) (Lib.hid fun w' G' => isam_no g s a b w' G' h)

end Go.Proofs.YtljekapbcphdaabDoor
