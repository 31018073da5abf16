/- impl.ViewsOf. -/
import Derived.Test.YtimkmdedoacpfabDoorColK
import Derived.Test.YtimkmdedoacpfabDoorRngL
import Derived.Test.YtimkmdedoacpfabDoorRngQ
import Derived.Test.YtimkmdedoacpfabDoorVmI
namespace Go.Proofs.YtimkmdedoacpfabDoor
open Go.RowKit
attribute [local go_sem] Oper.semAt_some

/-! ### what is seen -/
def vwB (p : Int) (es cs : List Int) (e : Int) : Bool := fitB p es cs && inB es e
def vwL (p : Int) (es cs : List Int) (e : Int) : List Int := if vwB p es cs e then vws (app cs (e.tdiv 10)) (app cs (e.tmod 10)) else []
theorem vwL_yes {p e : Int} {es cs : List Int} (h : vwB p es cs e = true) : vwL p es cs e = vws (app cs (e.tdiv 10)) (app cs (e.tmod 10)) := by simp [vwL, h]
theorem vwL_no {p e : Int} {es cs : List Int} (h : vwB p es cs e = false) : vwL p es cs e = [] := by simp [vwL, h]
theorem inB_mem {xs : List Int} {x : Int} (h : inB xs x = true) : x ∈ xs := by
  refine Classical.byContradiction fun hc => ?_
  rw [inB_no fun j hj e => hc (by rw [← e]; exact nth_mem hj)] at h
  cases h
theorem inB_of {xs : List Int} {x : Int} (h : x ∈ xs) : inB xs x = true := by
  obtain ⟨j, hj, e⟩ := nth_of h
  exact inB_yes hj e
theorem vwL_few {p e : Int} {es cs : List Int} : (vwL p es cs e).length ≤ 9 := by
  cases h : vwB p es cs e
  · rw [vwL_no h]; simp
  · rw [vwL_yes h]; unfold vws; rw [vwTo_len]; exact Nat.le_refl _
/-- What has been seen when these orders have come. -/
def vwP (a b : Int) (pre : List (List Int)) : List Int := vwTo pre a b pre.length
theorem vwTo_left {a b : Int} {pre : List (List Int)} {x : List Int} : ∀ k, k ≤ pre.length → vwTo (pre ++ [x]) a b k = vwTo pre a b k
  | 0, _ => rfl
  | k + 1, h => by
    have hr : row (pre ++ [x]) k = row pre k := by
      unfold row
      rw [List.getD_eq_getElem?_getD, List.getD_eq_getElem?_getD, List.getElem?_append_left (by omega)]
    rw [vwTo, vwTo, vwTo_left k (by omega), hr]
theorem vwP_next {a b : Int} {pre : List (List Int)} {x : List Int} : vwP a b (pre ++ [x]) = (vwP a b pre).set (3 * app x a + app x b).toNat (nth (vwP a b pre) (3 * app x a + app x b).toNat + 1) := by
  unfold vwP
  have hr : row (pre ++ [x]) pre.length = x := by
    unfold row
    rw [List.getD_eq_getElem?_getD, List.getElem?_append_right (Nat.le_refl _)]; simp
  rw [show (pre ++ [x]).length = pre.length + 1 by simp, vwTo, vwTo_left _ (Nat.le_refl _), hr]
theorem vwP_len (a b : Int) (pre : List (List Int)) : (vwP a b pre).length = 9 := vwTo_len _ _ _ _
theorem vwTo_small (L : List (List Int)) (a b : Int) : ∀ k j, 0 ≤ nth (vwTo L a b k) j ∧ nth (vwTo L a b k) j ≤ k
  | 0, j => by
    rw [vwTo, nth_repl]; simp
  | k + 1, j => by
    have h := vwTo_small L a b k j
    have h2 := vwTo_small L a b k (3 * app (row L k) a + app (row L k) b).toNat
    rw [vwTo]
    by_cases hlt : (3 * app (row L k) a + app (row L k) b).toNat < (vwTo L a b k).length
    · rw [nth_set hlt]
      split <;> omega
    · rw [List.set_eq_of_length_le (by omega)]; omega
theorem vwP_small (a b : Int) (pre : List (List Int)) (j : Nat) : 0 ≤ nth (vwP a b pre) j ∧ nth (vwP a b pre) j ≤ pre.length := vwTo_small _ _ _ _ _
def VwPost (p : Int) (es cs : List Int) (e : Int) (w : World) (en : Ending) (w' : World) : Prop := ∃ v, en = .returned v ∧ Own w' w.heap.size v (vwL p es cs e) ∧ Below w.heap.size w w'
theorem ords3_len : (ords 3).length = 6 := by decide +kernel
theorem vws_all (a b : Int) : vwP a b (ords 3) = vws a b := by unfold vwP vws; rw [ords3_len]
/-- Between two rounds; all that is the loop's own lies below Bq. -/
structure VwI (w : World) (P : List Value) (cs : List Int) (A B : Int) (Nc N9 N10 Nv Ng : Nat) (n2 : Nat) (pre : List (List Int)) (W : World) : Prop where
  be : Below w.heap.size w W
  b1 : Box W w.heap.size P
  bc : Box W Nc (five cs)
  b9 : Box W N9 [.int .i64 A]
  b10 : Box W N10 [.int .i64 B]
  bv : Box W Nv [.slice (some ⟨Ng, 0, none⟩) 9 9]
  ov : Own W (w.heap.size + 1) (.slice (some ⟨Ng, 0, none⟩) 9 9) (vwP (app cs A) (app cs B) pre)
  hz : n2 ≤ W.heap.size
/-- Where they lie. -/
structure VwN (w : World) (Nc N9 N10 Nv Ng Bq : Nat) : Prop where
  c : w.heap.size < Nc ∧ Nc < Bq ∧ Nc ≠ Ng
  n9 : w.heap.size < N9 ∧ N9 < Bq ∧ N9 ≠ Ng
  n10 : w.heap.size < N10 ∧ N10 < Bq ∧ N10 ≠ Ng
  v : w.heap.size < Nv ∧ Nv < Bq ∧ Nv ≠ Ng
  g : w.heap.size < Ng ∧ Ng < Bq
section
variable {w : World} {P : List Value} {cs : List Int} {A B : Int} {Nc N9 N10 Nv Ng Bq n2 : Nat} {pre : List (List Int)} {W W' : World}
theorem VwI.grown {r : Option Nat} (h : VwI w P cs A B Nc N9 N10 Nv Ng n2 pre W) (x : VwN w Nc N9 N10 Nv Ng Bq) (hg : W.grownBy W' r) (hr : ∀ q, r = some q → Bq ≤ q) : VwI w P cs A B Nc N9 N10 Nv Ng n2 pre W' := by
  have k1 := x.c; have k2 := x.n9; have k3 := x.n10; have k4 := x.v; have k5 := x.g
  exact ⟨h.be.grown hg h.be.size fun q e => by have := hr q e; omega, h.b1.grownP hg fun q e => by have := hr q e; omega, h.bc.grownP hg fun q e => by have := hr q e; omega, h.b9.grownP hg fun q e => by have := hr q e; omega,
    h.b10.grownP hg fun q e => by have := hr q e; omega, h.bv.grownP hg fun q e => by have := hr q e; omega, own_heap h.ov fun q hq => by
      obtain rfl : Ng = q := by simpa [Value.ownBlock] using hq
      exact hg.block _ (h.ov.lt _ rfl).2 fun e => by have := hr _ e.symm; omega, Nat.le_trans h.hz hg.size⟩
theorem VwI.on (h : VwI w P cs A B Nc N9 N10 Nv Ng n2 pre W) (hb : Below W.heap.size W W') : VwI w P cs A B Nc N9 N10 Nv Ng n2 pre W' :=
  ⟨Below.on h.be hb, h.b1.on hb, h.bc.on hb, h.b9.on hb, h.b10.on hb, h.bv.on hb, own_below h.ov hb, Nat.le_trans h.hz hb.size⟩
theorem VwI.put {x : List Int} {K : Nat} (h : VwI w P cs A B Nc N9 N10 Nv Ng n2 pre W) (y : VwN w Nc N9 N10 Nv Ng Bq) (hK : (3 * app x (app cs A) + app x (app cs B)).toNat = K) (hK9 : K < 9) :
    VwI w P cs A B Nc N9 N10 Nv Ng n2 (pre ++ [x]) (W.setCell ⟨Ng, K, none⟩ (.int .i64 (nth (vwP (app cs A) (app cs B) pre) K + 1))) := by
  have k1 := y.c; have k2 := y.n9; have k3 := y.n10; have k4 := y.v; have k5 := y.g
  obtain ⟨_, o2, g2⟩ := Own.set (k := K) h.ov (vwP_len _ _ _) hK9 (nth (vwP (app cs A) (app cs B) pre) K + 1)
  refine ⟨h.be.grown g2 h.be.size fun q e => by cases e; omega, h.b1.far (by omega) _, h.bc.far (by omega) _, h.b9.far (by omega) _, h.b10.far (by omega) _, h.bv.far (by omega) _, ?_, Nat.le_trans h.hz g2.size⟩
  rw [vwP_next, hK]; exact o2
end
theorem vwI_own {w : World} {P : List Value} {cs : List Int} {A B : Int} {Nc N9 N10 Nv Ng Bq n2 D : Nat} (x : VwN w Nc N9 N10 Nv Ng Bq) (hD : Bq ≤ D) : OwnFrom D (VwI w P cs A B Nc N9 N10 Nv Ng n2) := fun _ _ _ _ h hg hr => h.grown x hg fun q e => Nat.le_trans hD (hr q e).1
theorem vwI_abides {w : World} {P : List Value} {cs : List Int} {A B : Int} {Nc N9 N10 Nv Ng Bq n1 n2 m2 : Nat} (x : VwN w Nc N9 N10 Nv Ng Bq) (hD : Bq ≤ n1) : AbidesIn n1 m2 (VwI w P cs A B Nc N9 N10 Nv Ng n2) := fun _ _ _ _ h hg hr => h.grown x hg fun q e => Nat.le_trans hD (hr q e).1

set_option maxRecDepth 20000 in
set_option maxHeartbeats 3200000 in
theorem ivw_no (p e : Int) (v u : Value) (es cs : List Int) (w : World) (h : Ints w v es) (k : Ints w u cs) (hs : ∀ j, j < es.length → intIn (nth es j)) (hb : vwB p es cs e = false) : Calls Tryd.prog 34 #[.agg #[.int .i64 p, v], u, .int .i64 e] w (VwPost p es cs e w) := by
  have b0 := Box.made w [.int .i64 p, v] 25
  have bl := below_grow w (.cells #[.int .i64 p, v] 25)
  have HG := Lib.hid (show ∀ w', Below w.heap.size w w' → Ints w' v es from fun w' hb => h.below hb)
  have HK := Lib.hid (k.below bl)
  have HS := Lib.hid hs
  have HX := Lib.hid (vwL_no hb)
  have a0 := b0.cell 0
  have a1 := b0.cell 1
  simp at a0 a1
  have B0 := Lib.hid b0
  have BL := Lib.hid bl
  clear h k hs b0 bl
  cases hf : fitB p es cs
  · have HF := Lib.hid hf
    clear hf hb
    go_enter Tryd.func34, Tryd.ntmps34
    go_wp2_with fail
    refine (icol_not HF.out (HG.out _ BL.out) HK.out HS.out).mono ?_
    rintro e w1 ⟨rfl, hb⟩
    have B1 := Lib.hid (Below.on BL.out hb)
    clear hb a0 a1
    go_wp2
    go_ret
    exact ⟨_, rfl, by rw [HX.out]; exact World.ownsRow_nil _ _ _ _, (B1.out).trans ((below_grow w1 _).mono B1.out.size)⟩
  · have HF := Lib.hid hf
    have HI : Hid (inB es e = false) := Lib.hid (by unfold vwB at hb; rw [hf] at hb; simpa using hb)
    obtain ⟨x0, x1, x2, x3, x4, h5⟩ := five_letters cs
    have H5 := Lib.hid h5
    clear hf hb h5
    go_enter Tryd.func34, Tryd.ntmps34
    go_wp2_with fail
    refine (icol_yes HF.out H5.out (HG.out _ BL.out) HK.out HS.out).mono ?_
    rintro en w1 ⟨rfl, hb⟩
    have bw := below_grow w1 (.cells #[.int .i64 x0, .int .i64 x1, .int .i64 x2, .int .i64 x3, .int .i64 x4] 67)
    have B1 := Lib.hid (Below.on (Below.on BL.out hb) bw)
    have q := (B0.out.on hb).on bw
    have s0 := q.cell 0
    have s1 := q.cell 1
    simp at s0 s1
    clear hb bw a0 a1 q
    go_wp2_with fail
    refine (ctn_is HI.out (HG.out _ B1.out)).mono ?_
    rintro en w2 ⟨rfl, hb⟩
    have B2 := Lib.hid (Below.on B1.out hb)
    clear hb s0 s1
    go_wp2
    go_ret
    exact ⟨_, rfl, by rw [HX.out]; exact World.ownsRow_nil _ _ _ _, B2.out⟩

set_option maxRecDepth 20000 in
set_option maxHeartbeats 3200000 in
theorem ivw_yes (m : Nat) (e : Int) (ga ua : Option Addr) (gn gc un uc : Nat) (es cs : List Int) (w : World) (h : Ints w (.slice ga gn gc) es) (k : Ints w (.slice ua un uc) cs) (hs : ∀ j, j < es.length → intIn (nth es j)) (hb : vwB m es cs e = true) :
    CallsIn Fence.wide 5 Tryd.prog 34 #[.agg #[.int .i64 m, .slice ga gn gc], .slice ua un uc, .int .i64 e] w (VwPost m es cs e w) := by
  have b0 := Box.made w [.int .i64 m, .slice ga gn gc] 25
  have bl := below_grow w (.cells #[.int .i64 m, .slice ga gn gc] 25)
  have HG := Lib.hid (show ∀ w', Below w.heap.size w w' → Ints w' (.slice ga gn gc) es from fun w' hb => h.below hb)
  have HS := Lib.hid hs
  have HX := Lib.hid (vwL_yes hb)
  have hf : fitB m es cs = true := by unfold vwB at hb; exact (Bool.and_eq_true_iff.1 hb).1
  have hi : inB es e = true := by unfold vwB at hb; exact (Bool.and_eq_true_iff.1 hb).2
  have hfit := fitB_true.1 hf
  have hed := hfit.gk.mem (inB_mem hi)
  have HI := Lib.hid hi
  obtain ⟨x0, x1, x2, x3, x4, h5⟩ := five_letters cs
  have H5 := Lib.hid h5
  have HC1 := Lib.hid ((callsIn_wide (n := 4)).2 (icol_yes hf h5 (HG.out _ bl) (k.below bl) hs))
  obtain ⟨A, hA⟩ := Int.eq_ofNat_of_zero_le hed.a0
  obtain ⟨B, hB⟩ := Int.eq_ofNat_of_zero_le (show 0 ≤ e.tmod 10 by have := hed.ab; omega)
  have hm5 := hfit.gk.p5
  have hAB : A < m ∧ B < m := by have := hed.ab; have := hed.bp; omega
  have HQA := Lib.hid (show IntKind.wrap .i64 (e.tdiv 10) = (A : Int) from by rw [hA]; exact IntWalk.i64_in _ (by omega))
  have HQB := Lib.hid hB
  have HL : Hid (cs.length = m) := Lib.hid (by have := hfit.len; omega)
  have HM5 : Hid (m ≤ 5) := Lib.hid (by omega)
  have HBD := Lib.hid hfit.bd
  have HXV : Hid (vwL m es cs e = vwP (app cs A) (app cs B) (ords 3)) := Lib.hid (by rw [HX.out, hA, hB, vws_all])
  have HAB := Lib.hid hAB
  have a0 := b0.cell 0
  have a1 := b0.cell 1
  simp at a0 a1
  have B0 := Lib.hid b0
  have BL := Lib.hid bl
  have hf1 : Fence.wide.fn 60 := trivial
  have hf2 : Fence.wide.fn 73 := trivial
  have hf3 : Fence.wide.fn 74 := trivial
  have hf4 : Fence.wide.fn 75 := trivial
  clear h k hs b0 bl hb hf hi hfit hed h5 hA hB hm5 hAB HX
  have hmk := run_make_row' (P := Tryd.prog) 23 3 (.int .i64 0) 8 Tryd.underlying23 infoInt rfl .i64 .i64 9 (by omega) (by omega)
  simp only [Int.cast_ofNat_Int] at hmk
  refine callsIn_of_wp_marks Tryd.func34 rfl trivial ?_ rfl
  simp only [Tryd.ntmps34, List.size_toArray, List.length_cons, List.length_nil, Nat.reduceAdd, Nat.reduceSub, Array.replicate_succ, Array.replicate_zero, List.push_toArray, List.append_toArray, List.nil_append, List.cons_append]
  gi_wp2_with fail
  refine HC1.out.mono ?_
  rintro en w1 ⟨rfl, hb⟩
  have bw := below_grow w1 (.cells #[.int .i64 x0, .int .i64 x1, .int .i64 x2, .int .i64 x3, .int .i64 x4] 67)
  have B1 := Lib.hid (Below.on (Below.on BL.out hb) bw)
  have P1 := Lib.hid ((B0.out.on hb).on bw)
  have C1 := Lib.hid (show Box (w1.alloc (.cells #[.int .i64 x0, .int .i64 x1, .int .i64 x2, .int .i64 x3, .int .i64 x4] 67)) w1.heap.size (five cs) by rw [H5.out]; exact Box.made w1 [.int .i64 x0, .int .i64 x1, .int .i64 x2, .int .i64 x3, .int .i64 x4] 67)
  have hlt0 := (B0.out.on hb).lt
  have s0 := P1.out.cell 0
  have s1 := P1.out.cell 1
  simp at s0 s1
  have HLT0 := Lib.hid hlt0
  clear hb bw a0 a1 hlt0
  gi_wp2_with fail
  refine (callsIn_wide.2 (ctn_is HI.out (HG.out _ B1.out))).mono ?_
  rintro en w2 ⟨rfl, hb⟩
  have B2 := Lib.hid (Below.on B1.out hb)
  have P2 := Lib.hid (P1.out.on hb)
  have C2 := Lib.hid (C1.out.on hb)
  clear hb s0 s1 P1 C1
  gi_wp2_with fail
  refine (callsIn_wide.2 (ends_any e A B w2 HQA.out HQB.out)).mono ?_
  rintro en w3 ⟨rfl, rfl⟩
  obtain ⟨W4, hW4⟩ : ∃ z, z = (((w3.alloc (.cells #[.int .i64 A] 3)).alloc (.cells #[.int .i64 B] 3)).alloc (.cells (madeCells #[.int .i64 0] 9) 3)).alloc (.cells #[.slice (some ⟨w3.heap.size + 1 + 1, 0, none⟩) 9 9] 23) := ⟨_, rfl⟩
  have g1 := below_grow w3 (.cells #[.int .i64 A] 3)
  have g2 := below_grow (w3.alloc (.cells #[.int .i64 A] 3)) (.cells #[.int .i64 B] 3)
  have g3 := below_grow ((w3.alloc (.cells #[.int .i64 A] 3)).alloc (.cells #[.int .i64 B] 3)) (.cells (madeCells #[.int .i64 0] 9) 3)
  have g4 := below_grow (((w3.alloc (.cells #[.int .i64 A] 3)).alloc (.cells #[.int .i64 B] 3)).alloc (.cells (madeCells #[.int .i64 0] 9) 3)) (.cells #[.slice (some ⟨w3.heap.size + 1 + 1, 0, none⟩) 9 9] 23)
  have e1 : (w3.alloc (.cells #[.int .i64 A] 3)).heap.size = w3.heap.size + 1 := by simp
  have e2 : ((w3.alloc (.cells #[.int .i64 A] 3)).alloc (.cells #[.int .i64 B] 3)).heap.size = w3.heap.size + 1 + 1 := by simp
  have e3 : (((w3.alloc (.cells #[.int .i64 A] 3)).alloc (.cells #[.int .i64 B] 3)).alloc (.cells (madeCells #[.int .i64 0] 9) 3)).heap.size = w3.heap.size + 1 + 1 + 1 := by simp
  have b9 := (((Box.made w3 [.int .i64 A] 3).on g2).on g3).on g4
  have b10 := ((Box.made (w3.alloc (.cells #[.int .i64 A] 3)) [.int .i64 B] 3).on g3).on g4
  have ov := own_below (own_make ((w3.alloc (.cells #[.int .i64 A] 3)).alloc (.cells #[.int .i64 B] 3)) 9 (by omega)) g4
  have bv := Box.made (((w3.alloc (.cells #[.int .i64 A] 3)).alloc (.cells #[.int .i64 B] 3)).alloc (.cells (madeCells #[.int .i64 0] 9) 3)) [.slice (some ⟨w3.heap.size + 1 + 1, 0, none⟩) 9 9] 23
  have gA := Below.on (Below.on (Below.on g1 g2) g3) g4
  rw [e1] at b10
  rw [e2] at ov
  rw [e3] at bv
  have h4z : W4.heap.size = w3.heap.size + 1 + 1 + 1 + 1 := by rw [hW4]; simp
  rw [← hW4] at b9 b10 ov bv gA
  have HW4 := Lib.hid hW4
  have K9 := Lib.hid b9
  have K10 := Lib.hid b10
  have KV := Lib.hid bv
  have KO := Lib.hid ov
  have KA := Lib.hid gA
  have H4Z := Lib.hid h4z
  have HO := Lib.hid ((callsIn_wide (n := 4)).2 (by have h9 := iof_any' 3 W4; simp only [Int.cast_ofNat_Int] at h9; exact h9))
  clear g1 g2 g3 g4 e1 e2 e3 b9 b10 ov bv gA h4z hW4
  gi_wp2_with fail
  rw [← HW4.out]
  refine HO.out.mono ?_
  rintro en w4 ⟨rfl, hw4⟩
  have hz4 : w4.heap.size = w3.heap.size + 1 + 1 + 1 + 1 + 1 := by rw [hw4]; simp [H4Z.out]
  have bl := below_grow W4 (.cells #[.int .i64 3] 3)
  rw [← hw4] at bl
  have bM : Box w4 (w3.heap.size + 1 + 1 + 1 + 1) [.int .i64 3] := by rw [hw4, ← H4Z.out]; exact Box.made _ [.int .i64 3] 3
  have cM := bM.cell 0
  simp at cM
  have BA := Below.on KA.out bl
  have hlt1 := C2.out.lt
  have hlt0 := HLT0.out
  have HXN : Hid (VwN w w1.heap.size w3.heap.size (w3.heap.size + 1) (w3.heap.size + 1 + 1 + 1) (w3.heap.size + 1 + 1) (w3.heap.size + 1 + 1 + 1 + 1)) := Lib.hid ⟨by omega, by omega, by omega, by omega, by omega⟩
  have HI0 : Hid (∀ W n2, Below w4.heap.size w4 W → n2 = W.heap.size → VwI w [.int .i64 m, .slice ga gn gc] cs A B w1.heap.size w3.heap.size (w3.heap.size + 1) (w3.heap.size + 1 + 1 + 1) (w3.heap.size + 1 + 1) n2 [] W) := Lib.hid fun W n2 hb hn => by
    subst hn
    exact VwI.on ⟨Below.on B2.out BA, P2.out.on BA, C2.out.on BA, K9.out.on bl, K10.out.on bl, KV.out.on bl, own_mono (own_below KO.out bl) (by have := HLT0.out; omega), Nat.le_refl _⟩ hb |> fun h => ⟨h.be, h.b1, h.bc, h.b9, h.b10, h.bv, h.ov, Nat.le_refl _⟩
  have HZ4 := Lib.hid hz4
  have HSEQ := Lib.hid (orders_stops (w3.heap.size + 1 + 1 + 1 + 1) 3 w4 (by omega) cM (by omega) (by omega))
  have HLT1 := Lib.hid hlt1
  rw [H4Z.out]
  clear hw4 bl bM cM BA hlt1 hlt0 hz4 KA K9 K10 KV KO HO
  gi_wp2_with fail
  refine wpIn_rangeFunc_ownP rfl (by omega) (gf := 91) (lb := #[.pointer (some ⟨w3.heap.size + 1 + 1 + 1 + 1, 0, none⟩)]) rfl trivial (enters_of Tryd.func91 (by kernel_rfl) rfl) HSEQ.out kpO_t (fun _ _ W l o o2 a b c d => kpO_b W l o o2 a b c d) (Below.refl _ _) rfl
    (fun n2 pre W => VwI w [.int .i64 m, .slice ga gn gc] cs A B w1.heap.size w3.heap.size (w3.heap.size + 1) (w3.heap.size + 1 + 1 + 1) (w3.heap.size + 1 + 1) n2 pre W) (fun _ _ _ _ => False)
    (fun n2 => vwI_own HXN.out (by have := HZ4.out; omega)) (fun _ _ _ _ _ _ hs _ _ => hs)
    (fun n2 => vwI_abides HXN.out (by have := HZ4.out; omega)) (fun _ _ _ _ _ _ hs _ _ => hs)
    ?start
    (fun x => { tmps := #[.agg #[.int .i64 m, .slice ga gn gc], .slice ua un uc, .int .i64 e, .pointer (some ⟨w.heap.size, 0, none⟩), undef, undef, .slice none 0 0, .pointer (some ⟨w1.heap.size, 0, none⟩), .bool true, .pointer (some ⟨w3.heap.size, 0, none⟩), .pointer (some ⟨w3.heap.size + 1, 0, none⟩), .pointer (some ⟨w3.heap.size + 1 + 1 + 1, 0, none⟩), x, undef, .tuple #[.agg #[.int .i64 x0, .int .i64 x1, .int .i64 x2, .int .i64 x3, .int .i64 x4], .bool true], .agg #[.int .i64 m, .slice ga gn gc], .slice ua un uc, .tuple #[.agg #[.int .i64 x0, .int .i64 x1, .int .i64 x2, .int .i64 x3, .int .i64 x4], .bool true], .agg #[.int .i64 x0, .int .i64 x1, .int .i64 x2, .int .i64 x3, .int .i64 x4], .bool true, .bool true, .bool false, .bool false, .pointer (some ⟨w.heap.size, 1, none⟩), .slice ga gn gc, .int .i64 e, .bool true, .bool false, .bool false, .tuple #[.int .i64 A, .int .i64 B], .int .i64 e, .tuple #[.int .i64 A, .int .i64 B], .int .i64 A, .int .i64 B, .slice (some ⟨w3.heap.size + 1 + 1, 0, none⟩) 9 9, .func (.func 91) #[] #[.pointer (some ⟨w3.heap.size + 1 + 1 + 1 + 1, 0, none⟩)], x, undef, undef, undef, undef, undef, undef, undef, undef, undef, undef, undef, undef, undef, undef, undef, undef, undef, undef, undef], defers := [] }) ?assign ?body ?done ?stop
  case start => exact fun W1 hb _ => HI0.out _ _ hb rfl
  case assign =>
    intro l x W K hK
    gi_wp2
    exact hK
  case body =>
    rintro l n2 pre v xs W0 W ob hl1 hl2 hn1 hn2 hgW hoW hlen
    have hzz := HZ4.out
    have obW := ob.grown HXN.out hgW fun q e => by cases e; omega
    have OW := Lib.hid obW
    have hod : Od xs ((3 : Nat) : Int) := (ords_mem (by omega) (by omega)).1 (hlen.subset (by simp))
    obtain ⟨xa, xc, hxv⟩ := Own.form hoW
    have hx3 : xs.length = 3 := by have := hod.len; omega
    rw [hx3] at hxv
    subst hxv
    have HXS := Lib.hid (Ints.of_own hoW (by rw [hx3]; unfold maxLen; omega))
    have HN2 := Lib.hid (show w4.heap.size + 2 ≤ n2 from hn1)
    have HW0 := Lib.hid (show n2 ≤ W.heap.size from Nat.le_trans hn2 hgW.size)
    have HP6 : Hid (pre.length ≤ 6) := Lib.hid (by have := hlen.length_le; rw [ords3_len] at this; simp at this; omega)
    have hca := HBD.out A (by rw [HL.out]; exact HAB.out.1)
    have hcb := HBD.out B (by rw [HL.out]; exact HAB.out.2)
    have ta := hod.at_ (x := nth cs A) hca.1 (by omega)
    have tb := hod.at_ (x := nth cs B) hcb.1 (by omega)
    obtain ⟨YA, hYA⟩ := Int.eq_ofNat_of_zero_le ta.1
    obtain ⟨YB, hYB⟩ := Int.eq_ofNat_of_zero_le tb.1
    have hYA3 : YA < 3 := by omega
    have hYB3 : YB < 3 := by omega
    have HTA : Hid (nth (thn cs xs) A = (YA : Int)) := Lib.hid (by rw [pnt_nth (by rw [HL.out]; exact HAB.out.1)]; exact hYA)
    have HTB : Hid (nth (thn cs xs) B = (YB : Int)) := Lib.hid (by rw [pnt_nth (by rw [HL.out]; exact HAB.out.2)]; exact hYB)
    obtain ⟨K, hK⟩ : ∃ K, 3 * YA + YB = K := ⟨_, rfl⟩
    have hKi : 3 * (YA : Int) + (YB : Int) = (K : Int) := by omega
    have hK9 : K < 9 := by omega
    have HKK : Hid ((3 * app xs (app cs A) + app xs (app cs B)).toNat = K) := Lib.hid (by
      have e1 : app cs (A : Int) = nth cs A := by simp [app]
      have e2 : app cs (B : Int) = nth cs B := by simp [app]
      rw [e1, e2, hYA, hYB]; omega)
    obtain ⟨y0, y1, y2, y3, y4, h6⟩ := five_letters (thn cs xs)
    have H6 := Lib.hid h6
    have HPT := Lib.hid ((callsIn_wide (n := 2)).2 (ipn_any m (.slice xa 3 xc) xs cs x0 x1 x2 x3 x4 W HXS.out HL.out HM5.out H5.out (fun j hj => by have := HBD.out j (by rw [HL.out]; exact hj); omega)))
    have q := obW.bc
    rw [H5.out] at q
    have q0 := q.cell 0
    have q1 := q.cell 1
    have q2 := q.cell 2
    have q3 := q.cell 3
    have q4 := q.cell 4
    simp at q0 q1 q2 q3 q4
    have s0 := obW.b1.cell 0
    have s1 := obW.b1.cell 1
    simp at s0 s1
    have HWB := Lib.hid obW.hz
    clear q hgW hoW obW ob hlen hod hca hcb ta tb hYA hYB hK h6
    have hf5 : Fence.wide.fn 66 := trivial
    gi_wp2_with fail
    refine (CallsIn.inRound l HPT.out).mono ?_
    rintro en w5 ⟨he, hb⟩
    rw [H6.out] at he
    subst he
    have BX := Lib.hid (Box.made w5 [.int .i64 y0, .int .i64 y1, .int .i64 y2, .int .i64 y3, .int .i64 y4] 67)
    have bw := below_grow w5 (.cells #[.int .i64 y0, .int .i64 y1, .int .i64 y2, .int .i64 y3, .int .i64 y4] 67)
    have O5 := Lib.hid (OW.out.on (Below.on hb bw))
    have B5 := Lib.hid (Below.on hb bw)
    have HNB : Hid (w5.heap.size ≠ w3.heap.size + 1 + 1 ∧ W.heap.size ≤ w5.heap.size) := Lib.hid (by have := hb.size; have := HW0.out; have := HN2.out; have := HZ4.out; omega)
    clear hb bw q0 q1 q2 q3 q4 s0 s1
    gi_wp2_with fail
    generalize hw6 : w5.alloc (.cells #[.int .i64 y0, .int .i64 y1, .int .i64 y2, .int .i64 y3, .int .i64 y4] 67) = w6 at *
    generalize hN6 : w5.heap.size = NB at *
    clear hw6 hN6
    have hA5 : (A : Int) < 5 := by have := HAB.out; have := HM5.out; omega
    have hB5 : (B : Int) < 5 := by have := HAB.out; have := HM5.out; omega
    have hK9i : (K : Int) < 9 := by omega
    obtain ⟨u, hu⟩ : ∃ u, nth (vwP (app cs A) (app cs B) pre) K = u := ⟨_, rfl⟩
    have HU := Lib.hid hu
    have hu1 := vwP_small (app cs A) (app cs B) pre K
    rw [hu] at hu1
    have hu2 : 0 ≤ u ∧ u ≤ 6 := by have := HP6.out; omega
    clear hu hu1
    have VZ0 : Hid (VwI w [.int .i64 m, .slice ga gn gc] cs A B w1.heap.size w3.heap.size (w3.heap.size + 1) (w3.heap.size + 1 + 1 + 1) (w3.heap.size + 1 + 1) n2 (if false = true then pre ++ [xs] else pre) w6.drew ∧ Box w6.drew NB [.int .i64 y0, .int .i64 y1, .int .i64 y2, .int .i64 y3, .int .i64 y4] ∧ KpO (w3.heap.size + 1 + 1 + 1 + 1) (w4.heap.size + 2) n2 W w6.drew ∧ KeepsOthers W w6.drew) := Lib.hid
      ⟨O5.out.on (Below.refl _ _).drew, BX.out, ⟨B5.out.size, fun k o a _ _ => (B5.out.block k (Array.getElem?_eq_some_iff.1 a).1).trans a⟩, ⟨B5.out.size, fun k o a _ => (B5.out.block k (Array.getElem?_eq_some_iff.1 a).1).trans a⟩⟩
    apply wpIn_region_H (Z := Bool) (S := fun k => k == 10 || k == 11 || k == 12 || k == 13) (C := fun z w' => Hid (VwI w [.int .i64 m, .slice ga gn gc] cs A B w1.heap.size w3.heap.size (w3.heap.size + 1) (w3.heap.size + 1 + 1 + 1) (w3.heap.size + 1 + 1) n2 (if z = true then pre ++ [xs] else pre) w' ∧ Box w' NB [.int .i64 y0, .int .i64 y1, .int .i64 y2, .int .i64 y3, .int .i64 y4] ∧ KpO (w3.heap.size + 1 + 1 + 1 + 1) (w4.heap.size + 2) n2 W w' ∧ KeepsOthers W w')) [0, 1, 2, 3, 4, 5, 6, 7, 8, 9] false
    · rintro ⟨a, w, h⟩; exact h
    · kernel_rfl
    · kernel_rfl
    · kernel_rfl
    · kernel_rfl
    · exact ⟨rfl, rfl, rfl, rfl, rfl, rfl, rfl, rfl, rfl, rfl, trivial⟩
    · rfl
    · decide
    · exact VZ0
    · intro zz
      dsimp only [pickL, nthO]
      go_big_quiet_want
      go_big_quiet_op
      refine ⟨.slice (some ⟨w3.heap.size + 1 + 1, 0, none⟩) 9 9, fun w' hw' => ?_, ?_⟩
      · have q0 := hw'.out.1.bv.cell 0
        simp at q0
        simp [go_sem, q0]
      go_big_quiet_on
      go_big_quiet_want
      go_big_quiet_op
      refine ⟨.int .i64 A, fun w' hw' => ?_, ?_⟩
      · have q0 := hw'.out.1.b9.cell 0
        simp at q0
        simp [go_sem, q0]
      go_big_quiet_on
      go_big_quiet_want; go_big_quiet_op; first | go_big_quiet_on | (refine ⟨_, fun _ _ => rfl, ?_⟩; go_big_quiet_on)
      go_big_quiet_want
      go_big_quiet_op
      refine ⟨.int .i64 YA, fun w' hw' => ?_, ?_⟩
      · have q0 := Box.col (cs := thn cs xs) (k := A) (by rw [H6.out]; exact hw'.out.2.1) (by omega)
        rw [HTA.out] at q0
        simp [go_sem, q0]
      go_big_quiet_on
      go_big_quiet_want; go_big_quiet_op; first | go_big_quiet_on | (refine ⟨_, fun _ _ => rfl, ?_⟩; go_big_quiet_on)
      go_big_quiet_want
      go_big_quiet_op
      refine ⟨.int .i64 B, fun w' hw' => ?_, ?_⟩
      · have q0 := hw'.out.1.b10.cell 0
        simp at q0
        simp [go_sem, q0]
      go_big_quiet_on
      go_big_quiet_want; go_big_quiet_op; first | go_big_quiet_on | (refine ⟨_, fun _ _ => rfl, ?_⟩; go_big_quiet_on)
      go_big_quiet_want
      go_big_quiet_op
      refine ⟨.int .i64 YB, fun w' hw' => ?_, ?_⟩
      · have q0 := Box.col (cs := thn cs xs) (k := B) (by rw [H6.out]; exact hw'.out.2.1) (by omega)
        rw [HTB.out] at q0
        simp [go_sem, q0]
      go_big_quiet_on
      go_big_quiet_want; go_big_quiet_op; first | go_big_quiet_on | (refine ⟨_, fun _ _ => rfl, ?_⟩; go_big_quiet_on)
      go_big_quiet_want; go_big_quiet_op; first | go_big_quiet_on | (refine ⟨_, fun _ _ => rfl, ?_⟩; go_big_quiet_on)
      exact wpQuiet_nil rfl
    · refine wpAnyH_special (i := 10) (d := some 52) rfl (by kernel_rfl) rfl rfl (by kernel_rfl) fun wa hc => ⟨.int .i64 (nth (vwP (app cs A) (app cs B) (if false = true then pre ++ [xs] else pre)) K), wa, false, .inl (by
        obtain ⟨⟨_, q0⟩, _⟩ := Own.set (k := K) hc.out.1.ov (vwP_len _ _ _) hK9 0
        simp at q0
        simp [go_sem, q0]), hc, ?_⟩
      clear hc
      simp only [Bool.false_eq_true, if_false]
      rw [HU.out]
      refine wpAnyH_special (i := 11) (d := some 53) rfl (by kernel_rfl) rfl rfl (by kernel_rfl) fun wa hc => ⟨.int .i64 (u + 1), wa, false, .inl (by
        have hw : IntKind.wrap .i64 (u + 1) = u + 1 := IntWalk.i64_in _ (by omega)
        simp [go_sem, hw]), hc, ?_⟩
      clear hc
      refine wpAnyH_special (i := 12) (d := some 54) rfl (by kernel_rfl) rfl rfl (by kernel_rfl) fun wa hc => ⟨.pointer (some ⟨w3.heap.size + 1 + 1, K, none⟩), wa, false, .inl (by
        simp [go_sem, hK9i]), hc, ?_⟩
      clear hc
      refine wpAnyH_special (i := 13) (d := none) rfl (by kernel_rfl) rfl rfl (by kernel_rfl) fun wa hc => ⟨undef, wa.setCell ⟨w3.heap.size + 1 + 1, K, none⟩ (.int .i64 (u + 1)), true, .inr ⟨by
        obtain ⟨⟨q1, q0⟩, _⟩ := Own.set (k := K) hc.out.1.ov (vwP_len _ _ _) hK9 0
        simp at q0
        simp [go_sem, q0, q1], rfl⟩, Lib.hid ⟨?_, ?_, ?_, ?_⟩, ?_⟩
      · have h9 := hc.out.1
        rw [if_neg (by simp)] at h9
        have h8 := h9.put HXN.out HKK.out hK9
        rw [HU.out] at h8
        rw [if_pos rfl]; exact h8
      · exact hc.out.2.1.far HNB.out.1 _
      · refine ⟨by have := hc.out.2.2.1.1; simpa [World.setCell] using this, fun q ob a1 b1 d1 => ?_⟩
        rw [Below.heap_setCell _ _ _ _ (show q ≠ w3.heap.size + 1 + 1 by have := HZ4.out; omega)]
        exact hc.out.2.2.1.2 q ob a1 b1 d1
      · exact hc.out.2.2.2.trans (KeepsOthers.setCell _ _ _)
      clear hc
      refine ⟨by kernel_rfl, fun w7 hz => ?_⟩
      simp only [Act.put, List.setIfInBounds_toArray, List.set_cons_succ, List.set_cons_zero]
      have h9 := hz.out.1
      rw [if_pos rfl] at h9
      exact ⟨hz.out.2.2.2, hz.out.2.2.1, h9⟩
  case done =>
    rintro D n2 xs W hD1 hD2 rfl ob hD
    have hzz := HZ4.out
    have c0 := ob.bv.cell 0
    simp at c0
    have HR : Hid (VwPost m es cs e w (.returned (.slice (some ⟨w3.heap.size + 1 + 1, 0, none⟩) 9 9)) (W.putObj D (.deferred none))) := Lib.hid ⟨_, rfl, by
      rw [HXV.out]
      exact own_mono (own_heap ob.ov fun q hq => by
        obtain rfl : w3.heap.size + 1 + 1 = q := by simpa [Value.ownBlock] using hq
        exact World.putObj_heap_other (by omega)) (by omega),
      ob.be.grown (grownBy_putObj' W D _) ob.be.size (fun q e => by cases e; have := HXN.out.n9; omega)⟩
    clear ob
    gi_wp2
    refine ⟨by simp, .inl ⟨_, _, rfl, run_takeDeferred hD, ?_⟩⟩
    refine ⟨.slice (some ⟨w3.heap.size + 1 + 1, 0, none⟩) 9 9, ?_, HR.out⟩
    simp [results, Tryd.results34, go_sem]
  case stop =>
    rintro D n2 c pre W _ _ _ hx _
    exact hx.elim
theorem ivw_any (p e : Int) (v u : Value) (es cs : List Int) (w : World) (h : Ints w v es) (k : Ints w u cs) (hs : ∀ j, j < es.length → intIn (nth es j)) : Calls Tryd.prog 34 #[.agg #[.int .i64 p, v], u, .int .i64 e] w (VwPost p es cs e w) := by
  cases hb : vwB p es cs e
  · exact ivw_no p e v u es cs w h k hs hb
  · obtain ⟨ga, gc, rfl, _⟩ := h.opened
    obtain ⟨ua, uc, rfl, _⟩ := k.opened
    have hf : fitB p es cs = true := by unfold vwB at hb; exact (Bool.and_eq_true_iff.1 hb).1
    obtain ⟨m, rfl⟩ := Int.eq_ofNat_of_zero_le (show 0 ≤ p by have := (fitB_true.1 hf).gk.p1; omega)
    exact callsIn_wide.1 (ivw_yes m e ga ua _ gc _ uc es cs w h k hs hb)
end Go.Proofs.YtimkmdedoacpfabDoor
