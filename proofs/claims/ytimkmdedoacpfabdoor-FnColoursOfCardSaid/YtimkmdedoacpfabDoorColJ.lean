/- impl: failing, painted, coloursIn. -/
import Derived.Test.YtimkmdedoacpfabDoorColI
import Derived.Deep.Cut
namespace Go.Proofs.YtimkmdedoacpfabDoor
open Go.RowKit

/-- One list of numbers is answered, in memory of its own. -/
def LsPost (xs : List Int) (w : World) (e : Ending) (w' : World) : Prop := ∃ v, e = .returned v ∧ Own w' w.heap.size v xs ∧ Below w.heap.size w w'
/-- failing, between two rounds. -/
structure FlS (w : World) (P : List Value) (cs es : List Int) (v : Value) (k : Nat) (wr : World) : Prop where
  be : Below w.heap.size w wr
  b2 : Box wr w.heap.size P
  b3 : Box wr (w.heap.size + 1) (five cs)
  ow : Own wr (w.heap.size + 2) v (flsTo cs es k)
section
variable {w : World} {P : List Value} {cs es : List Int} {v : Value} {k : Nat} {wr : World}
theorem FlS.on {w3 : World} (h : FlS w P cs es v k wr) (hb : Below wr.heap.size wr w3) : FlS w P cs es v k w3 := ⟨Below.on h.be hb, h.b2.on hb, h.b3.on hb, own_below h.ow hb⟩
theorem FlS.pass (h : FlS w P cs es v k wr) (hc : clash cs (nth es k) = false) : FlS w P cs es v (k + 1) wr := ⟨h.be, h.b2, h.b3, by rw [flsTo_no hc]; exact h.ow⟩
theorem FlS.app {w4 : World} {v' : Value} (h : FlS w P cs es v k wr) (hc : clash cs (nth es k) = true) (o : Own w4 (w.heap.size + 2) v' (flsTo cs es k ++ [nth es k])) (g : wr.grownBy w4 v.ownBlock) : FlS w P cs es v' (k + 1) w4 := by
  have hlt := h.ow.lt
  refine ⟨h.be.grown g h.be.size fun q e => by have := (hlt q e).1; omega, ?_, ?_, by rw [flsTo_yes hc]; exact o⟩
  · have hl := h.b2.lt
    obtain ⟨T, hT⟩ := h.b2
    exact ⟨T, by rw [g.block _ hl fun e => by have := (hlt _ e.symm).1; omega]; exact hT⟩
  · have hl := h.b3.lt
    obtain ⟨T, hT⟩ := h.b3
    exact ⟨T, by rw [g.block _ hl fun e => by have := (hlt _ e.symm).1; omega]; exact hT⟩
end

set_option maxRecDepth 20000 in
set_option maxHeartbeats 3200000 in
theorem ifl_any (p : Int) (v : Value) (es cs : List Int) (x0 x1 x2 x3 x4 : Int) (w : World) (h : Ints w v es) (hg : Gk p es) (hF : five cs = [.int .i64 x0, .int .i64 x1, .int .i64 x2, .int .i64 x3, .int .i64 x4]) :
    Calls Tryd.prog 61 #[.agg #[.int .i64 p, v], .agg #[.int .i64 x0, .int .i64 x1, .int .i64 x2, .int .i64 x3, .int .i64 x4]] w (LsPost (fls cs es) w) := by
  obtain ⟨a, c, rfl, k1⟩ := h.opened
  have hm1 := k1.max
  have HC := Lib.hid (show ∀ j, j < es.length → ∃ G, a = some ⟨G, 0, none⟩ ∧ ∀ w', Below w.heap.size w w' → w'.cell? ⟨G, j, none⟩ = some (.int .i64 (nth es j)) from fun j hj => by
    obtain ⟨G, e1, hl, e2⟩ := k1.get j hj
    exact ⟨G, e1, fun w' hb => (hb.cell (p := ⟨G, j, none⟩) hl).trans e2⟩)
  have HE := Lib.hid (show ∀ j, j < es.length → ∃ A B : Nat, (nth es j).tdiv 10 = (A : Int) ∧ (nth es j).tmod 10 = (B : Int) ∧ A < 5 ∧ B < 5 ∧ intIn (nth es j) ∧ clash cs (nth es j) = decide (nth cs A = nth cs B) from fun j hj => by
    have e := hg.ed j hj
    have h5 := hg.p5
    have := e.a0
    have := e.ab
    have := e.bp
    have := e.pos
    have := e.lt h5
    exact ⟨((nth es j).tdiv 10).toNat, ((nth es j).tmod 10).toNat, by omega, by omega, by omega, by omega, ⟨by omega, by omega⟩, rfl⟩)
  obtain ⟨n, hn⟩ : ∃ n, es.length = n := ⟨_, rfl⟩
  have HNL := Lib.hid hn
  have HFW := Lib.hid (hg.few)
  obtain ⟨b0, b1, bl⟩ := boxes2 (w := w) (P := [.int .i64 p, .slice a es.length c]) (R := [.int .i64 x0, .int .i64 x1, .int .i64 x2, .int .i64 x3, .int .i64 x4]) (T1 := 25) (T2 := 67) (Below.refl _ _)
  have S0 := Lib.hid (show FlS w [.int .i64 p, .slice a es.length c] cs es (.slice none 0 0) 0 ((w.alloc (.cells #[.int .i64 p, .slice a es.length c] 25)).alloc (.cells #[.int .i64 x0, .int .i64 x1, .int .i64 x2, .int .i64 x3, .int .i64 x4] 67)) from ⟨bl, b0, by rw [hF]; exact b1, World.ownsRow_nil _ _ _ _⟩)
  rw [hn] at hm1 HC HE HFW S0 ⊢
  rw [hn] at b0
  have s0 := b0.cell 0
  have s1 := b0.cell 1
  simp at s0 s1
  unfold maxLen at hm1
  clear h k1 b0 b1 bl hn hF hg
  go_enter Tryd.func61, Tryd.ntmps61
  go_wp2
  clear s0 s1
  go_loopw [5, 13] (fun v i wr => ∃ k : Nat, k ≤ n ∧ i = .int .i64 k ∧ Hid (FlS w [.int .i64 p, .slice a n c] cs es v k wr)) (fun _ i _ => n - (intOf i).toNat)
  case atStart => exact ⟨0, by omega, rfl, S0⟩
  case round =>
    obtain ⟨k, hk, rfl, hS⟩ := hrel
    obtain ⟨wo, rfl⟩ : ∃ wo : World, wo = wr := ⟨_, rfl⟩
    clear S0
    by_cases hlt : k < n
    · obtain ⟨G, rfl, hck⟩ := HC.out k hlt
      obtain ⟨A, B, eA, eB, A5, B5, hin, hcl⟩ := HE.out k hlt
      obtain ⟨x, hx⟩ : ∃ x, nth es k = x := ⟨_, rfl⟩
      have HXK := Lib.hid hx
      rw [hx] at hck eA eB hin hcl
      have c1 := hck _ hS.out.be
      have HQA := Lib.hid (show IntKind.wrap .i64 (x.tdiv 10) = (A : Int) from by rw [eA]; exact IntWalk.i64_in _ (by omega))
      have HQB := Lib.hid eB
      have HCL := Lib.hid hcl
      have hlt1 : (k : Int) < (n : Int) := by omega
      clear hx hck eA eB hin hcl
      go_wp2_with fail
      refine (ends_any x A B _ HQA.out HQB.out).mono ?_
      rintro e w1 ⟨rfl, rfl⟩
      clear c1
      have hA0 : (A : Int) < 5 := by omega
      have hB0 : (B : Int) < 5 := by omega
      have SD : Hid (FlS w [.int .i64 p, .slice (some ⟨G, 0, none⟩) n c] cs es u5 k w1.drew) := Lib.hid (hS.out.on (Below.refl _ _).drew)
      obtain ⟨ya, hya⟩ : ∃ y, nth cs A = y := ⟨_, rfl⟩
      obtain ⟨yb, hyb⟩ : ∃ y, nth cs B = y := ⟨_, rfl⟩
      have HYA := Lib.hid hya
      have HYB := Lib.hid hyb
      have HCD : Hid (clash cs (nth es k) = decide (ya = yb)) := Lib.hid (by rw [HXK.out, HCL.out, HYA.out, HYB.out])
      clear hya hyb hS
      by_cases hd : ya = yb
      · subst hd
        have hdd : (ya == ya) = true := by simp
        go_wp2_with fail
        refine wp_region_cls (C := fun w' => Hid (FlS w [.int .i64 p, .slice (some ⟨G, 0, none⟩) n c] cs es u5 k w')) (by kernel_rfl) (by kernel_rfl) SD ?_
        repeat (first | go_big_quiet_skip | (go_big_quiet_want; go_big_quiet_op; first | go_big_quiet_on | (refine ⟨_, fun _ _ => rfl, ?_⟩; go_big_quiet_on)))
        go_big_quiet_want
        go_big_quiet_op
        refine ⟨.int .i64 ya, fun w' hw' => ?_, ?_⟩
        · have q := hw'.out.b3.col A5
          rw [HYA.out] at q
          simp [go_sem, q]
        go_big_quiet_on
        repeat (first | go_big_quiet_skip | (go_big_quiet_want; go_big_quiet_op; first | go_big_quiet_on | (refine ⟨_, fun _ _ => rfl, ?_⟩; go_big_quiet_on)))
        go_big_quiet_want
        go_big_quiet_op
        refine ⟨.int .i64 ya, fun w' hw' => ?_, ?_⟩
        · have q := hw'.out.b3.col B5
          rw [HYB.out] at q
          simp [go_sem, q]
        go_big_quiet_on
        repeat (first | go_big_quiet_skip | (go_big_quiet_want; go_big_quiet_op; first | go_big_quiet_on | (refine ⟨_, fun _ _ => rfl, ?_⟩; go_big_quiet_on)))
        refine wpQuiet_nil ?_
        intro w3 hw3
        clear SD
        have ov := hw3.out.ow
        have oz : w.heap.size + 2 ≤ w3.heap.size := by have := hw3.out.b3.lt; omega
        have hll : (flsTo cs es k).length < 1000000000 := by have := flsTo_len cs es k; have := HFW.out; omega
        go_wp2_with (at_builtin; refine wpAppInt rfl _ _ rfl rfl ov hll oz rfl ?_)
        intro v2 w4 o2 g2 _
        have S4 : Hid (FlS w [.int .i64 p, .slice (some ⟨G, 0, none⟩) n c] cs es v2 (k + 1) w4) := Lib.hid (hw3.out.app (by rw [HCD.out]; simp) (by rw [HXK.out]; exact o2) g2)
        clear ov oz hll o2 g2 hw3
        go_wp2
        go_roundw
        case rel => exact ⟨k + 1, by omega, by go_num, S4⟩
        case measure => simp [intOf]; omega
      · have hdd : (ya == yb) = false := by simp [hd]
        go_wp2_with fail
        refine wp_region_cls (C := fun w' => Hid (FlS w [.int .i64 p, .slice (some ⟨G, 0, none⟩) n c] cs es u5 k w')) (by kernel_rfl) (by kernel_rfl) SD ?_
        repeat (first | go_big_quiet_skip | (go_big_quiet_want; go_big_quiet_op; first | go_big_quiet_on | (refine ⟨_, fun _ _ => rfl, ?_⟩; go_big_quiet_on)))
        go_big_quiet_want
        go_big_quiet_op
        refine ⟨.int .i64 ya, fun w' hw' => ?_, ?_⟩
        · have q := hw'.out.b3.col A5
          rw [HYA.out] at q
          simp [go_sem, q]
        go_big_quiet_on
        repeat (first | go_big_quiet_skip | (go_big_quiet_want; go_big_quiet_op; first | go_big_quiet_on | (refine ⟨_, fun _ _ => rfl, ?_⟩; go_big_quiet_on)))
        go_big_quiet_want
        go_big_quiet_op
        refine ⟨.int .i64 yb, fun w' hw' => ?_, ?_⟩
        · have q := hw'.out.b3.col B5
          rw [HYB.out] at q
          simp [go_sem, q]
        go_big_quiet_on
        repeat (first | go_big_quiet_skip | (go_big_quiet_want; go_big_quiet_op; first | go_big_quiet_on | (refine ⟨_, fun _ _ => rfl, ?_⟩; go_big_quiet_on)))
        refine wpQuiet_nil ?_
        intro w3 hw3
        clear SD
        have S4 : Hid (FlS w [.int .i64 p, .slice (some ⟨G, 0, none⟩) n c] cs es u5 (k + 1) w3) := Lib.hid (hw3.out.pass (by rw [HCD.out]; simp [hd]))
        clear hw3 hd
        go_wp2
        go_roundw
        case rel => exact ⟨k + 1, by omega, by go_num, S4⟩
        case measure => simp [intOf]; omega
    · obtain rfl : k = n := by omega
      have HX : Hid (flsTo cs es k = fls cs es) := Lib.hid (by unfold fls; rw [HNL.out])
      go_wp2
      go_ret
      exact ⟨_, rfl, by rw [← HX.out]; exact own_mono hS.out.ow (by omega), hS.out.be⟩

/-! ### painted -/
/-- painted, between two rounds: the colours painted so far. -/
def pntTo (o cs : List Int) (k : Nat) : List Int := thenTo cs o k ++ cs.drop k
theorem pntTo_nth {o cs : List Int} {k j : Nat} : nth (pntTo o cs k) j = if j < k then app o (nth cs j) else nth cs j := by
  unfold pntTo nth
  rw [List.getD_eq_getElem?_getD, List.getElem?_append]
  by_cases e : j < k
  · rw [if_pos e, if_pos (by rw [thenTo_len]; exact e), ← List.getD_eq_getElem?_getD]
    exact thenTo_nth cs o k j e
  · rw [if_neg e, if_neg (by rw [thenTo_len]; exact e), thenTo_len, List.getElem?_drop, List.getD_eq_getElem?_getD]
    congr 2; omega
structure PnS (w : World) (o cs : List Int) (k : Nat) (wr : World) : Prop where
  be : Below w.heap.size w wr
  bc : Box wr w.heap.size (five (pntTo o cs k))
  br : Box wr (w.heap.size + 1) (five [])
theorem PnS.put {w : World} {o cs : List Int} {k : Nat} {wr : World} (h : PnS w o cs k wr) (h5 : k < 5) : PnS w o cs (k + 1) (wr.setCell ⟨w.heap.size, k, none⟩ (.int .i64 (app o (nth cs k)))) := by
  refine ⟨h.be.setCell (p := ⟨w.heap.size, k, none⟩) (Nat.le_refl _) _, ?_, h.br.far (by omega) _⟩
  have := h.bc.set k (.int .i64 (app o (nth cs k)))
  rwa [five_set (ds := pntTo o cs (k + 1)) h5 fun j _ => by
    rw [pntTo_nth, pntTo_nth]
    by_cases e : j = k
    · subst e; simp
    · rw [if_neg e]
      by_cases e2 : j < k
      · rw [if_pos e2, if_pos (by omega)]
      · rw [if_neg e2, if_neg (by omega)]] at this
def PnPost (xs : List Int) (w : World) (e : Ending) (w' : World) : Prop := e = .returned (.agg (five xs).toArray) ∧ Below w.heap.size w w'
theorem pntTo_zero {o cs : List Int} : pntTo o cs 0 = cs := by simp [pntTo, thenTo]
theorem pntTo_all {o cs : List Int} : pntTo o cs cs.length = thn cs o := by simp [pntTo, thn]

set_option maxRecDepth 20000 in
set_option maxHeartbeats 3200000 in
theorem ipn_any (n : Nat) (ov : Value) (o cs : List Int) (x0 x1 x2 x3 x4 : Int) (w : World) (h : Ints w ov o) (hl : cs.length = n) (h5 : n ≤ 5) (hF : five cs = [.int .i64 x0, .int .i64 x1, .int .i64 x2, .int .i64 x3, .int .i64 x4]) (ho : ∀ j, j < n → 0 ≤ nth cs j ∧ nth cs j < (o.length : Int)) :
    Calls Tryd.prog 66 #[.agg #[.int .i64 x0, .int .i64 x1, .int .i64 x2, .int .i64 x3, .int .i64 x4], .int .i64 n, ov] w (PnPost (thn cs o) w) := by
  obtain ⟨a, c, rfl, k1⟩ := h.opened
  have hm1 := k1.max
  have HC := Lib.hid (show ∀ j, j < n → ∃ G X, a = some ⟨G, 0, none⟩ ∧ nth cs j = ((X : Nat) : Int) ∧ X < o.length ∧ ∀ w', Below w.heap.size w w' → w'.cell? ⟨G, X, none⟩ = some (.int .i64 (app o (nth cs j))) from fun j hj => by
    have hb := ho j hj
    obtain ⟨G, e1, hl, e2⟩ := k1.get (nth cs j).toNat (by omega)
    exact ⟨G, (nth cs j).toNat, e1, by omega, by omega, fun w' hb => (hb.cell (p := ⟨G, (nth cs j).toNat, none⟩) hl).trans e2⟩)
  obtain ⟨b0, b1, bl⟩ := boxes2 (w := w) (P := [.int .i64 x0, .int .i64 x1, .int .i64 x2, .int .i64 x3, .int .i64 x4]) (R := [.int .i64 0, .int .i64 0, .int .i64 0, .int .i64 0, .int .i64 0]) (T1 := 67) (T2 := 67) (Below.refl _ _)
  have S0 := Lib.hid (show PnS w o cs 0 ((w.alloc (.cells #[.int .i64 x0, .int .i64 x1, .int .i64 x2, .int .i64 x3, .int .i64 x4] 67)).alloc (.cells #[.int .i64 0, .int .i64 0, .int .i64 0, .int .i64 0, .int .i64 0] 67)) from ⟨bl, by rw [pntTo_zero, hF]; exact b0, b1⟩)
  obtain ⟨m, hm⟩ : ∃ m, o.length = m := ⟨_, rfl⟩
  rw [hm] at hm1 HC ⊢
  unfold maxLen at hm1
  have HL := Lib.hid hl
  clear h k1 b0 b1 bl hm ho hl hF
  go_enter Tryd.func66, Tryd.ntmps66
  go_wp2
  go_loopw [9] (fun i wr => ∃ k : Nat, k ≤ n ∧ i = .int .i64 k ∧ Hid (PnS w o cs k wr)) (fun i _ => n - (intOf i).toNat)
  case atStart => exact ⟨0, by omega, rfl, S0⟩
  case round =>
    obtain ⟨k, hk, rfl, hS⟩ := hrel
    obtain ⟨wo, rfl⟩ : ∃ wo : World, wo = wr := ⟨_, rfl⟩
    clear S0
    by_cases hlt : k < n
    · obtain ⟨G, X, rfl, hX, hXm, hck⟩ := HC.out k hlt
      have c1 := hck _ hS.out.be
      have z0 := hS.out.bc.col (k := k) (by omega)
      have z1 := hS.out.bc.frozen k
      rw [pntTo_nth, if_neg (by omega), hX] at z0
      have SN := hS.out.put (by omega)
      obtain ⟨y, hy⟩ : ∃ y, app o (nth cs k) = y := ⟨_, rfl⟩
      rw [hy] at c1 SN
      have S1 := Lib.hid SN
      have k5 : (k : Int) < 5 := by omega
      have hlt1 : (k : Int) < (n : Int) := by omega
      have hXm1 : (X : Int) < (m : Int) := by omega
      clear hX hck hy SN hS
      go_wp2
      go_roundw
      case rel => exact ⟨k + 1, by omega, by go_num, S1⟩
      case measure => simp [intOf]; omega
    · obtain rfl : k = n := by omega
      have hT : pntTo o cs k = thn cs o := by rw [← HL.out]; exact pntTo_all
      have q := hS.out.br
      have r0 := q.cell 0
      have r1 := q.cell 1
      have r2 := q.cell 2
      have r3 := q.cell 3
      have r4 := q.cell 4
      simp [five, nth] at r0 r1 r2 r3 r4
      have f0 := q.frozen 0
      have f1 := q.frozen 1
      have f2 := q.frozen 2
      have f3 := q.frozen 3
      have f4 := q.frozen 4
      have q2 := hS.out.bc
      rw [hT] at q2
      have s0 := q2.col (k := 0) (by omega)
      have s1 := q2.col (k := 1) (by omega)
      have s2 := q2.col (k := 2) (by omega)
      have s3 := q2.col (k := 3) (by omega)
      have s4 := q2.col (k := 4) (by omega)
      obtain ⟨y0, hy0⟩ : ∃ x, nth (thn cs o) 0 = x := ⟨_, rfl⟩
      rw [hy0] at s0
      obtain ⟨y1, hy1⟩ : ∃ x, nth (thn cs o) 1 = x := ⟨_, rfl⟩
      rw [hy1] at s1
      obtain ⟨y2, hy2⟩ : ∃ x, nth (thn cs o) 2 = x := ⟨_, rfl⟩
      rw [hy2] at s2
      obtain ⟨y3, hy3⟩ : ∃ x, nth (thn cs o) 3 = x := ⟨_, rfl⟩
      rw [hy3] at s3
      obtain ⟨y4, hy4⟩ : ∃ x, nth (thn cs o) 4 = x := ⟨_, rfl⟩
      rw [hy4] at s4
      have HF : Hid (five (thn cs o) = [.int .i64 y0, .int .i64 y1, .int .i64 y2, .int .i64 y3, .int .i64 y4]) := Lib.hid (by unfold five; rw [hy0, hy1, hy2, hy3, hy4])
      clear q q2 hT hy0 hy1 hy2 hy3 hy4
      go_wp2
      refine bodyPost_ret (v := .agg #[.int .i64 y0, .int .i64 y1, .int .i64 y2, .int .i64 y3, .int .i64 y4]) ?_ rfl ?_
      · simp [results, Tryd.results66, go_sem, r0, r1, r2, r3, r4]
      · exact ⟨by rw [HF.out], below_set5 hS.out.be (by omega)⟩

/-! ### coloursIn -/
theorem cut5 {w : World} {N : Nat} {cs : List Int} {n : Nat} (h : Box w N (five cs)) (h5 : n ≤ 5) (hl : cs.length = n) : Ints w (.slice (some ⟨N, 0, none⟩) n 5) cs := by
  subst hl
  exact .inr ⟨N, 5, rfl, by unfold maxLen; omega, h.lt, fun j hj => h.col (by omega)⟩
theorem icin_any (n : Nat) (cs : List Int) (x0 x1 x2 x3 x4 : Int) (w : World) (hl : cs.length = n) (h5 : n ≤ 5) (hF : five cs = [.int .i64 x0, .int .i64 x1, .int .i64 x2, .int .i64 x3, .int .i64 x4]) :
    Calls Tryd.prog 65 #[.agg #[.int .i64 x0, .int .i64 x1, .int .i64 x2, .int .i64 x3, .int .i64 x4], .int .i64 n] w (LsPost cs w) := by
  have b0 := Box.made w [.int .i64 x0, .int .i64 x1, .int .i64 x2, .int .i64 x3, .int .i64 x4] 67
  have HI : Hid (Ints (w.alloc (.cells #[.int .i64 x0, .int .i64 x1, .int .i64 x2, .int .i64 x3, .int .i64 x4] 67)) (.slice (some ⟨w.heap.size, 0, none⟩) n 5) cs) := Lib.hid (cut5 (by rw [hF]; exact b0) h5 hl)
  have HL := Lib.hid hl
  have n5 : (n : Int) ≤ 5 := by omega
  have hBW := Lib.hid (below_grow w (.cells #[.int .i64 x0, .int .i64 x1, .int .i64 x2, .int .i64 x3, .int .i64 x4] 67))
  clear b0 hl hF
  go_enter Tryd.func65, Tryd.ntmps65
  go_wp2_with fail
  refine (iclone_any _ cs _ HI.out (by rw [HL.out]; omega)).mono ?_
  rintro e w1 ⟨v, rfl, o1, hb⟩
  have O1 := Lib.hid (own_mono o1 hBW.out.size)
  have B1 := Lib.hid (Below.on hBW.out hb)
  clear o1 hb
  go_wp2
  go_ret
  exact ⟨_, rfl, O1.out, B1.out⟩
end Go.Proofs.YtimkmdedoacpfabDoor
