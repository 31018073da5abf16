/- spec: l8Fits, FailsOf, Coloured, Painted. -/
import Derived.Test.YtimkmdedoacpfabDoorColP
import Derived.Test.YtimkmdedoacpfabDoorBtwS
import Derived.Test.YtimkmdedoacpfabDoorCapB
import Derived.Test.YtimkmdedoacpfabDoorBSol
import Derived.Deep.Cut
namespace Go.Proofs.YtimkmdedoacpfabDoor
open Go.RowKit

theorem c3_no {cs : List Int} {k : Nat} (hk : k < cs.length) (h : ¬ (0 ≤ nth cs k ∧ nth cs k ≤ 2)) : c3B cs = false := by
  cases hb : c3B cs
  · rfl
  · exact absurd (c3B_true.1 hb k hk) h
set_option maxRecDepth 20000 in
set_option maxHeartbeats 3200000 in
theorem sfit_any (p : Int) (v u : Value) (es cs : List Int) (w : World) (h : Ints w v es) (k : Ints w u cs) (hp : intIn p) (hs : ∀ j, j < es.length → intIn (nth es j)) : Calls Tryd.prog 62 #[.agg #[.int .i64 p, v], u] w fun e w' => e = .returned (.bool (fitB p es cs)) ∧ Below w.heap.size w w' := by
  obtain ⟨ua, uc, rfl, k1⟩ := k.opened
  have hm1 := k1.max
  have HC := Lib.hid (show ∀ j, j < cs.length → ∃ G, ua = some ⟨G, 0, none⟩ ∧ ∀ w', Below w.heap.size w w' → w'.cell? ⟨G, j, none⟩ = some (.int .i64 (nth cs j)) from fun j hj => by
    obtain ⟨G, e1, hl, e2⟩ := k1.get j hj
    exact ⟨G, e1, fun w' hb => (hb.cell (p := ⟨G, j, none⟩) hl).trans e2⟩)
  have HG := Lib.hid (show ∀ w', Below w.heap.size w w' → Ints w' v es from fun w' hb => h.below hb)
  have HS := Lib.hid hs
  have HP := Lib.hid hp
  obtain ⟨n, hn⟩ : ∃ n, cs.length = n := ⟨_, rfl⟩
  have HN := Lib.hid (show ∀ j, j < n → ¬ (0 ≤ nth cs j ∧ nth cs j ≤ 2) → fitB p es cs = false from fun j hj hne => by unfold fitB; rw [c3_no (by rw [hn]; exact hj) hne]; simp)
  have HY := Lib.hid (show (∀ j, j < n → 0 ≤ nth cs j ∧ nth cs j ≤ 2) → fitB p es cs = (gkB p es && decide ((n : Int) = p)) from fun hh => by
    unfold fitB; rw [c3B_true.2 (by rw [hn]; exact hh), hn]; simp)
  rw [hn] at hm1 HC ⊢
  unfold maxLen at hm1
  have I0 := Lib.hid (InB.start w [.int .i64 p, v] 25)
  clear h k k1 hn hs hp
  go_enter Tryd.func62, Tryd.ntmps62
  go_wp2
  go_loopw [5] (fun i wr => ∃ k : Nat, k ≤ n ∧ i = .int .i64 k ∧ Hid (∀ j, j < k → 0 ≤ nth cs j ∧ nth cs j ≤ 2) ∧ Hid (InB w [.int .i64 p, v] 25 wr)) (fun i _ => n - (intOf i).toNat)
  case atStart => exact ⟨0, by omega, rfl, Lib.hid (fun j hj => by omega), I0⟩
  case round =>
    obtain ⟨k, hk, rfl, hO, hI⟩ := hrel
    obtain ⟨wo, rfl⟩ : ∃ wo : World, wo = wr := ⟨_, rfl⟩
    clear I0
    by_cases hlt : k < n
    · obtain ⟨G, rfl, hck⟩ := HC.out k hlt
      obtain ⟨x, hx⟩ : ∃ x, nth cs k = x := ⟨_, rfl⟩
      have HXK := Lib.hid hx
      rw [hx] at hck
      have c1 := hck _ hI.out.fin
      have hlt1 : (k : Int) < (n : Int) := by omega
      clear hx hck
      by_cases hin : 0 ≤ x ∧ x ≤ 2
      · have hd : (decide (0 ≤ x) && decide (x ≤ 2)) = true := by simp; omega
        have HJ : Hid (∀ j, j < k + 1 → 0 ≤ nth cs j ∧ nth cs j ≤ 2) := Lib.hid (fun j hj => by
          by_cases e : j < k
          · exact hO.out j e
          · obtain rfl : j = k := by omega
            rw [HXK.out]; exact hin)
        clear hin
        go_wp2_with fail
        refine (l1In_tb hd _).mono ?_
        rintro e w2 ⟨rfl, rfl⟩
        clear hd c1
        go_wp2
        go_roundw
        case rel => exact ⟨k + 1, by omega, by go_num, HJ, hI⟩
        case measure => simp [intOf]; omega
      · have hd : (decide (0 ≤ x) && decide (x ≤ 2)) = false := by simp; omega
        have HX := Lib.hid (HN.out k hlt (by rw [HXK.out]; exact hin))
        clear hin
        go_wp2_with fail
        refine (l1In_tb hd _).mono ?_
        rintro e w2 ⟨rfl, rfl⟩
        clear hd c1
        go_wp2
        go_ret
        exact ⟨by rw [HX.out]; rfl, hI.out.fin⟩
    · obtain rfl : k = n := by omega
      have HX := Lib.hid (HY.out hO.out)
      have b0 := hI.out.box.cell 0
      have b1 := hI.out.box.cell 1
      simp at b0 b1
      cases hg : gkB p es
      · have HZ := Lib.hid (show fitB p es cs = false by rw [HX.out, hg]; rfl)
        go_wp2_with fail
        refine (sgk_is hg (HG.out _ hI.out.fin) HP.out HS.out).mono ?_
        rintro e w1 ⟨rfl, hb⟩
        have B1 := Lib.hid (Below.on hI.out.fin hb)
        clear hb b0 b1 hg
        go_wp2
        go_ret
        exact ⟨by rw [HZ.out]; rfl, B1.out⟩
      · have HZ := Lib.hid (show fitB p es cs = decide ((k : Int) = p) by rw [HX.out, hg]; rfl)
        go_wp2_with fail
        refine (sgk_is hg (HG.out _ hI.out.fin) HP.out HS.out).mono ?_
        rintro e w1 ⟨rfl, hb⟩
        have B1 := Lib.hid (Below.on hI.out.fin hb)
        have r0 := (hI.out.box.on hb).cell 0
        simp at r0
        clear hb b0 b1 hg
        by_cases hp : (k : Int) = p
        · have HW := Lib.hid (show fitB p es cs = true by rw [HZ.out]; simpa using hp)
          have hd : ((k : Int) == p) = true := by simpa using hp
          clear hp
          go_wp2
          go_ret
          exact ⟨by rw [HW.out]; rfl, B1.out⟩
        · have HW := Lib.hid (show fitB p es cs = false by rw [HZ.out]; simpa using hp)
          have hd : ((k : Int) == p) = false := by simpa using hp
          clear hp
          go_wp2
          go_ret
          exact ⟨by rw [HW.out]; rfl, B1.out⟩
theorem sfit_is {p : Int} {v u : Value} {es cs : List Int} {w : World} {r : Bool} (hr : fitB p es cs = r) (h : Ints w v es) (k : Ints w u cs) (hp : intIn p) (hs : ∀ j, j < es.length → intIn (nth es j)) : Calls Tryd.prog 62 #[.agg #[.int .i64 p, v], u] w fun e w' => e = .returned (.bool r) ∧ Below w.heap.size w w' := by rw [← hr]; exact sfit_any p v u es cs w h k hp hs

def SfPost (p : Int) (es cs : List Int) (w : World) (e : Ending) (w' : World) : Prop := ∃ v, e = .returned (.tuple #[v, .bool (fitB p es cs)]) ∧ Own w' w.heap.size v (foL p es cs) ∧ Below w.heap.size w w'
/-- FailsOf, between two rounds. -/
structure FsS (w : World) (P : List Value) (cs es : List Int) (v : Value) (k : Nat) (wr : World) : Prop where
  be : Below w.heap.size w wr
  b2 : Box wr w.heap.size P
  ow : Own wr (w.heap.size + 1) v (flsTo cs es k)
section
variable {w : World} {P : List Value} {cs es : List Int} {v : Value} {k : Nat} {wr : World}
theorem FsS.on {w3 : World} (h : FsS w P cs es v k wr) (hb : Below wr.heap.size wr w3) : FsS w P cs es v k w3 := ⟨Below.on h.be hb, h.b2.on hb, own_below h.ow hb⟩
theorem FsS.pass (h : FsS w P cs es v k wr) (hc : clash cs (nth es k) = false) : FsS w P cs es v (k + 1) wr := ⟨h.be, h.b2, by rw [flsTo_no hc]; exact h.ow⟩
theorem FsS.app {w4 : World} {v' : Value} (h : FsS w P cs es v k wr) (hc : clash cs (nth es k) = true) (o : Own w4 (w.heap.size + 1) v' (flsTo cs es k ++ [nth es k])) (g : wr.grownBy w4 v.ownBlock) : FsS w P cs es v' (k + 1) w4 := by
  have hlt := h.ow.lt
  refine ⟨h.be.grown g h.be.size fun q e => by have := (hlt q e).1; omega, ?_, by rw [flsTo_yes hc]; exact o⟩
  have hl := h.b2.lt
  obtain ⟨T, hT⟩ := h.b2
  exact ⟨T, by rw [g.block _ hl fun e => by have := (hlt _ e.symm).1; omega]; exact hT⟩
end

set_option maxRecDepth 20000 in
set_option maxHeartbeats 6400000 in
theorem sfo_any (p : Int) (v u : Value) (es cs : List Int) (w : World) (h : Ints w v es) (k : Ints w u cs) (hp : intIn p) (hs : ∀ j, j < es.length → intIn (nth es j)) : Calls Tryd.prog 17 #[.agg #[.int .i64 p, v], u] w (SfPost p es cs w) := by
  obtain ⟨a, c, rfl, h1⟩ := h.opened
  obtain ⟨ua, uc, rfl, k1⟩ := k.opened
  have hm1 := h1.max
  have hm2 := k1.max
  have HK := Lib.hid (show ∀ j, j < cs.length → ∃ G, ua = some ⟨G, 0, none⟩ ∧ ∀ w', Below w.heap.size w w' → w'.cell? ⟨G, j, none⟩ = some (.int .i64 (nth cs j)) from fun j hj => by
    obtain ⟨G, e1, hl, e2⟩ := k1.get j hj
    exact ⟨G, e1, fun w' hb => (hb.cell (p := ⟨G, j, none⟩) hl).trans e2⟩)
  have HC := Lib.hid (show ∀ j, j < es.length → ∃ G, a = some ⟨G, 0, none⟩ ∧ ∀ w', Below w.heap.size w w' → w'.cell? ⟨G, j, none⟩ = some (.int .i64 (nth es j)) from fun j hj => by
    obtain ⟨G, e1, hl, e2⟩ := h1.get j hj
    exact ⟨G, e1, fun w' hb => (hb.cell (p := ⟨G, j, none⟩) hl).trans e2⟩)
  have HS := Lib.hid hs
  have HP := Lib.hid hp
  obtain ⟨n, hn⟩ : ∃ n, es.length = n := ⟨_, rfl⟩
  obtain ⟨m, hm⟩ : ∃ m, cs.length = m := ⟨_, rfl⟩
  have HNL := Lib.hid hn
  have HML := Lib.hid hm
  obtain ⟨b0, _, bl⟩ := boxes2 (w := w) (P := [.int .i64 p, .slice a es.length c]) (R := []) (T1 := 25) (T2 := 3) (Below.refl _ _)
  have HZ : (w.alloc (.cells #[.int .i64 p, .slice a es.length c] 25)).heap.size = w.heap.size + 1 := by simp
  have O0 := own_made' (w.alloc (.cells #[.int .i64 p, .slice a es.length c] 25))
  rw [HZ] at O0
  have HGI := Lib.hid (h.below bl)
  have HKI := Lib.hid (k.below bl)
  have S0 := Lib.hid (show FsS w [.int .i64 p, .slice a es.length c] cs es (.slice (some ⟨w.heap.size + 1, 0, none⟩) 0 0) 0 ((w.alloc (.cells #[.int .i64 p, .slice a es.length c] 25)).alloc (.cells #[] 3)) from ⟨bl, b0, O0⟩)
  rw [hn] at hm1 HC S0 HGI HKI ⊢
  rw [hm] at hm2 HK HKI ⊢
  unfold maxLen at hm1 hm2
  clear h k h1 k1 b0 bl HZ O0 hs hp
  cases hf : fitB p es cs
  · have HX := Lib.hid (foL_no hf)
    have HF := Lib.hid hf
    clear hf hn hm
    go_enter Tryd.func17, Tryd.ntmps17
    go_wp2_with fail
    refine (sfit_is HF.out HGI.out HKI.out HP.out HS.out).mono ?_
    rintro e w1 ⟨rfl, hb⟩
    have S1 := Lib.hid (S0.out.on hb)
    clear hb S0
    go_wp2
    go_ret2
    exact ⟨_, by rw [HF.out]; rfl, by rw [HX.out]; exact own_mono S1.out.ow (by omega), S1.out.be⟩
  have HX := Lib.hid (foL_yes hf)
  have HF := Lib.hid hf
  have hfit := fitB_true.1 hf
  have hg := hfit.gk
  have HFW := Lib.hid (hg.few)
  have HE := Lib.hid (show ∀ j, j < n → ∃ A B : Nat, (nth es j).tdiv 10 = (A : Int) ∧ (nth es j).tmod 10 = (B : Int) ∧ A < m ∧ B < m ∧ intIn (nth es j) ∧ clash cs (nth es j) = decide (nth cs A = nth cs B) from fun j hj => by
    have e := hg.ed j (by rw [hn]; exact hj)
    have h5 := hg.p5
    have := e.a0
    have := e.ab
    have := e.bp
    have := e.pos
    have := e.lt h5
    have := hfit.len
    exact ⟨((nth es j).tdiv 10).toNat, ((nth es j).tmod 10).toNat, by omega, by omega, by omega, by omega, ⟨by omega, by omega⟩, rfl⟩)
  rw [hn] at HFW
  clear hf hfit hg hn hm
  go_enter Tryd.func17, Tryd.ntmps17
  go_wp2_with fail
  refine (sfit_is HF.out HGI.out HKI.out HP.out HS.out).mono ?_
  rintro e w1 ⟨rfl, hb⟩
  have S1 := Lib.hid (S0.out.on hb)
  clear hb S0
  go_wp2
  go_loopw [6, 7] (fun v i wr => ∃ k : Nat, k ≤ n ∧ i = .int .i64 k ∧ Hid (FsS w [.int .i64 p, .slice a n c] cs es v k wr)) (fun _ i _ => n - (intOf i).toNat)
  case atStart => exact ⟨0, by omega, rfl, S1⟩
  case round =>
    obtain ⟨k, hk, rfl, hS⟩ := hrel
    obtain ⟨wo, rfl⟩ : ∃ wo : World, wo = wr := ⟨_, rfl⟩
    clear S1
    have s1 := hS.out.b2.cell 1
    simp at s1
    by_cases hlt : k < n
    · obtain ⟨G, rfl, hck⟩ := HC.out k hlt
      obtain ⟨A, B, eA, eB, A5, B5, hin, hcl⟩ := HE.out k hlt
      obtain ⟨GA, eGA, hca⟩ := HK.out A A5
      obtain ⟨GB, eGB, hcb⟩ := HK.out B B5
      subst eGA
      obtain rfl : GA = GB := by cases eGB; rfl
      clear eGB
      obtain ⟨x, hx⟩ : ∃ x, nth es k = x := ⟨_, rfl⟩
      obtain ⟨ya, hya⟩ : ∃ y, nth cs A = y := ⟨_, rfl⟩
      obtain ⟨yb, hyb⟩ : ∃ y, nth cs B = y := ⟨_, rfl⟩
      have HXK := Lib.hid hx
      rw [hx] at hck eA eB hin hcl
      rw [hya] at hca hcl
      rw [hyb] at hcb hcl
      have HCD : Hid (clash cs (nth es k) = decide (ya = yb)) := Lib.hid (by rw [hx]; exact hcl)
      have HCK := Lib.hid hck
      have HCA := Lib.hid hca
      have HCB := Lib.hid hcb
      have hQA : IntKind.wrap .i64 (x.tdiv 10) = (A : Int) := by rw [eA]; exact IntWalk.i64_in _ (by omega)
      have hQB := eB
      have hlt1 : (k : Int) < (n : Int) := by omega
      have hA0 : (A : Int) < (m : Int) := by omega
      have hB0 : (B : Int) < (m : Int) := by omega
      have SD : Hid (FsS w [.int .i64 p, .slice (some ⟨G, 0, none⟩) n c] cs es u6 k wo.drew) := Lib.hid (hS.out.on (Below.refl _ _).drew)
      clear hx hck eA eB hin hcl hya hyb hca hcb hS
      by_cases hd : ya = yb
      · subst hd
        have hdd : (ya == ya) = true := by simp
        go_wp2_with fail
        refine wp_region_cls (C := fun w' => Hid (FsS w [.int .i64 p, .slice (some ⟨G, 0, none⟩) n c] cs es u6 k w')) (by kernel_rfl) (by kernel_rfl) SD ?_
        repeat (first | go_big_quiet_skip | (go_big_quiet_want; go_big_quiet_op; first | go_big_quiet_on | (refine ⟨_, fun _ _ => rfl, ?_⟩; go_big_quiet_on)))
        go_big_quiet_want
        go_big_quiet_op
        refine ⟨.slice (some ⟨G, 0, none⟩) n c, fun w' hw' => ?_, ?_⟩
        · have q9 := hw'.out.b2
          have q0 := q9.cell 1
          simp at q0
          simp [go_sem, q0]
        go_big_quiet_on
        repeat (first | go_big_quiet_skip | (go_big_quiet_want; go_big_quiet_op; first | go_big_quiet_on | (refine ⟨_, fun _ _ => rfl, ?_⟩; go_big_quiet_on)))
        go_big_quiet_want
        go_big_quiet_op
        refine ⟨.int .i64 x, fun w' hw' => ?_, ?_⟩
        · have q0 := HCK.out _ hw'.out.be
          simp [go_sem, q0]
        go_big_quiet_on
        repeat (first | go_big_quiet_skip | (go_big_quiet_want; go_big_quiet_op; first | go_big_quiet_on | (refine ⟨_, fun _ _ => rfl, ?_⟩; go_big_quiet_on)))
        go_big_quiet_want
        go_big_quiet_op
        refine ⟨.int .i64 ya, fun w' hw' => ?_, ?_⟩
        · have q0 := HCA.out _ hw'.out.be
          simp [go_sem, q0]
        go_big_quiet_on
        repeat (first | go_big_quiet_skip | (go_big_quiet_want; go_big_quiet_op; first | go_big_quiet_on | (refine ⟨_, fun _ _ => rfl, ?_⟩; go_big_quiet_on)))
        go_big_quiet_want
        go_big_quiet_op
        refine ⟨.slice (some ⟨G, 0, none⟩) n c, fun w' hw' => ?_, ?_⟩
        · have q9 := hw'.out.b2
          have q0 := q9.cell 1
          simp at q0
          simp [go_sem, q0]
        go_big_quiet_on
        repeat (first | go_big_quiet_skip | (go_big_quiet_want; go_big_quiet_op; first | go_big_quiet_on | (refine ⟨_, fun _ _ => rfl, ?_⟩; go_big_quiet_on)))
        go_big_quiet_want
        go_big_quiet_op
        refine ⟨.int .i64 x, fun w' hw' => ?_, ?_⟩
        · have q0 := HCK.out _ hw'.out.be
          simp [go_sem, q0]
        go_big_quiet_on
        repeat (first | go_big_quiet_skip | (go_big_quiet_want; go_big_quiet_op; first | go_big_quiet_on | (refine ⟨_, fun _ _ => rfl, ?_⟩; go_big_quiet_on)))
        go_big_quiet_want
        go_big_quiet_op
        refine ⟨.int .i64 ya, fun w' hw' => ?_, ?_⟩
        · have q0 := HCB.out _ hw'.out.be
          simp [go_sem, q0]
        go_big_quiet_on
        repeat (first | go_big_quiet_skip | (go_big_quiet_want; go_big_quiet_op; first | go_big_quiet_on | (refine ⟨_, fun _ _ => rfl, ?_⟩; go_big_quiet_on)))
        refine wpQuiet_nil ?_
        intro w3 hw3
        clear SD
        have ov := hw3.out.ow
        have oz : w.heap.size + 1 ≤ w3.heap.size := by have := hw3.out.b2.lt; omega
        have hll : (flsTo cs es k).length < 1000000000 := by have := flsTo_len cs es k; have := HFW.out; omega
        have t1 := hw3.out.b2.cell 1
        have ck := HCK.out _ hw3.out.be
        simp at t1
        clear s1 hQA hQB
        go_wp2_with (at_builtin; refine wpAppInt rfl _ _ rfl rfl ov hll oz rfl ?_)
        intro v2 w4 o2 g2 _
        have S4 : Hid (FsS w [.int .i64 p, .slice (some ⟨G, 0, none⟩) n c] cs es v2 (k + 1) w4) := Lib.hid (hw3.out.app (by rw [HCD.out]; simp) (by rw [HXK.out]; exact o2) g2)
        clear ov oz hll o2 g2 hw3 t1 ck
        go_wp2
        go_roundw
        case rel => exact ⟨k + 1, by omega, by go_num, S4⟩
        case measure => simp [intOf]; omega
      · have hdd : (ya == yb) = false := by simp [hd]
        go_wp2_with fail
        refine wp_region_cls (C := fun w' => Hid (FsS w [.int .i64 p, .slice (some ⟨G, 0, none⟩) n c] cs es u6 k w')) (by kernel_rfl) (by kernel_rfl) SD ?_
        repeat (first | go_big_quiet_skip | (go_big_quiet_want; go_big_quiet_op; first | go_big_quiet_on | (refine ⟨_, fun _ _ => rfl, ?_⟩; go_big_quiet_on)))
        go_big_quiet_want
        go_big_quiet_op
        refine ⟨.slice (some ⟨G, 0, none⟩) n c, fun w' hw' => ?_, ?_⟩
        · have q9 := hw'.out.b2
          have q0 := q9.cell 1
          simp at q0
          simp [go_sem, q0]
        go_big_quiet_on
        repeat (first | go_big_quiet_skip | (go_big_quiet_want; go_big_quiet_op; first | go_big_quiet_on | (refine ⟨_, fun _ _ => rfl, ?_⟩; go_big_quiet_on)))
        go_big_quiet_want
        go_big_quiet_op
        refine ⟨.int .i64 x, fun w' hw' => ?_, ?_⟩
        · have q0 := HCK.out _ hw'.out.be
          simp [go_sem, q0]
        go_big_quiet_on
        repeat (first | go_big_quiet_skip | (go_big_quiet_want; go_big_quiet_op; first | go_big_quiet_on | (refine ⟨_, fun _ _ => rfl, ?_⟩; go_big_quiet_on)))
        go_big_quiet_want
        go_big_quiet_op
        refine ⟨.int .i64 ya, fun w' hw' => ?_, ?_⟩
        · have q0 := HCA.out _ hw'.out.be
          simp [go_sem, q0]
        go_big_quiet_on
        repeat (first | go_big_quiet_skip | (go_big_quiet_want; go_big_quiet_op; first | go_big_quiet_on | (refine ⟨_, fun _ _ => rfl, ?_⟩; go_big_quiet_on)))
        go_big_quiet_want
        go_big_quiet_op
        refine ⟨.slice (some ⟨G, 0, none⟩) n c, fun w' hw' => ?_, ?_⟩
        · have q9 := hw'.out.b2
          have q0 := q9.cell 1
          simp at q0
          simp [go_sem, q0]
        go_big_quiet_on
        repeat (first | go_big_quiet_skip | (go_big_quiet_want; go_big_quiet_op; first | go_big_quiet_on | (refine ⟨_, fun _ _ => rfl, ?_⟩; go_big_quiet_on)))
        go_big_quiet_want
        go_big_quiet_op
        refine ⟨.int .i64 x, fun w' hw' => ?_, ?_⟩
        · have q0 := HCK.out _ hw'.out.be
          simp [go_sem, q0]
        go_big_quiet_on
        repeat (first | go_big_quiet_skip | (go_big_quiet_want; go_big_quiet_op; first | go_big_quiet_on | (refine ⟨_, fun _ _ => rfl, ?_⟩; go_big_quiet_on)))
        go_big_quiet_want
        go_big_quiet_op
        refine ⟨.int .i64 yb, fun w' hw' => ?_, ?_⟩
        · have q0 := HCB.out _ hw'.out.be
          simp [go_sem, q0]
        go_big_quiet_on
        repeat (first | go_big_quiet_skip | (go_big_quiet_want; go_big_quiet_op; first | go_big_quiet_on | (refine ⟨_, fun _ _ => rfl, ?_⟩; go_big_quiet_on)))
        refine wpQuiet_nil ?_
        intro w3 hw3
        clear SD
        have S4 : Hid (FsS w [.int .i64 p, .slice (some ⟨G, 0, none⟩) n c] cs es u6 (k + 1) w3) := Lib.hid (hw3.out.pass (by rw [HCD.out]; simp [hd]))
        clear hw3 hd s1 hQA hQB
        go_wp2
        go_roundw
        case rel => exact ⟨k + 1, by omega, by go_num, S4⟩
        case measure => simp [intOf]; omega
    · obtain rfl : k = n := by omega
      have HW : Hid (flsTo cs es k = fls cs es) := Lib.hid (by unfold fls; rw [HNL.out])
      go_wp2
      go_ret2
      exact ⟨_, by rw [HF.out]; rfl, by rw [HX.out, ← HW.out]; exact own_mono hS.out.ow (by omega), hS.out.be⟩

theorem scd_any (p : Int) (v u : Value) (es cs : List Int) (w : World) (h : Ints w v es) (k : Ints w u cs) (hp : intIn p) (hs : ∀ j, j < es.length → intIn (nth es j)) : Calls Tryd.prog 23 #[.agg #[.int .i64 p, v], u] w fun e w' => e = .returned (.bool (cdB p es cs)) ∧ Below w.heap.size w w' := by
  have b0 := Box.made w [.int .i64 p, v] 25
  have bl := below_grow w (.cells #[.int .i64 p, v] 25)
  have HO := Lib.hid (sfo_any p v u es cs _ (h.below bl) (k.below bl) hp hs)
  have a0 := b0.cell 0
  have a1 := b0.cell 1
  simp at a0 a1
  have BL := Lib.hid bl
  clear h k hs hp b0 bl
  go_enter Tryd.func23, Tryd.ntmps23
  go_wp2_with fail
  refine HO.out.mono ?_
  rintro e w1 ⟨v1, rfl, o1, hb⟩
  have B1 := Lib.hid (Below.on BL.out hb)
  obtain ⟨a, c, rfl⟩ := Own.form o1
  clear o1 hb HO a0 a1
  cases hf : fitB p es cs
  · have HX := Lib.hid (show cdB p es cs = false by simp [cdB, hf])
    clear hf
    go_wp2
    go_ret
    exact ⟨by rw [HX.out]; rfl, B1.out⟩
  · rw [foL_yes hf]
    obtain ⟨n, hn⟩ : ∃ n, (fls cs es).length = n := ⟨_, rfl⟩
    rw [hn]
    cases n with
    | zero =>
      have HX := Lib.hid (show cdB p es cs = true by simp [cdB, hf, hn])
      clear hf hn
      go_wp2
      go_ret
      exact ⟨by rw [HX.out]; rfl, B1.out⟩
    | succ n =>
      have HX := Lib.hid (show cdB p es cs = false by simp [cdB, hn])
      have hd : ((n : Int) + 1 == 0) = false := by rw [beq_eq_false_iff_ne]; omega
      clear hf hn
      go_wp2
      go_ret
      exact ⟨by rw [HX.out]; rfl, B1.out⟩

/-! ### Painted -/
def SpPost (p : Int) (es cs o : List Int) (w : World) (e : Ending) (w' : World) : Prop := ∃ v, e = .returned v ∧ Own w' w.heap.size v (pnL p es cs o) ∧ Below w.heap.size w w'
theorem thenTo_succ (a b : List Int) (k : Nat) : thenTo a b (k + 1) = thenTo a b k ++ [app b (nth a k)] := rfl

set_option maxRecDepth 20000 in
set_option maxHeartbeats 3200000 in
theorem spt_any (p : Int) (v u ov : Value) (es cs o : List Int) (w : World) (h : Ints w v es) (k : Ints w u cs) (l : Ints w ov o) (hp : intIn p) (hs : ∀ j, j < es.length → intIn (nth es j)) : Calls Tryd.prog 31 #[.agg #[.int .i64 p, v], u, ov] w (SpPost p es cs o w) := by
  obtain ⟨ua, uc, rfl, k1⟩ := k.opened
  obtain ⟨oa, oc, rfl, l1⟩ := l.opened
  have hm1 := k1.max
  have hm2 := l1.max
  have HK := Lib.hid (show ∀ j, j < cs.length → ∃ G, ua = some ⟨G, 0, none⟩ ∧ ∀ w', Below w.heap.size w w' → w'.cell? ⟨G, j, none⟩ = some (.int .i64 (nth cs j)) from fun j hj => by
    obtain ⟨G, e1, hl, e2⟩ := k1.get j hj
    exact ⟨G, e1, fun w' hb => (hb.cell (p := ⟨G, j, none⟩) hl).trans e2⟩)
  have HO := Lib.hid (show ∀ j, j < o.length → ∃ G, oa = some ⟨G, 0, none⟩ ∧ ∀ w', Below w.heap.size w w' → w'.cell? ⟨G, j, none⟩ = some (.int .i64 (nth o j)) from fun j hj => by
    obtain ⟨G, e1, hl, e2⟩ := l1.get j hj
    exact ⟨G, e1, fun w' hb => (hb.cell (p := ⟨G, j, none⟩) hl).trans e2⟩)
  obtain ⟨b0, _, bl⟩ := boxes2 (w := w) (P := [.int .i64 p, v]) (R := []) (T1 := 25) (T2 := 3) (Below.refl _ _)
  have HZ : (w.alloc (.cells #[.int .i64 p, v] 25)).heap.size = w.heap.size + 1 := by simp
  have O0 := own_made' (w.alloc (.cells #[.int .i64 p, v] 25))
  rw [HZ] at O0
  have HGI := Lib.hid (show ∀ w', Below w.heap.size w w' → Ints w' v es from fun w' hb => h.below hb)
  have HKI := Lib.hid (show ∀ w', Below w.heap.size w w' → Ints w' (.slice ua cs.length uc) cs from fun w' hb => k.below hb)
  have HOI := Lib.hid (show ∀ w', Below w.heap.size w w' → Ints w' (.slice oa o.length oc) o from fun w' hb => l.below hb)
  have HS := Lib.hid hs
  have HP := Lib.hid hp
  obtain ⟨n, hn⟩ : ∃ n, cs.length = n := ⟨_, rfl⟩
  obtain ⟨m, hm⟩ : ∃ m, o.length = m := ⟨_, rfl⟩
  have s0 := b0.cell 0
  have s1 := b0.cell 1
  simp at s0 s1
  have BL := Lib.hid bl
  have OO := Lib.hid O0
  have HNL := Lib.hid hn
  rw [hn] at hm1 HK HKI ⊢
  rw [hm] at hm2 HO HOI ⊢
  unfold maxLen at hm1 hm2
  clear h k l k1 l1 b0 bl HZ O0 hs hp
  cases hf : fitB p es cs
  · have HX := Lib.hid (pnL_no (show pnB p es cs o = false by simp [pnB, hf]))
    have HF := Lib.hid hf
    clear hf hn hm
    go_enter Tryd.func31, Tryd.ntmps31
    go_wp2_with fail
    refine (sfit_is HF.out (HGI.out _ BL.out) (HKI.out _ BL.out) HP.out HS.out).mono ?_
    rintro e w1 ⟨rfl, hb⟩
    have O1 := Lib.hid (own_below OO.out hb)
    have B1 := Lib.hid (Below.on BL.out hb)
    clear hb s0 s1
    go_wp2
    go_ret
    exact ⟨_, rfl, by rw [HX.out]; exact own_mono O1.out (by omega), B1.out⟩
  have HF := Lib.hid hf
  cases ho : odB o 3
  · have HX := Lib.hid (pnL_no (show pnB p es cs o = false by simp [pnB, ho]))
    have HD := Lib.hid ho
    clear hf ho hn hm
    go_enter Tryd.func31, Tryd.ntmps31
    go_wp2_with fail
    refine (sfit_is HF.out (HGI.out _ BL.out) (HKI.out _ BL.out) HP.out HS.out).mono ?_
    rintro e w1 ⟨rfl, hb⟩
    have O1 := Lib.hid (own_below OO.out hb)
    have B1 := Lib.hid (Below.on BL.out hb)
    clear hb s0 s1
    go_wp2_with fail
    refine (sod_is HD.out (HOI.out _ B1.out)).mono ?_
    rintro e w2 ⟨rfl, hb⟩
    have O2 := Lib.hid (own_below O1.out hb)
    have B2 := Lib.hid (Below.on B1.out hb)
    clear hb
    go_wp2
    go_ret
    exact ⟨_, rfl, by rw [HX.out]; exact own_mono O2.out (by omega), B2.out⟩
  have HX := Lib.hid (pnL_yes (show pnB p es cs o = true by simp [pnB, hf, ho]))
  have HD := Lib.hid ho
  have HN5 : Hid (n ≤ 5) := Lib.hid (by have := (fitB_true.1 hf).len; have := (fitB_true.1 hf).gk.p5; omega)
  have HBD := Lib.hid (show ∀ j, j < n → ∃ X : Nat, nth cs j = (X : Int) ∧ X < m from fun j hj => by
    have := (fitB_true.1 hf).bd j (by rw [hn]; exact hj)
    have := (odB_true.1 ho).len
    exact ⟨(nth cs j).toNat, by omega, by omega⟩)
  clear hf ho hn hm
  go_enter Tryd.func31, Tryd.ntmps31
  go_wp2_with fail
  refine (sfit_is HF.out (HGI.out _ BL.out) (HKI.out _ BL.out) HP.out HS.out).mono ?_
  rintro e w1 ⟨rfl, hb⟩
  have O1 := Lib.hid (own_below OO.out hb)
  have B1 := Lib.hid (Below.on BL.out hb)
  clear hb s0 s1
  go_wp2_with fail
  refine (sod_is HD.out (HOI.out _ B1.out)).mono ?_
  rintro e w2 ⟨rfl, hb⟩
  have O2 : Hid (Own w2 (w.heap.size + 1) (.slice (some ⟨w.heap.size + 1, 0, none⟩) 0 0) (thenTo cs o 0)) := Lib.hid (own_below O1.out hb)
  have B2 := Lib.hid (Below.on B1.out hb)
  have Z2 : Hid (w.heap.size + 1 ≤ w2.heap.size) := Lib.hid (by have := hb.size; have := (O1.out.lt (w.heap.size + 1) rfl).2; omega)
  clear hb O1 B1 OO BL
  go_wp2
  go_loopw [7, 8] (fun v i wr => ∃ k : Nat, k ≤ n ∧ i = .int .i64 k ∧ Hid (Own wr (w.heap.size + 1) v (thenTo cs o k)) ∧ Hid (Below w.heap.size w wr) ∧ Hid (w.heap.size + 1 ≤ wr.heap.size)) (fun _ i _ => n - (intOf i).toNat)
  case atStart => exact ⟨0, by omega, rfl, O2, B2, Z2⟩
  case round =>
    obtain ⟨k, hk, rfl, hO, hB, hZ⟩ := hrel
    obtain ⟨wo, rfl⟩ : ∃ wo : World, wo = wr := ⟨_, rfl⟩
    clear O2 B2 Z2
    by_cases hlt : k < n
    · obtain ⟨G, rfl, hck⟩ := HK.out k hlt
      obtain ⟨X, hX, hXm⟩ := HBD.out k hlt
      obtain ⟨G2, rfl, hco⟩ := HO.out X hXm
      rw [hX] at hck
      have c1 := hck _ hB.out
      have c2 := hco _ hB.out
      have HEX : Hid (thenTo cs o (k + 1) = thenTo cs o k ++ [nth o X]) := Lib.hid (by rw [thenTo_succ, hX]; simp [app])
      obtain ⟨y, hy⟩ : ∃ y, nth o X = y := ⟨_, rfl⟩
      rw [hy] at c2 HEX
      have hlt1 : (k : Int) < (n : Int) := by omega
      have hXm1 : (X : Int) < (m : Int) := by omega
      have ov := hO.out
      have oz := hZ.out
      have hll : (thenTo cs o k).length < 1000000000 := by rw [thenTo_len]; have := HN5.out; omega
      clear hX hck hco hy
      go_wp2_with (at_builtin; refine wpAppInt rfl _ _ rfl rfl ov hll oz rfl ?_)
      intro v2 w4 o2 g2 _
      have O4 : Hid (Own w4 (w.heap.size + 1) v2 (thenTo cs o (k + 1))) := Lib.hid (by rw [HEX.out]; exact o2)
      have B4 := Lib.hid (hB.out.grown g2 hB.out.size fun q e => by have := (ov.lt q e).1; omega)
      have Z4 : Hid (w.heap.size + 1 ≤ w4.heap.size) := Lib.hid (by have := g2.size; omega)
      clear ov oz hll o2 g2 c1 c2 hO hB hZ
      go_wp2
      go_roundw
      case rel => exact ⟨k + 1, by omega, by go_num, O4, B4, Z4⟩
      case measure => simp [intOf]; omega
    · obtain rfl : k = n := by omega
      have HT : Hid (thenTo cs o k = thn cs o) := Lib.hid (by unfold thn; rw [HNL.out])
      go_wp2
      go_ret
      exact ⟨_, rfl, by rw [HX.out, ← HT.out]; exact own_mono hO.out (by omega), hB.out⟩
end Go.Proofs.YtimkmdedoacpfabDoor
