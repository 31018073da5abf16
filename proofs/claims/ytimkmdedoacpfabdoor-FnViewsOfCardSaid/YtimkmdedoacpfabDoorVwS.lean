/- spec.ViewsOf. -/
import Derived.Test.YtimkmdedoacpfabDoorVwI
import Derived.Test.YtimkmdedoacpfabDoorColT
namespace Go.Proofs.YtimkmdedoacpfabDoor
open Go.RowKit

def fdB (es : List Int) (e : Int) : Nat → Bool
  | 0 => false
  | k + 1 => fdB es e k || decide (nth es k = e)
theorem fdB_true {es : List Int} {e : Int} : ∀ {k : Nat}, fdB es e k = true ↔ ∃ j, j < k ∧ nth es j = e
  | 0 => by simp [fdB]
  | k + 1 => by
    rw [fdB, Bool.or_eq_true, fdB_true (k := k), decide_eq_true_eq]
    constructor
    · rintro (⟨j, hj, h⟩ | h)
      · exact ⟨j, by omega, h⟩
      · exact ⟨k, by omega, h⟩
    · rintro ⟨j, hj, h⟩
      by_cases e : j < k
      · exact .inl ⟨j, e, h⟩
      · obtain rfl : j = k := by omega
        exact .inr h
theorem fdB_in (es : List Int) (e : Int) : fdB es e es.length = inB es e := by
  rw [Bool.eq_iff_iff, fdB_true]
  constructor
  · rintro ⟨j, hj, h⟩; exact inB_yes hj h
  · intro h
    exact nth_of (inB_mem h)
/-- In the second loop. -/
structure SvI (w : World) (Ng : Nat) (a b : Int) (lo hi : Nat) (lv : Value) (us : List Value) (L : List (List Int)) (k : Nat) (wr : World) : Prop where
  be : Below w.heap.size w wr
  ov : Own wr (w.heap.size + 1) (.slice (some ⟨Ng, 0, none⟩) 9 9) (vwTo L a b k)
  ol : OwnSS wr lo hi lv us L
theorem SvI.on {w : World} {Ng : Nat} {a b : Int} {lo hi : Nat} {lv : Value} {us : List Value} {L : List (List Int)} {k : Nat} {wr w' : World} (h : SvI w Ng a b lo hi lv us L k wr) (hb : Below wr.heap.size wr w') : SvI w Ng a b lo hi lv us L k w' := ⟨Below.on h.be hb, own_below h.ov hb, h.ol.on hb⟩
theorem SvI.put {w : World} {Ng : Nat} {a b : Int} {lo hi : Nat} {lv : Value} {us : List Value} {L : List (List Int)} {k K : Nat} {wr : World} (h : SvI w Ng a b lo hi lv us L k wr) (hN : w.heap.size < Ng) (hl : Ng < lo) (hK : (3 * app (row L k) a + app (row L k) b).toNat = K) (h9 : K < 9) : SvI w Ng a b lo hi lv us L (k + 1) (wr.setCell ⟨Ng, K, none⟩ (.int .i64 (nth (vwTo L a b k) K + 1))) := by
  obtain ⟨_, o2, g2⟩ := Own.set (k := K) h.ov (vwTo_len _ _ _ _) h9 (nth (vwTo L a b k) K + 1)
  refine ⟨h.be.grown g2 h.be.size fun q e => by cases e; omega, ?_, h.ol.heap fun q h1 _ => Below.heap_setCell _ _ _ _ (by show q ≠ Ng; omega)⟩
  rw [vwTo, hK]; exact o2

set_option maxRecDepth 20000 in
set_option maxHeartbeats 6400000 in
theorem svw_any (p e : Int) (v u : Value) (es cs : List Int) (w : World) (h : Ints w v es) (k : Ints w u cs) (hp : intIn p) (hs : ∀ j, j < es.length → intIn (nth es j)) : Calls Tryd.prog 35 #[.agg #[.int .i64 p, v], u, .int .i64 e] w (VwPost p es cs e w) := by
  obtain ⟨ga, gc, rfl, h1⟩ := h.opened
  obtain ⟨ua, uc0, rfl, k1⟩ := k.opened
  have hm1 := h1.max
  have hm2 := k1.max
  have HK := Lib.hid (show ∀ j, j < cs.length → ∃ G, ua = some ⟨G, 0, none⟩ ∧ ∀ w', Below w.heap.size w w' → w'.cell? ⟨G, j, none⟩ = some (.int .i64 (nth cs j)) from fun j hj => by
    obtain ⟨G, e1, hl, e2⟩ := k1.get j hj
    exact ⟨G, e1, fun w' hb => (hb.cell (p := ⟨G, j, none⟩) hl).trans e2⟩)
  have HC := Lib.hid (show ∀ j, j < es.length → ∃ G, ga = some ⟨G, 0, none⟩ ∧ ∀ w', Below w.heap.size w w' → w'.cell? ⟨G, j, none⟩ = some (.int .i64 (nth es j)) from fun j hj => by
    obtain ⟨G, e1, hl, e2⟩ := h1.get j hj
    exact ⟨G, e1, fun w' hb => (hb.cell (p := ⟨G, j, none⟩) hl).trans e2⟩)
  have HGI := Lib.hid (show ∀ w', Below w.heap.size w w' → Ints w' (.slice ga es.length gc) es from fun w' hb => h.below hb)
  have HKI := Lib.hid (show ∀ w', Below w.heap.size w w' → Ints w' (.slice ua cs.length uc0) cs from fun w' hb => k.below hb)
  have HS := Lib.hid hs
  have HP := Lib.hid hp
  obtain ⟨n, hn⟩ : ∃ n, es.length = n := ⟨_, rfl⟩
  obtain ⟨m, hm⟩ : ∃ m, cs.length = m := ⟨_, rfl⟩
  have HNL := Lib.hid hn
  have HML := Lib.hid hm
  have HFI := Lib.hid (fdB_in es e)
  rw [hn] at hm1 HC HGI HFI ⊢
  rw [hm] at hm2 HK HKI ⊢
  unfold maxLen at hm1 hm2
  obtain ⟨b0, _, bl⟩ := boxes2 (w := w) (P := [.int .i64 p, .slice ga n gc]) (R := []) (T1 := 25) (T2 := 3) (Below.refl _ _)
  have HZ : (w.alloc (.cells #[.int .i64 p, .slice ga n gc] 25)).heap.size = w.heap.size + 1 := by simp
  have O0 := own_made' (w.alloc (.cells #[.int .i64 p, .slice ga n gc] 25))
  rw [HZ] at O0
  obtain ⟨w0, hw0⟩ : ∃ z, z = (w.alloc (.cells #[.int .i64 p, .slice ga n gc] 25)).alloc (.cells #[] 3) := ⟨_, rfl⟩
  rw [← hw0] at b0 bl O0
  have B0 := Lib.hid b0
  have BL := Lib.hid bl
  have OO := Lib.hid O0
  have HW0 := Lib.hid hw0
  have HF0 : Hid (fdB es e 0 = false) := Lib.hid rfl
  clear h k h1 k1 b0 bl HZ O0 hs hp hn hm hw0
  have hmk := run_make_row' (P := Tryd.prog) 23 3 (.int .i64 0) 8 Tryd.underlying23 infoInt rfl .i64 .i64 9 (by omega) (by omega)
  simp only [Int.cast_ofNat_Int] at hmk
  have HMK := Lib.hid hmk
  clear hmk
  go_enter Tryd.func35, Tryd.ntmps35
  go_upto_region 4 with (fail)
  rw [← HW0.out]
  go_loopw [8, 9] (fun f i wr => ∃ k : Nat, k ≤ n ∧ i = .int .i64 k ∧ f = .bool (fdB es e k) ∧ wr = w0) (fun _ i _ => n - (intOf i).toNat)
  case atStart => exact ⟨0, by omega, rfl, by rw [HF0.out], rfl⟩
  case round =>
    obtain ⟨k, hk, rfl, rfl, rfl⟩ := hrel
    have s1 := B0.out.cell 1
    simp at s1
    by_cases hlt : k < n
    · obtain ⟨G, rfl, hck⟩ := HC.out k hlt
      have c1 := hck _ BL.out
      obtain ⟨x, hx⟩ : ∃ x, nth es k = x := ⟨_, rfl⟩
      have HSX := Lib.hid (show fdB es e (k + 1) = (fdB es e k || decide (x = e)) by rw [← hx]; rfl)
      rw [hx] at c1
      have hlt1 : (k : Int) < (n : Int) := by omega
      clear hck hx
      cases hf : fdB es e k
      · by_cases hxe : x = e
        · have HN1 : Hid (fdB es e (k + 1) = true) := Lib.hid (by rw [HSX.out, hf]; simp [hxe])
          have hd : (x == e) = true := by simp [hxe]
          clear hxe hf
          go_wp2
          go_roundw
          case rel => exact ⟨k + 1, by omega, by go_num, by rw [HN1.out], trivial⟩
          case measure => simp [intOf]; omega
        · have HN1 : Hid (fdB es e (k + 1) = false) := Lib.hid (by rw [HSX.out, hf]; simp [hxe])
          have hd : (x == e) = false := by simp [hxe]
          clear hxe hf
          go_wp2
          go_roundw
          case rel => exact ⟨k + 1, by omega, by go_num, by rw [HN1.out], trivial⟩
          case measure => simp [intOf]; omega
      · have HN1 : Hid (fdB es e (k + 1) = true) := Lib.hid (by rw [HSX.out, hf]; simp)
        clear hf
        go_wp2
        go_roundw
        case rel => exact ⟨k + 1, by omega, by go_num, by rw [HN1.out], trivial⟩
        case measure => simp [intOf]; omega
    · obtain rfl : k = n := by omega
      rw [HFI.out]
      have s0 := B0.out.cell 0
      simp at s0
      cases hf : fitB p es cs
      · have HX := Lib.hid (vwL_no (show vwB p es cs e = false by simp [vwB, hf]))
        have HF := Lib.hid hf
        clear hf
        go_wp2_with fail
        refine (sfit_is HF.out (HGI.out _ BL.out) (HKI.out _ BL.out) HP.out HS.out).mono ?_
        rintro en w1 ⟨rfl, hb⟩
        have O1 := Lib.hid (own_below OO.out hb)
        have B1 := Lib.hid (Below.on BL.out hb)
        clear hb s0 s1
        go_wp2
        go_ret
        exact ⟨_, rfl, by rw [HX.out]; exact own_mono O1.out (by omega), B1.out⟩
      have HF := Lib.hid hf
      cases hi : inB es e
      · have HX := Lib.hid (vwL_no (show vwB p es cs e = false by simp [vwB, hi]))
        clear hf hi
        go_wp2_with fail
        refine (sfit_is HF.out (HGI.out _ BL.out) (HKI.out _ BL.out) HP.out HS.out).mono ?_
        rintro en w1 ⟨rfl, hb⟩
        have O1 := Lib.hid (own_below OO.out hb)
        have B1 := Lib.hid (Below.on BL.out hb)
        clear hb s0 s1
        go_wp2
        go_ret
        exact ⟨_, rfl, by rw [HX.out]; exact own_mono O1.out (by omega), B1.out⟩
      have hfit := fitB_true.1 hf
      have hed := hfit.gk.mem (inB_mem hi)
      obtain ⟨A, hA⟩ := Int.eq_ofNat_of_zero_le hed.a0
      obtain ⟨B, hB⟩ := Int.eq_ofNat_of_zero_le (show 0 ≤ e.tmod 10 by have := hed.ab; omega)
      have hm5 := hfit.gk.p5
      have hlen := hfit.len
      have hAB : A < m ∧ B < m := by have := hed.ab; have := hed.bp; have := HML.out; omega
      have hQA : IntKind.wrap .i64 (e.tdiv 10) = (A : Int) := by rw [hA]; exact IntWalk.i64_in _ (by omega)
      have hQB := hB
      have HXV : Hid (vwL p es cs e = vwTo (ords 3) (nth cs A) (nth cs B) 6) := Lib.hid (by
        rw [vwL_yes (show vwB p es cs e = true by simp [vwB, hf, hi]), hA, hB]
        have e1 : app cs (A : Int) = nth cs A := by simp [app]
        have e2 : app cs (B : Int) = nth cs B := by simp [app]
        rw [e1, e2]; rfl)
      have hcb := hfit.bd A (by rw [HML.out]; exact hAB.1)
      have hcb2 := hfit.bd B (by rw [HML.out]; exact hAB.2)
      obtain ⟨CA, hCA⟩ := Int.eq_ofNat_of_zero_le hcb.1
      obtain ⟨CB, hCB⟩ := Int.eq_ofNat_of_zero_le hcb2.1
      have hCA3 : CA < 3 := by omega
      have hCB3 : CB < 3 := by omega
      obtain ⟨GA, eGA, hca⟩ := HK.out A hAB.1
      obtain ⟨GB, eGB, hcbb⟩ := HK.out B hAB.2
      subst eGA
      obtain rfl : GA = GB := by cases eGB; rfl
      rw [hCA] at hca HXV
      rw [hCB] at hcbb HXV
      have HCA := Lib.hid hca
      have HCB := Lib.hid hcbb
      have hAi : (A : Int) < (m : Int) := by omega
      have hBi : (B : Int) < (m : Int) := by omega
      have hCAi : (CA : Int) < 3 := by omega
      have hCBi : (CB : Int) < 3 := by omega
      clear hf hi hfit hed hA hB hm5 hlen hAB hcb hcb2 hCA hCB eGB hca hcbb
      go_wp2_with fail
      refine (sfit_is HF.out (HGI.out _ BL.out) (HKI.out _ BL.out) HP.out HS.out).mono ?_
      rintro en w1 ⟨rfl, hb⟩
      have B1 := Lib.hid (Below.on BL.out hb)
      have hz1 : w.heap.size < w1.heap.size := by have := (B0.out.on hb).lt; omega
      have gm := below_grow w1 (.cells (madeCells #[.int .i64 0] 9) 3)
      have M1 := Lib.hid (own_make w1 9 (by omega))
      have B2 := Lib.hid (Below.on B1.out gm)
      have HZ2 : Hid ((w1.alloc (.cells (madeCells #[.int .i64 0] 9) 3)).heap.size = w1.heap.size + 1) := Lib.hid (by simp)
      have HZ1 := Lib.hid hz1
      obtain ⟨w2, hw2⟩ : ∃ z, z = w1.alloc (.cells (madeCells #[.int .i64 0] 9) 3) := ⟨_, rfl⟩
      rw [← hw2] at M1 B2 HZ2
      have HW2 := Lib.hid hw2
      have HOR := Lib.hid (by have h9 := sords_any 3 w2 (by omega); simp only [Int.cast_ofNat_Int] at h9; exact h9)
      have hmk := HMK.out
      clear hb s0 s1 hz1 gm hw2
      go_wp2_with fail
      rw [← HW2.out]
      clear hmk
      refine HOR.out.mono ?_
      rintro en w4 ⟨lv, us, rfl, ol, hful, hb⟩
      obtain ⟨L, hL⟩ : ∃ L, ords 3 = L := ⟨_, rfl⟩
      have HL6 : Hid (L.length = 6) := Lib.hid (by rw [← hL]; exact ords3_len)
      have HLO : Hid (∀ k, k < 6 → Od (row L k) ((3 : Nat) : Int)) := Lib.hid fun k hk => by
        rw [← hL]
        exact (ords_mem (by omega) (by omega)).1 (row_mem (by rw [ords3_len]; exact hk))
      rw [hL] at ol HXV
      obtain ⟨a, c, hlv⟩ := OwnSS.form ol
      rw [HL6.out] at hlv
      subst hlv
      have HUL : Hid (us.length = 6) := Lib.hid (by rw [ol.len]; exact HL6.out)
      have HFL := Lib.hid hful
      have S0 : Hid (SvI w w1.heap.size (CA : Int) (CB : Int) w2.heap.size w4.heap.size (.slice a 6 c) us L 0 w4) := Lib.hid
        ⟨Below.on B2.out hb, own_mono (own_below M1.out hb) (by have := HZ1.out; omega), ol⟩
      clear hL ol hful hb
      go_wp2
      go_loopw [11] (fun i wr => ∃ k : Nat, k ≤ 6 ∧ i = .int .i64 k ∧ Hid (SvI w w1.heap.size (CA : Int) (CB : Int) w2.heap.size w4.heap.size (.slice a 6 c) us L k wr)) (fun i _ => 6 - (intOf i).toNat)
      case atStart => exact ⟨0, by omega, rfl, S0⟩
      case round =>
        obtain ⟨j, hj, rfl, hS⟩ := hrel
        obtain ⟨wo, rfl⟩ : ∃ wo : World, wo = wr := ⟨_, rfl⟩
        clear S0
        by_cases hjl : j < 6
        · have hjl1 : (j : Int) < 6 := by omega
          have hju : j < us.length := by rw [HUL.out]; exact hjl
          have hod := HLO.out j hjl
          have hx3 : (row L j).length = 3 := by have := hod.len; omega
          obtain ⟨a', c', ea, hcell⟩ := outer_cell hS.out.ol.outer
          rw [HUL.out] at ea
          cases ea
          obtain ⟨G0, rfl, hG0, hck⟩ := hcell j hju
          obtain ⟨ug, un, uc, hu⟩ := HFL.out j hju
          have hr := hS.out.ol.rows j hju
          obtain ⟨_, _, e4⟩ := Own.form hr
          rw [hu, hx3] at e4
          cases e4
          rw [hu] at hr
          have ta := hod.at_ (x := (CA : Int)) (by omega) (by omega)
          have tb := hod.at_ (x := (CB : Int)) (by omega) (by omega)
          obtain ⟨YA, hYA⟩ := Int.eq_ofNat_of_zero_le ta.1
          obtain ⟨YB, hYB⟩ := Int.eq_ofNat_of_zero_le tb.1
          have hYA3 : YA < 3 := by omega
          have hYB3 : YB < 3 := by omega
          have eA : nth (row L j) CA = (YA : Int) := by have := hYA; simpa [app] using this
          have eB : nth (row L j) CB = (YB : Int) := by have := hYB; simpa [app] using this
          have HCR : Hid (∀ w', Below wo.heap.size wo w' → w'.cell? ⟨G0, j, none⟩ = some (.slice (some ⟨ug, 0, none⟩) 3 uc)) := Lib.hid fun w' hb => (hb.cell (p := ⟨G0, j, none⟩) hG0).trans (hck.trans (by rw [hu]))
          have HRA : Hid (∀ w', Below wo.heap.size wo w' → w'.cell? ⟨ug, CA, none⟩ = some (.int .i64 (YA : Int))) := Lib.hid fun w' hb => by
            obtain ⟨x1, x2⟩ := own_cell hr (by rw [hx3]; unfold maxLen; omega) (j := CA) (by rw [hx3]; exact hCA3)
            rw [← eA]; exact (hb.cell (p := ⟨ug, CA, none⟩) x1).trans x2
          have HRB : Hid (∀ w', Below wo.heap.size wo w' → w'.cell? ⟨ug, CB, none⟩ = some (.int .i64 (YB : Int))) := Lib.hid fun w' hb => by
            obtain ⟨x1, x2⟩ := own_cell hr (by rw [hx3]; unfold maxLen; omega) (j := CB) (by rw [hx3]; exact hCB3)
            rw [← eB]; exact (hb.cell (p := ⟨ug, CB, none⟩) x1).trans x2
          obtain ⟨K, hK⟩ : ∃ K, 3 * YA + YB = K := ⟨_, rfl⟩
          have hKi : 3 * (YA : Int) + (YB : Int) = (K : Int) := by omega
          have hK9 : K < 9 := by omega
          have hK9i : (K : Int) < 9 := by omega
          have HKK : Hid ((3 * app (row L j) (CA : Int) + app (row L j) (CB : Int)).toNat = K) := Lib.hid (by rw [hYA, hYB]; omega)
          have HCA2 := Lib.hid (show ∀ w', Below wo.heap.size wo w' → w'.cell? ⟨GA, A, none⟩ = some (.int .i64 (CA : Int)) from fun w' hb => HCA.out _ (Below.on hS.out.be hb))
          have HCB2 := Lib.hid (show ∀ w', Below wo.heap.size wo w' → w'.cell? ⟨GA, B, none⟩ = some (.int .i64 (CB : Int)) from fun w' hb => HCB.out _ (Below.on hS.out.be hb))
          have HBD : Hid (Below wo.heap.size wo wo.drew) := Lib.hid (Below.refl _ _).drew
          clear hod hx3 hcell hck hu hr ta tb hYA hYB eA eB hK
          go_wp2_with fail
          refine wp_region_cls (C := fun w' => Hid (Below wo.heap.size wo w')) (by kernel_rfl) (by kernel_rfl) HBD ?_
          repeat (first | go_big_quiet_skip | (go_big_quiet_want; go_big_quiet_op; first | go_big_quiet_on | (refine ⟨_, fun _ _ => rfl, ?_⟩; go_big_quiet_on)))
          go_big_quiet_want
          go_big_quiet_op
          refine ⟨.slice (some ⟨ug, 0, none⟩) 3 uc, fun w' hw' => ?_, ?_⟩
          · have q0 := HCR.out _ hw'.out
            simp [go_sem, q0]
          go_big_quiet_on
          repeat (first | go_big_quiet_skip | (go_big_quiet_want; go_big_quiet_op; first | go_big_quiet_on | (refine ⟨_, fun _ _ => rfl, ?_⟩; go_big_quiet_on)))
          go_big_quiet_want
          go_big_quiet_op
          refine ⟨.int .i64 (CA : Int), fun w' hw' => ?_, ?_⟩
          · have q0 := HCA2.out _ hw'.out
            simp [go_sem, q0]
          go_big_quiet_on
          repeat (first | go_big_quiet_skip | (go_big_quiet_want; go_big_quiet_op; first | go_big_quiet_on | (refine ⟨_, fun _ _ => rfl, ?_⟩; go_big_quiet_on)))
          go_big_quiet_want
          go_big_quiet_op
          refine ⟨.int .i64 (YA : Int), fun w' hw' => ?_, ?_⟩
          · have q0 := HRA.out _ hw'.out
            simp [go_sem, q0]
          go_big_quiet_on
          repeat (first | go_big_quiet_skip | (go_big_quiet_want; go_big_quiet_op; first | go_big_quiet_on | (refine ⟨_, fun _ _ => rfl, ?_⟩; go_big_quiet_on)))
          refine wpQuiet_nil ?_
          intro w5 h5
          have HBE : Hid (Below wo.heap.size wo w5.drew) := Lib.hid h5.out.drew
          clear h5
          go_wp2_with fail
          refine wp_region_cls (C := fun w' => Hid (Below wo.heap.size wo w')) (by kernel_rfl) (by kernel_rfl) HBE ?_
          repeat (first | go_big_quiet_skip | (go_big_quiet_want; go_big_quiet_op; first | go_big_quiet_on | (refine ⟨_, fun _ _ => rfl, ?_⟩; go_big_quiet_on)))
          go_big_quiet_want
          go_big_quiet_op
          refine ⟨.slice (some ⟨ug, 0, none⟩) 3 uc, fun w' hw' => ?_, ?_⟩
          · have q0 := HCR.out _ hw'.out
            simp [go_sem, q0]
          go_big_quiet_on
          repeat (first | go_big_quiet_skip | (go_big_quiet_want; go_big_quiet_op; first | go_big_quiet_on | (refine ⟨_, fun _ _ => rfl, ?_⟩; go_big_quiet_on)))
          go_big_quiet_want
          go_big_quiet_op
          refine ⟨.int .i64 (CB : Int), fun w' hw' => ?_, ?_⟩
          · have q0 := HCB2.out _ hw'.out
            simp [go_sem, q0]
          go_big_quiet_on
          repeat (first | go_big_quiet_skip | (go_big_quiet_want; go_big_quiet_op; first | go_big_quiet_on | (refine ⟨_, fun _ _ => rfl, ?_⟩; go_big_quiet_on)))
          go_big_quiet_want
          go_big_quiet_op
          refine ⟨.int .i64 (YB : Int), fun w' hw' => ?_, ?_⟩
          · have q0 := HRB.out _ hw'.out
            simp [go_sem, q0]
          go_big_quiet_on
          repeat (first | go_big_quiet_skip | (go_big_quiet_want; go_big_quiet_op; first | go_big_quiet_on | (refine ⟨_, fun _ _ => rfl, ?_⟩; go_big_quiet_on)))
          refine wpQuiet_nil ?_
          intro w6 h6
          have S6 := Lib.hid (hS.out.on h6.out)
          clear h6 hS
          obtain ⟨⟨f1, f2⟩, _, _⟩ := Own.set (k := K) S6.out.ov (vwTo_len _ _ _ _) hK9 0
          obtain ⟨u, hu⟩ : ∃ u, nth (vwTo L (CA : Int) (CB : Int) j) K = u := ⟨_, rfl⟩
          have hu1 := vwTo_small L (CA : Int) (CB : Int) j K
          have S7 := Lib.hid (S6.out.put HZ1.out (by have := HZ2.out; omega) HKK.out hK9)
          rw [hu] at f2 hu1 S7
          have hu2 : 0 ≤ u ∧ u ≤ 6 := by omega
          clear hu hu1 S6
          go_wp2
          go_roundw
          case rel => exact ⟨j + 1, by omega, by go_num, S7⟩
          case measure => simp [intOf]; omega
        · obtain rfl : j = 6 := by omega
          go_wp2
          go_ret
          exact ⟨_, rfl, by rw [HXV.out]; exact own_mono hS.out.ov (by omega), hS.out.be⟩
end Go.Proofs.YtimkmdedoacpfabDoor
