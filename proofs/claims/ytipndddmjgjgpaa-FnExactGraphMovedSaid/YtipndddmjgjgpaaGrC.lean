/- laws: graphs and turns copied, compared, marked, held. -/
import Derived.Test.YtipndddmjgjgpaaStat
import Derived.Test.YtipndddmjgjgpaaHelp
import Derived.Deep.Cut
namespace Go.Proofs.Ytipndddmjgjgpaa
open Go.RowKit

theorem szgr_any (p : Int) (a : Option Addr) (n c : Nat) (left : Int) (w : World) (hn : n ≤ maxLen) (h0 : 0 ≤ left) (h1 : left ≤ 1048576) :
    Calls Try.prog 14 #[.agg #[.int .i64 p, .slice a n c], .int .i64 left] w fun e w' => ∃ r, e = .returned (.int .i64 r) ∧ Below w.heap.size w w' ∧ (r = -1 ∨ (0 ≤ r ∧ r ≤ left ∧ n ≤ 1048576)) := by
  go_enter Try.func14, Try.ntmps14
  go_wp2_with fail
  refine (szi_any a n c left _ hn h0 h1).mono ?_
  rintro e w1 ⟨rfl, rfl⟩
  rcases szI_cases n left with ⟨e1, e2⟩ | ⟨e1, e2⟩
  · rw [e1]
    go_wp2
    go_ret
    exact ⟨_, rfl, below_grow _ _, .inl rfl⟩
  · rw [e1]
    clear e1
    go_wp2
    go_ret
    exact ⟨_, rfl, below_grow _ _, .inr ⟨by omega, by omega, by omega⟩⟩

theorem sztr_any (p ask : Int) (a b : Option Addr) (n c m d : Nat) (left : Int) (w : World) (hn : n ≤ maxLen) (hm : m ≤ maxLen) (h0 : 0 ≤ left) (h1 : left ≤ 1048576) :
    Calls Try.prog 38 #[.agg #[.int .i64 p, .slice a n c, .int .i64 ask, .slice b m d], .int .i64 left] w fun e w' => ∃ r, e = .returned (.int .i64 r) ∧ Below w.heap.size w w' ∧ (r = -1 ∨ (0 ≤ r ∧ r ≤ left ∧ n ≤ 1048576 ∧ m ≤ 1048576)) := by
  have HM := Lib.hid hm
  clear hm
  go_enter Try.func38, Try.ntmps38
  go_wp2_with fail
  refine (szgr_any p a n c left _ hn h0 h1).mono ?_
  rintro e w1 ⟨r, rfl, hb, hres⟩
  obtain ⟨p0, l1⟩ := boxes1 (P := [.int .i64 p, .slice a n c, .int .i64 ask, .slice b m d]) hb
  have L1 := Lib.hid l1
  have q3 := p0.cell 3
  simp at q3
  clear hb p0 l1
  rcases hres with rfl | ⟨r0, r1, s1⟩
  · go_wp2
    go_ret
    exact ⟨_, rfl, L1.out, .inl rfl⟩
  · have R1 := Lib.hid r1
    have S1 := Lib.hid s1
    have R3 := Lib.hid (Int.le_trans r1 h1)
    clear s1 r1
    go_wp2_with fail
    refine (szi_any b m d r _ HM.out r0 R3.out).mono ?_
    rintro e w2 ⟨rfl, rfl⟩
    rcases szI_cases m r with ⟨e1, e2⟩ | ⟨e1, e2⟩
    · rw [e1]
      go_wp2
      go_ret
      exact ⟨_, rfl, L1.out, .inl rfl⟩
    · rw [e1]
      clear e1
      have R5 := R3.out
      go_wp2
      go_ret
      exact ⟨_, rfl, L1.out, .inr ⟨by omega, by have := R1.out; omega, S1.out, by omega⟩⟩

set_option maxHeartbeats 800000 in
theorem togr_any (p : Int) (a : Option Addr) (c : Nat) (es : List Int) (w : World) (h : ArgI w a es) (hl : es.length ≤ 1048576) :
    Calls Try.prog 16 #[.agg #[.int .i64 p, .slice a es.length c]] w fun e w' => ∃ v, e = .returned (.agg #[.int .i64 p, v]) ∧ Own w' w.heap.size v es ∧ Below w.heap.size w w' := by
  obtain ⟨n, hn⟩ : ∃ n, es.length = n := ⟨_, rfl⟩
  have HA := Lib.hid (fun w' (hb : Below w.heap.size w w') => toI_any a c es w' (h.on hb) hl)
  have HN := Lib.hid hn
  rw [hn] at HA ⊢
  have W3 := bx3 (w := w) [.int .i64 p, .slice a n c] [.int .i64 0, .slice none 0 0] [.int .i64 p, .slice none 0 0] 24 27 27
  obtain ⟨W, hWe, hWs, hW, b0, b1, b2⟩ := W3.out
  have B0 : Hid (Below W.heap.size W (((w.alloc (.cells #[.int .i64 p, .slice a n c] 24)).alloc (.cells #[.int .i64 0, .slice none 0 0] 27)).alloc (.cells #[.int .i64 p, .slice none 0 0] 27))) := Lib.hid (by rw [hWe]; exact Below.refl _ _)
  have HW := Lib.hid hW
  have HS := Lib.hid hWs
  have HWE := Lib.hid hWe
  have BR := Lib.hid b1
  have BO := Lib.hid b2
  clear W3 hWe hWs hW b0 b1 b2 h hl hn
  go_enter Try.func16, Try.ntmps16
  go_wp2_with fail
  refine (HA.out _ (by rw [← HWE.out]; exact HW.out)).mono ?_
  rintro e w1 ⟨v, rfl, ow, hb⟩
  rw [← HWE.out] at ow hb
  obtain ⟨va, vc, hv⟩ := ow.form
  rw [HN.out] at hv
  subst hv
  have r0 := (BR.out.on hb).cell 0
  have r1 := (BR.out.on hb).cell 1
  have f0 := (BR.out.on hb).frozen 0
  have f1 := (BR.out.on hb).frozen 1
  have c0 := (BO.out.on hb).cell 0
  have c1 := (BO.out.on hb).cell 1
  have g0 := (BO.out.on hb).frozen 0
  have g1 := (BO.out.on hb).frozen 1
  simp at r0 r1 c0 c1
  have OW := Lib.hid ow
  have BL := Lib.hid (HW.out.trans (hb.mono HW.out.size))
  clear ow hb
  go_wp2
  refine bodyPost_ret (v := .agg #[.int .i64 p, .slice va n vc]) ?_ rfl ⟨_, rfl, ?_, ?_⟩
  · simp [results, Try.results16, go_sem, r0, r1]
  · refine own_mono (own_heap OW.out fun k hk => ?_) HW.out.size
    have hk1 := (OW.out.lt k hk).1
    have hs := HS.out
    rw [Below.heap_setCell _ _ _ _ (by show k ≠ w.heap.size + 1; omega), Below.heap_setCell _ _ _ _ (by show k ≠ w.heap.size + 1; omega), Below.heap_setCell _ _ _ _ (by show k ≠ w.heap.size + 1 + 1; omega)]
  · exact ((BL.out.setCell (by show w.heap.size ≤ w.heap.size + 1 + 1; omega) _).setCell (by show w.heap.size ≤ w.heap.size + 1; omega) _).setCell (by show w.heap.size ≤ w.heap.size + 1; omega) _

theorem eqgr_any (p : Int) (v v' : Value) (es : List Int) (w : World) (h1 : Ints w v es) (h2 : Ints w v' es) :
    Calls Try.prog 18 #[.agg #[.int .i64 p, v], .agg #[.int .i64 p, v']] w fun e w' => e = .returned (.bool true) ∧ Below w.heap.size w w' := by
  obtain ⟨p0, p1, pl⟩ := boxes2 (P := [.int .i64 p, v]) (R := [.int .i64 p, v']) (Below.refl ((w.alloc (.cells #[.int .i64 p, v] 27)).alloc (.cells #[.int .i64 p, v'] 27)).heap.size _)
  have a0 := p0.cell 0
  have a1 := p0.cell 1
  have b0 := p1.cell 0
  have b1 := p1.cell 1
  simp at a0 a1 b0 b1
  have PL := Lib.hid pl
  have H1 := Lib.hid (h1.below pl)
  have H2 := Lib.hid (h2.below pl)
  have hd : (p != p) = false := by simp
  clear p0 p1 pl h1 h2
  go_enter Try.func18, Try.ntmps18
  go_wp2_with fail
  refine (eqI_any v v' es _ H1.out H2.out).mono ?_
  rintro e w1 ⟨rfl, hb⟩
  have B1 := Lib.hid (Below.on PL.out hb)
  clear hb a0 a1 b0 b1
  go_wp2
  go_ret
  exact ⟨rfl, B1.out⟩

theorem mkgr_any (p : Int) (lo hi : Nat) (v : Value) (es : List Int) (m : Int) (w : World) (h : Hl w (.l lo hi v es)) (hl : es.length ≤ 4000000) (m0 : 0 ≤ m) (m1 : m ≤ 1000000000) :
    Calls Try.prog 25 #[.agg #[.int .i64 p, v], .int .i64 m] w fun e w' => e = .returned (.int .i64 (m + es.length)) ∧ Hl w' (.l lo hi v (markTo es m es.length)) ∧ Outside lo hi w w' := by
  have H := Lib.hid (h.on (below_grow w (.cells #[.int .i64 p, v] 27)))
  clear h
  go_enter Try.func25, Try.ntmps25
  go_wp2_with fail
  refine (mkI_any lo hi v es m _ H.out hl m0 m1).mono ?_
  rintro e w1 ⟨rfl, hh, ho⟩
  have HH := Lib.hid hh
  have HO := Lib.hid (Outside.alloc _ ho)
  clear hh ho
  go_wp2
  go_ret
  exact ⟨rfl, HH.out, HO.out⟩

theorem hdgr_any (p : Int) (v : Value) (es : List Int) (m : Int) (w : World) (h : Ints w v (markTo es m es.length)) (hl : es.length ≤ 4000000) (m0 : 0 ≤ m) (m1 : m ≤ 1000000000) :
    Calls Try.prog 27 #[.agg #[.int .i64 p, v], .int .i64 m] w fun e w' => e = .returned (.int .i64 (m + es.length)) ∧ Below w.heap.size w w' := by
  have H := Lib.hid (h.below (below_grow w (.cells #[.int .i64 p, v] 27)))
  clear h
  go_enter Try.func27, Try.ntmps27
  go_wp2_with fail
  refine (hdI_any v es m _ H.out hl m0 m1).mono ?_
  rintro e w1 ⟨rfl, hb⟩
  have B1 := Lib.hid (Below.on (below_grow w _) hb)
  have hm : ¬ (m + (es.length : Int)) < 0 := by omega
  clear hb
  go_wp2
  go_ret
  exact ⟨rfl, B1.out⟩

theorem pair_on {w w' : World} {lo hi : Nat} {v u : Value} {xs ys zs : List Int} (h : Hl w (.p lo hi v u xs ys)) (ho : Own w' lo v zs) (hg : w.grownBy w' v.ownBlock) : Hl w' (.p lo hi v u zs ys) :=
  ⟨ho, h.2.1.kept hg (by
    cases hv : u.ownBlock with
    | none => exact .inl rfl
    | some k => exact .inr fun e => h.2.2.1 k e.symm hv), h.2.2.1, h.2.2.2.1, h.2.2.2.2.1, Nat.le_trans h.2.2.2.2.2 hg.size⟩
theorem pair_on' {w w' : World} {lo hi : Nat} {v u : Value} {xs ys zs : List Int} (h : Hl w (.p lo hi v u xs ys)) (ho : Own w' lo u zs) (hg : w.grownBy w' u.ownBlock) : Hl w' (.p lo hi v u xs zs) :=
  ⟨h.1.kept hg (by
    cases hv : v.ownBlock with
    | none => exact .inl rfl
    | some k => exact .inr fun e => h.2.2.1 k hv e.symm), ho, h.2.2.1, h.2.2.2.1, h.2.2.2.2.1, Nat.le_trans h.2.2.2.2.2 hg.size⟩
theorem mkgrp_any (p : Int) (lo hi : Nat) (v u : Value) (es ts : List Int) (m : Int) (w : World) (h : Hl w (.p lo hi v u es ts)) (hl : es.length ≤ 4000000) (m0 : 0 ≤ m) (m1 : m ≤ 1000000000) :
    Calls Try.prog 25 #[.agg #[.int .i64 p, v], .int .i64 m] w fun e w' => e = .returned (.int .i64 (m + es.length)) ∧ Hl w' (.p lo hi v u (markTo es m es.length) ts) ∧ Outside lo hi w w' := by
  have H := Lib.hid (h.on (below_grow w (.cells #[.int .i64 p, v] 27)))
  clear h
  go_enter Try.func25, Try.ntmps25
  go_wp2_with fail
  refine (markI_any v es m lo _ H.out.1 hl m0 m1).mono ?_
  rintro e w1 ⟨rfl, oo, gr⟩
  have HH := Lib.hid (pair_on H.out oo gr)
  have HO := Lib.hid (Outside.alloc _ (Outside.of_grown (lo := lo) (hi := hi) gr fun k hk => ⟨(H.out.1.lt k hk).1, H.out.2.2.2.1 k hk⟩))
  clear oo gr
  go_wp2
  go_ret
  exact ⟨rfl, HH.out, HO.out⟩

set_option maxHeartbeats 1600000 in
theorem totr_any (p ask : Int) (a b : Option Addr) (c d : Nat) (es ts : List Int) (w : World) (h : ArgI w a es) (h' : ArgI w b ts) (hl : es.length ≤ 1048576) (hm : ts.length ≤ 1048576) :
    Calls Try.prog 40 #[.agg #[.int .i64 p, .slice a es.length c, .int .i64 ask, .slice b ts.length d]] w fun e w' => ∃ v u, e = .returned (.agg #[.int .i64 p, v, .int .i64 ask, u]) ∧ Hl w' (.p w.heap.size w'.heap.size v u es ts) ∧ Below w.heap.size w w' := by
  obtain ⟨n, hn⟩ : ∃ n, es.length = n := ⟨_, rfl⟩
  obtain ⟨m, hmm⟩ : ∃ m, ts.length = m := ⟨_, rfl⟩
  have HA := Lib.hid (fun w' (hb : Below w.heap.size w w') => togr_any p a c es w' (h.on hb) hl)
  have HB := Lib.hid (fun w' (hb : Below w.heap.size w w') => toI_any b d ts w' (h'.on hb) hm)
  have HN := Lib.hid hn
  have HM := Lib.hid hmm
  rw [hn] at HA ⊢
  rw [hmm] at HB ⊢
  have W3 := bx3 (w := w) [.int .i64 p, .slice a n c, .int .i64 ask, .slice b m d] [.int .i64 0, .slice none 0 0, .int .i64 0, .slice none 0 0] [.int .i64 0, .slice none 0 0, .int .i64 0, .slice none 0 0] 46 50 50
  obtain ⟨W, hWe, hWs, hW, b0, b1, b2⟩ := W3.out
  have HW := Lib.hid hW
  have HS := Lib.hid hWs
  have HWE := Lib.hid hWe
  have BP := Lib.hid b0
  have BR := Lib.hid b1
  have BO := Lib.hid b2
  clear W3 hWe hWs hW b0 b1 b2 h h' hl hm hn hmm
  go_enter Try.func40, Try.ntmps40
  go_wp2_with fail
  refine (HA.out _ (by rw [← HWE.out]; exact HW.out)).mono ?_
  rintro e w1 ⟨v, rfl, ow, hb⟩
  rw [← HWE.out] at ow hb
  obtain ⟨va, vc, hv⟩ := ow.form
  rw [HN.out] at hv
  subst hv
  have OW := Lib.hid ow
  have BL := Lib.hid (HW.out.trans (hb.mono HW.out.size))
  have X0 := Lib.hid (BP.out.on hb)
  have X1 := Lib.hid (BR.out.on hb)
  have X2 := Lib.hid (BO.out.on hb)
  have c0 := X2.out.cell 0
  have c1 := X2.out.cell 1
  have c2 := X2.out.cell 2
  have c3 := X2.out.cell 3
  have g0 := X2.out.frozen 0
  have g1 := X2.out.frozen 1
  have g2 := X2.out.frozen 2
  have q2 := X0.out.cell 2
  simp at c0 c1 c2 c3 q2
  have hz1 : W.heap.size ≤ w1.heap.size := hb.size
  clear ow hb
  go_upto_region 4 with (fail)
  clear c0 c1 c2 c3 g0 g1 g2 q2
  obtain ⟨w3, hw3⟩ : ∃ w3, w3 = ((w1.setCell ⟨w.heap.size + 1 + 1, 0, none⟩ (.int .i64 p)).setCell ⟨w.heap.size + 1 + 1, 1, none⟩ (.slice va n vc)).setCell ⟨w.heap.size + 1 + 1, 2, none⟩ (.int .i64 ask) := ⟨_, rfl⟩
  have Y0 : Hid (Box w3 w.heap.size [.int .i64 p, .slice a n c, .int .i64 ask, .slice b m d]) := Lib.hid (by rw [hw3]; exact ((X0.out.far (by omega) _).far (by omega) _).far (by omega) _)
  have Y1 : Hid (Box w3 (w.heap.size + 1) [.int .i64 0, .slice none 0 0, .int .i64 0, .slice none 0 0]) := Lib.hid (by rw [hw3]; exact ((X1.out.far (by omega) _).far (by omega) _).far (by omega) _)
  have Y2 : Hid (Box w3 (w.heap.size + 1 + 1) [.int .i64 p, .slice va n vc, .int .i64 ask, .slice none 0 0]) := Lib.hid (by rw [hw3]; exact (((X2.out.set 0 _).set 1 _).set 2 _))
  have OW3 : Hid (Own w3 W.heap.size (.slice va n vc) es) := Lib.hid (by
    rw [hw3]
    refine own_heap OW.out fun k hk => ?_
    have hk1 := (OW.out.lt k hk).1
    have hs := HS.out
    rw [Below.heap_setCell _ _ _ _ (by show k ≠ w.heap.size + 1 + 1; omega), Below.heap_setCell _ _ _ _ (by show k ≠ w.heap.size + 1 + 1; omega), Below.heap_setCell _ _ _ _ (by show k ≠ w.heap.size + 1 + 1; omega)])
  have BL3 : Hid (Below w.heap.size w w3) := Lib.hid (by rw [hw3]; exact ((BL.out.setCell (by show w.heap.size ≤ w.heap.size + 1 + 1; omega) _).setCell (by show w.heap.size ≤ w.heap.size + 1 + 1; omega) _).setCell (by show w.heap.size ≤ w.heap.size + 1 + 1; omega) _)
  have hz3 : W.heap.size ≤ w3.heap.size := by rw [hw3]; simpa [World.setCell] using hz1
  rw [← hw3]
  clear hw3 OW BL X0 X1 X2 hz1
  have q3 := Y0.out.cell 3
  simp at q3
  go_wp2_with fail
  refine (HB.out _ BL3.out).mono ?_
  rintro e w5 ⟨u, rfl, ou, hb⟩
  obtain ⟨ua, uc, hu⟩ := ou.form
  rw [HM.out] at hu
  subst hu
  have OU := Lib.hid ou
  have OW5 := Lib.hid (own_below OW3.out hb)
  have AP : Hid (∀ k, (Value.slice va n vc).ownBlock = some k → (Value.slice ua m uc).ownBlock = some k → False) := Lib.hid fun k h1 h2 => by
    have := (OW3.out.lt k h1).2; have := (ou.lt k h2).1; omega
  have BL5 := Lib.hid (Below.on BL3.out hb)
  have hz5 : w3.heap.size ≤ w5.heap.size := hb.size
  have Z1 := Lib.hid (Y1.out.on hb)
  have Z2 := Lib.hid (Y2.out.on hb)
  clear ou hb q3 Y0 Y1 Y2 OW3 BL3
  have c0 := Z2.out.cell 0
  have c1 := Z2.out.cell 1
  have c2 := Z2.out.cell 2
  have c3 := Z2.out.cell 3
  have g3 := Z2.out.frozen 3
  have r0 := Z1.out.cell 0
  have r1 := Z1.out.cell 1
  have r2 := Z1.out.cell 2
  have r3 := Z1.out.cell 3
  have f0 := Z1.out.frozen 0
  have f1 := Z1.out.frozen 1
  have f2 := Z1.out.frozen 2
  have f3 := Z1.out.frozen 3
  simp at c0 c1 c2 c3 r0 r1 r2 r3
  have HZ := Lib.hid hz3
  have HZ5 := Lib.hid hz5
  clear hz3 hz5
  go_wp2
  refine bodyPost_ret (v := .agg #[.int .i64 p, .slice va n vc, .int .i64 ask, .slice ua m uc]) ?_ rfl ⟨_, _, rfl, ?_, ?_⟩
  · simp [results, Try.results40, go_sem, r0, r1, r2, r3]
  · have hs := HS.out
    have h3 := HZ.out
    have h5 := HZ5.out
    have key : ∀ k, W.heap.size ≤ k → (((((w5.setCell ⟨w.heap.size + 1 + 1, 3, none⟩ (.slice ua m uc)).setCell ⟨w.heap.size + 1, 0, none⟩ (.int .i64 p)).setCell ⟨w.heap.size + 1, 1, none⟩ (.slice va n vc)).setCell ⟨w.heap.size + 1, 2, none⟩ (.int .i64 ask)).setCell ⟨w.heap.size + 1, 3, none⟩ (.slice ua m uc)).heap[k]? = w5.heap[k]? := fun k hk => by
      rw [Below.heap_setCell _ _ _ _ (by show k ≠ w.heap.size + 1; omega), Below.heap_setCell _ _ _ _ (by show k ≠ w.heap.size + 1; omega), Below.heap_setCell _ _ _ _ (by show k ≠ w.heap.size + 1; omega), Below.heap_setCell _ _ _ _ (by show k ≠ w.heap.size + 1; omega), Below.heap_setCell _ _ _ _ (by show k ≠ w.heap.size + 1 + 1; omega)]
    exact Hl.mk2 (own_mono (own_heap OW5.out fun k hk => key k (OW5.out.lt k hk).1) (by omega)) (own_mono (own_heap OU.out fun k hk => key k (by have := (OU.out.lt k hk).1; omega)) (by omega)) AP.out
  · exact ((((BL5.out.setCell (by show w.heap.size ≤ w.heap.size + 1 + 1; omega) _).setCell (by show w.heap.size ≤ w.heap.size + 1; omega) _).setCell (by show w.heap.size ≤ w.heap.size + 1; omega) _).setCell (by show w.heap.size ≤ w.heap.size + 1; omega) _).setCell (by show w.heap.size ≤ w.heap.size + 1; omega) _

theorem eqtr_any (p ask : Int) (v v' u u' : Value) (es ts : List Int) (w : World) (h1 : Ints w v es) (h2 : Ints w v' es) (k1 : Ints w u ts) (k2 : Ints w u' ts) :
    Calls Try.prog 42 #[.agg #[.int .i64 p, v, .int .i64 ask, u], .agg #[.int .i64 p, v', .int .i64 ask, u']] w fun e w' => e = .returned (.bool true) ∧ Below w.heap.size w w' := by
  obtain ⟨p0, p1, pl⟩ := boxes2 (P := [.int .i64 p, v, .int .i64 ask, u]) (R := [.int .i64 p, v', .int .i64 ask, u']) (Below.refl ((w.alloc (.cells #[.int .i64 p, v, .int .i64 ask, u] 50)).alloc (.cells #[.int .i64 p, v', .int .i64 ask, u'] 50)).heap.size _)
  have a0 := p0.cell 0
  have a1 := p0.cell 1
  have b0 := p1.cell 0
  have b1 := p1.cell 1
  simp at a0 a1 b0 b1
  have P0 := Lib.hid p0
  have P1 := Lib.hid p1
  have PL := Lib.hid pl
  have H1 := Lib.hid (h1.below pl)
  have H2 := Lib.hid (h2.below pl)
  have K1 := Lib.hid (k1.below pl)
  have K2 := Lib.hid (k2.below pl)
  have hd : (ask != ask) = false := by simp
  clear p0 p1 pl h1 h2 k1 k2
  go_enter Try.func42, Try.ntmps42
  go_wp2_with fail
  refine (eqgr_any p v v' es _ H1.out H2.out).mono ?_
  rintro e w1 ⟨rfl, hb⟩
  have B1 := Lib.hid (Below.on PL.out hb)
  clear a0 a1 b0 b1
  have a2 := (P0.out.on hb).cell 2
  have a3 := (P0.out.on hb).cell 3
  have b2 := (P1.out.on hb).cell 2
  have b3 := (P1.out.on hb).cell 3
  simp at a2 a3 b2 b3
  have K3 := Lib.hid (K1.out.below hb)
  have K4 := Lib.hid (K2.out.below hb)
  clear hb
  go_wp2_with fail
  refine (eqI_any u u' ts _ K3.out K4.out).mono ?_
  rintro e w2 ⟨rfl, hb⟩
  have B2 := Lib.hid (Below.on B1.out hb)
  clear hb a2 a3 b2 b3
  go_wp2
  go_ret
  exact ⟨rfl, B2.out⟩

theorem mktr_any (p ask : Int) (lo hi : Nat) (v u : Value) (es ts : List Int) (m : Int) (w : World) (h : Hl w (.p lo hi v u es ts)) (hl : es.length ≤ 4000000) (hk : ts.length ≤ 4000000) (m0 : 0 ≤ m) (m1 : m ≤ 900000000) :
    Calls Try.prog 45 #[.agg #[.int .i64 p, v, .int .i64 ask, u], .int .i64 m] w fun e w' => e = .returned (.int .i64 (m + es.length + ts.length)) ∧ Hl w' (.p lo hi v u (markTo es m es.length) (markTo ts (m + es.length) ts.length)) ∧ Outside lo hi w w' := by
  have H := Lib.hid (h.on (below_grow w (.cells #[.int .i64 p, v, .int .i64 ask, u] 50)))
  have HH := Lib.hid h.size
  have HB := Lib.hid (Box.made w [.int .i64 p, v, .int .i64 ask, u] 50)
  clear h
  go_enter Try.func45, Try.ntmps45
  go_wp2_with fail
  refine (mkgrp_any p lo hi v u es ts m _ H.out hl m0 (by omega)).mono ?_
  rintro e w1 ⟨rfl, hp, ho⟩
  have b3 := (HB.out.out ho (.inr HH.out)).cell 3
  simp at b3
  have HP := Lib.hid hp
  have HO := Lib.hid (Outside.alloc _ ho)
  clear hp ho
  go_wp2_with fail
  refine (markI_any u ts _ lo _ HP.out.2.1 hk (by omega) (by omega)).mono ?_
  rintro e w2 ⟨rfl, oo, gr⟩
  have H2 := Lib.hid (pair_on' HP.out oo gr)
  have HO2 : Hid (Outside lo hi w w2) := Lib.hid (HO.out.trans (Outside.of_grown gr fun k hk => ⟨(HP.out.2.1.lt k hk).1, HP.out.2.2.2.2.1 k hk⟩))
  clear oo gr b3
  go_wp2
  go_ret
  exact ⟨rfl, H2.out, HO2.out⟩

theorem hdtr_any (p ask : Int) (v u : Value) (es ts : List Int) (m : Int) (w : World) (h : Ints w v (markTo es m es.length)) (h' : Ints w u (markTo ts (m + es.length) ts.length)) (hl : es.length ≤ 4000000) (hk : ts.length ≤ 4000000) (m0 : 0 ≤ m) (m1 : m ≤ 900000000) :
    Calls Try.prog 46 #[.agg #[.int .i64 p, v, .int .i64 ask, u], .int .i64 m] w fun e w' => e = .returned (.int .i64 (m + es.length + ts.length)) ∧ Below w.heap.size w w' := by
  have H := Lib.hid (h.below (below_grow w (.cells #[.int .i64 p, v, .int .i64 ask, u] 50)))
  have H' := Lib.hid (h'.below (below_grow w (.cells #[.int .i64 p, v, .int .i64 ask, u] 50)))
  have HB := Lib.hid (Box.made w [.int .i64 p, v, .int .i64 ask, u] 50)
  clear h h'
  go_enter Try.func46, Try.ntmps46
  go_wp2_with fail
  refine (hdgr_any p v es m _ H.out hl m0 (by omega)).mono ?_
  rintro e w1 ⟨rfl, hb⟩
  have b3 := (HB.out.on hb).cell 3
  simp at b3
  have B1 := Lib.hid (Below.on (below_grow w _) hb)
  have K1 := Lib.hid (H'.out.below hb)
  have hm : ¬ (m + (es.length : Int)) < 0 := by omega
  clear hb
  go_wp2_with fail
  refine (hdI_any u ts _ _ K1.out hk (by omega) (by omega)).mono ?_
  rintro e w2 ⟨rfl, hb⟩
  have B2 := Lib.hid (Below.on B1.out hb)
  have hm2 : ¬ (m + (es.length : Int) + (ts.length : Int)) < 0 := by omega
  clear hb b3
  go_wp2
  go_ret
  exact ⟨rfl, B2.out⟩
end Go.Proofs.Ytipndddmjgjgpaa
