/- laws: graphs and turns copied, compared, marked, held. -/
import Derived.Test.YtlcegpmhlnilfaaBMark
import Derived.Deep.Cut
namespace Go.Proofs.Ytlcegpmhlnilfaa
open Go.RowKit

theorem szgr_any (p : Int) (a : Option Addr) (n c : Nat) (left : Int) (w : World) (hn : n ≤ maxLen) (h0 : 0 ≤ left) (h1 : left ≤ 1048576) :
    Calls Try.prog 12 #[.agg #[.int .i64 p, .slice a n c], .int .i64 left] w fun e w' => ∃ r, e = .returned (.int .i64 r) ∧ Below w.heap.size w w' ∧ (r = -1 ∨ (0 ≤ r ∧ r ≤ left ∧ n ≤ 1048576)) := by
  go_enter Try.func12, Try.ntmps12
  go_wp2_with fail
  refine (szi_any a n c left _ hn h0 h1).mono ?_
  rintro e w1 ⟨rfl, rfl⟩
  rcases szI_cases n left with ⟨e1, e2⟩ | ⟨e1, e2⟩
  · rw [e1]
    go_wp2
    go_ret
    exact ⟨_, rfl, below_grow _ _, .inl rfl⟩
  · rw [e1]
    clear e1
    go_wp2
    go_ret
    exact ⟨_, rfl, below_grow _ _, .inr ⟨by omega, by omega, by omega⟩⟩

set_option maxHeartbeats 800000 in
theorem togr_any (p : Int) (a : Option Addr) (c : Nat) (es : List Int) (w : World) (h : ArgI w a es) (hl : es.length ≤ 1048576) :
    Calls Try.prog 14 #[.agg #[.int .i64 p, .slice a es.length c]] w fun e w' => ∃ v, e = .returned (.agg #[.int .i64 p, v]) ∧ Own w' w.heap.size v es ∧ Below w.heap.size w w' := by
  obtain ⟨n, hn⟩ : ∃ n, es.length = n := ⟨_, rfl⟩
  have HA := Lib.hid (fun w' (hb : Below w.heap.size w w') => toI_any a c es w' (h.on hb) hl)
  have HN := Lib.hid hn
  rw [hn] at HA ⊢
  have W3 := bx3 (w := w) [.int .i64 p, .slice a n c] [.int .i64 0, .slice none 0 0] [.int .i64 p, .slice none 0 0] 27 30 30
  obtain ⟨W, hWe, hWs, hW, b0, b1, b2⟩ := W3.out
  have B0 : Hid (Below W.heap.size W (((w.alloc (.cells #[.int .i64 p, .slice a n c] 27)).alloc (.cells #[.int .i64 0, .slice none 0 0] 30)).alloc (.cells #[.int .i64 p, .slice none 0 0] 30))) := Lib.hid (by rw [hWe]; exact Below.refl _ _)
  have HW := Lib.hid hW
  have HS := Lib.hid hWs
  have HWE := Lib.hid hWe
  have BR := Lib.hid b1
  have BO := Lib.hid b2
  clear W3 hWe hWs hW b0 b1 b2 h hl hn
  go_enter Try.func14, Try.ntmps14
  go_wp2_with fail
  refine (HA.out _ (by rw [← HWE.out]; exact HW.out)).mono ?_
  rintro e w1 ⟨v, rfl, ow, hb⟩
  rw [← HWE.out] at ow hb
  obtain ⟨va, vc, hv⟩ := ow.form
  rw [HN.out] at hv
  subst hv
  have r0 := (BR.out.on hb).cell 0
  have r1 := (BR.out.on hb).cell 1
  have f0 := (BR.out.on hb).frozen 0
  have f1 := (BR.out.on hb).frozen 1
  have c0 := (BO.out.on hb).cell 0
  have c1 := (BO.out.on hb).cell 1
  have g0 := (BO.out.on hb).frozen 0
  have g1 := (BO.out.on hb).frozen 1
  simp at r0 r1 c0 c1
  have OW := Lib.hid ow
  have BL := Lib.hid (HW.out.trans (hb.mono HW.out.size))
  clear ow hb
  go_wp2
  refine bodyPost_ret (v := .agg #[.int .i64 p, .slice va n vc]) ?_ rfl ⟨_, rfl, ?_, ?_⟩
  · simp [results, Try.results14, go_sem, r0, r1]
  · refine own_mono (own_heap OW.out fun k hk => ?_) HW.out.size
    have hk1 := (OW.out.lt k hk).1
    have hs := HS.out
    rw [Below.heap_setCell _ _ _ _ (by show k ≠ w.heap.size + 1; omega), Below.heap_setCell _ _ _ _ (by show k ≠ w.heap.size + 1; omega), Below.heap_setCell _ _ _ _ (by show k ≠ w.heap.size + 1 + 1; omega)]
  · exact ((BL.out.setCell (by show w.heap.size ≤ w.heap.size + 1 + 1; omega) _).setCell (by show w.heap.size ≤ w.heap.size + 1; omega) _).setCell (by show w.heap.size ≤ w.heap.size + 1; omega) _

theorem eqgr_any (p : Int) (v v' : Value) (es : List Int) (w : World) (h1 : Ints w v es) (h2 : Ints w v' es) :
    Calls Try.prog 16 #[.agg #[.int .i64 p, v], .agg #[.int .i64 p, v']] w fun e w' => e = .returned (.bool true) ∧ Below w.heap.size w w' := by
  obtain ⟨p0, p1, pl⟩ := boxes2 (P := [.int .i64 p, v]) (R := [.int .i64 p, v']) (Below.refl ((w.alloc (.cells #[.int .i64 p, v] 30)).alloc (.cells #[.int .i64 p, v'] 30)).heap.size _)
  have a0 := p0.cell 0
  have a1 := p0.cell 1
  have b0 := p1.cell 0
  have b1 := p1.cell 1
  simp at a0 a1 b0 b1
  have PL := Lib.hid pl
  have H1 := Lib.hid (h1.below pl)
  have H2 := Lib.hid (h2.below pl)
  have hd : (p != p) = false := by simp
  clear p0 p1 pl h1 h2
  go_enter Try.func16, Try.ntmps16
  go_wp2_with fail
  refine (eqI_any v v' es _ H1.out H2.out).mono ?_
  rintro e w1 ⟨rfl, hb⟩
  have B1 := Lib.hid (Below.on PL.out hb)
  clear hb a0 a1 b0 b1
  go_wp2
  go_ret
  exact ⟨rfl, B1.out⟩

theorem mkgr_any (p : Int) (lo hi : Nat) (v : Value) (es : List Int) (m : Int) (w : World) (h : Hl w (.l lo hi v es)) (hl : es.length ≤ 4000000) (m0 : 0 ≤ m) (m1 : m ≤ 1000000000) :
    Calls Try.prog 20 #[.agg #[.int .i64 p, v], .int .i64 m] w fun e w' => e = .returned (.int .i64 (m + es.length)) ∧ Hl w' (.l lo hi v (markTo es m es.length)) ∧ Outside lo hi w w' := by
  have H := Lib.hid (h.on (below_grow w (.cells #[.int .i64 p, v] 30)))
  clear h
  go_enter Try.func20, Try.ntmps20
  go_wp2_with fail
  refine (mkI_any lo hi v es m _ H.out hl m0 m1).mono ?_
  rintro e w1 ⟨rfl, hh, ho⟩
  have HH := Lib.hid hh
  have HO := Lib.hid (Outside.alloc _ ho)
  clear hh ho
  go_wp2
  go_ret
  exact ⟨rfl, HH.out, HO.out⟩

theorem pair_on {w w' : World} {lo hi : Nat} {v u : Value} {xs ys zs : List Int} (h : Hl w (.p lo hi v u xs ys)) (ho : Own w' lo v zs) (hg : w.grownBy w' v.ownBlock) : Hl w' (.p lo hi v u zs ys) :=
  ⟨ho, h.2.1.kept hg (by
    cases hv : u.ownBlock with
    | none => exact .inl rfl
    | some k => exact .inr fun e => h.2.2.1 k e.symm hv), h.2.2.1, h.2.2.2.1, h.2.2.2.2.1, Nat.le_trans h.2.2.2.2.2 hg.size⟩
theorem pair_on' {w w' : World} {lo hi : Nat} {v u : Value} {xs ys zs : List Int} (h : Hl w (.p lo hi v u xs ys)) (ho : Own w' lo u zs) (hg : w.grownBy w' u.ownBlock) : Hl w' (.p lo hi v u xs zs) :=
  ⟨h.1.kept hg (by
    cases hv : v.ownBlock with
    | none => exact .inl rfl
    | some k => exact .inr fun e => h.2.2.1 k hv e.symm), ho, h.2.2.1, h.2.2.2.1, h.2.2.2.2.1, Nat.le_trans h.2.2.2.2.2 hg.size⟩
theorem mkgrp_any (p : Int) (lo hi : Nat) (v u : Value) (es ts : List Int) (m : Int) (w : World) (h : Hl w (.p lo hi v u es ts)) (hl : es.length ≤ 4000000) (m0 : 0 ≤ m) (m1 : m ≤ 1000000000) :
    Calls Try.prog 20 #[.agg #[.int .i64 p, v], .int .i64 m] w fun e w' => e = .returned (.int .i64 (m + es.length)) ∧ Hl w' (.p lo hi v u (markTo es m es.length) ts) ∧ Outside lo hi w w' := by
  have H := Lib.hid (h.on (below_grow w (.cells #[.int .i64 p, v] 30)))
  clear h
  go_enter Try.func20, Try.ntmps20
  go_wp2_with fail
  refine (markI_any v es m lo _ H.out.1 hl m0 m1).mono ?_
  rintro e w1 ⟨rfl, oo, gr⟩
  have HH := Lib.hid (pair_on H.out oo gr)
  have HO := Lib.hid (Outside.alloc _ (Outside.of_grown (lo := lo) (hi := hi) gr fun k hk => ⟨(H.out.1.lt k hk).1, H.out.2.2.2.1 k hk⟩))
  clear oo gr
  go_wp2
  go_ret
  exact ⟨rfl, HH.out, HO.out⟩

theorem eqtr_any (p ask : Int) (v v' u u' : Value) (es ts : List Int) (w : World) (h1 : Ints w v es) (h2 : Ints w v' es) (k1 : Ints w u ts) (k2 : Ints w u' ts) :
    Calls Try.prog 55 #[.agg #[.int .i64 p, v, .int .i64 ask, u], .agg #[.int .i64 p, v', .int .i64 ask, u']] w fun e w' => e = .returned (.bool true) ∧ Below w.heap.size w w' := by
  obtain ⟨p0, p1, pl⟩ := boxes2 (P := [.int .i64 p, v, .int .i64 ask, u]) (R := [.int .i64 p, v', .int .i64 ask, u']) (Below.refl ((w.alloc (.cells #[.int .i64 p, v, .int .i64 ask, u] 60)).alloc (.cells #[.int .i64 p, v', .int .i64 ask, u'] 60)).heap.size _)
  have a0 := p0.cell 0
  have a1 := p0.cell 1
  have b0 := p1.cell 0
  have b1 := p1.cell 1
  simp at a0 a1 b0 b1
  have P0 := Lib.hid p0
  have P1 := Lib.hid p1
  have PL := Lib.hid pl
  have H1 := Lib.hid (h1.below pl)
  have H2 := Lib.hid (h2.below pl)
  have K1 := Lib.hid (k1.below pl)
  have K2 := Lib.hid (k2.below pl)
  have hd : (ask != ask) = false := by simp
  clear p0 p1 pl h1 h2 k1 k2
  go_enter Try.func55, Try.ntmps55
  go_wp2_with fail
  refine (eqgr_any p v v' es _ H1.out H2.out).mono ?_
  rintro e w1 ⟨rfl, hb⟩
  have B1 := Lib.hid (Below.on PL.out hb)
  clear a0 a1 b0 b1
  have a2 := (P0.out.on hb).cell 2
  have a3 := (P0.out.on hb).cell 3
  have b2 := (P1.out.on hb).cell 2
  have b3 := (P1.out.on hb).cell 3
  simp at a2 a3 b2 b3
  have K3 := Lib.hid (K1.out.below hb)
  have K4 := Lib.hid (K2.out.below hb)
  clear hb
  go_wp2_with fail
  refine (eqI_any u u' ts _ K3.out K4.out).mono ?_
  rintro e w2 ⟨rfl, hb⟩
  have B2 := Lib.hid (Below.on B1.out hb)
  clear hb a2 a3 b2 b3
  go_wp2
  go_ret
  exact ⟨rfl, B2.out⟩

end Go.Proofs.Ytlcegpmhlnilfaa
