/- laws.szSome, toSome, eqSome, markSome, heldSome. -/
import Derived.Test.YtacalanlepjljaaDoorMark
import Derived.Deep.Cut
namespace Go.Proofs.YtacalanlepjljaaDoor
open Go.RowKit

/-- Three owned lists apart from each other, in blocks from lo on and below hi. -/
structure OwnS (w : World) (lo hi : Nat) (sv xv tv : Value) (ss xs ts : List Int) : Prop where
  s : Own w lo sv ss
  x : Own w lo xv xs
  t : Own w lo tv ts
  ap1 : ∀ k, sv.ownBlock = some k → xv.ownBlock = some k → False
  ap2 : ∀ k, sv.ownBlock = some k → tv.ownBlock = some k → False
  ap3 : ∀ k, xv.ownBlock = some k → tv.ownBlock = some k → False
  his : ∀ k, sv.ownBlock = some k → k < hi
  hix : ∀ k, xv.ownBlock = some k → k < hi
  hit : ∀ k, tv.ownBlock = some k → k < hi
theorem OwnS.on {w w' : World} {lo hi : Nat} {sv xv tv : Value} {ss xs ts : List Int} (h : OwnS w lo hi sv xv tv ss xs ts) (hb : Below w.heap.size w w') : OwnS w' lo hi sv xv tv ss xs ts :=
  ⟨own_below h.s hb, own_below h.x hb, own_below h.t hb, h.ap1, h.ap2, h.ap3, h.his, h.hix, h.hit⟩
theorem OwnS.nil (w : World) (lo hi : Nat) : OwnS w lo hi (.slice none 0 0) (.slice none 0 0) (.slice none 0 0) [] [] [] :=
  ⟨World.ownsRow_nil _ _ _ _, World.ownsRow_nil _ _ _ _, World.ownsRow_nil _ _ _ _, fun k hk => by simp [Value.ownBlock] at hk, fun k hk => by simp [Value.ownBlock] at hk, fun k hk => by simp [Value.ownBlock] at hk, fun k hk => by simp [Value.ownBlock] at hk, fun k hk => by simp [Value.ownBlock] at hk, fun k hk => by simp [Value.ownBlock] at hk⟩
theorem OwnS.lower {w : World} {lo lo' hi : Nat} {sv xv tv : Value} {ss xs ts : List Int} (h : OwnS w lo hi sv xv tv ss xs ts) (hl : lo' ≤ lo) : OwnS w lo' hi sv xv tv ss xs ts := ⟨own_mono h.s hl, own_mono h.x hl, own_mono h.t hl, h.ap1, h.ap2, h.ap3, h.his, h.hix, h.hit⟩
theorem OwnS.far {w w' : World} {lo hi lo' hi' : Nat} {sv xv tv : Value} {ss xs ts : List Int} (h : Outside lo hi w w') (ho : OwnS w lo' hi' sv xv tv ss xs ts) (hB : hi ≤ lo') : OwnS w' lo' hi' sv xv tv ss xs ts := ⟨h.own ho.s hB, h.own ho.x hB, h.own ho.t hB, ho.ap1, ho.ap2, ho.ap3, ho.his, ho.hix, ho.hit⟩
theorem OwnS.near {w w' : World} {lo hi lo' hi' : Nat} {sv xv tv : Value} {ss xs ts : List Int} (h : Outside lo hi w w') (ho : OwnS w lo' hi' sv xv tv ss xs ts) (h1 : hi' ≤ lo) : OwnS w' lo' hi' sv xv tv ss xs ts :=
  ⟨h.low ho.s fun k hk => Nat.lt_of_lt_of_le (ho.his k hk) h1, h.low ho.x fun k hk => Nat.lt_of_lt_of_le (ho.hix k hk) h1, h.low ho.t fun k hk => Nat.lt_of_lt_of_le (ho.hit k hk) h1, ho.ap1, ho.ap2, ho.ap3, ho.his, ho.hix, ho.hit⟩

/-- While a talk is copied: the argument's box, the result's, the local one. -/
structure Ts (w : World) (P Q : List Value) (w' : World) : Prop where
  bl : Below w.heap.size w w'
  p : Box w' w.heap.size P
  r : Box w' (w.heap.size + 1) [.slice none 0 0, .int .i64 0, .slice none 0 0, .slice none 0 0]
  l : Box w' (w.heap.size + 2) Q
theorem Ts.on {w w1 w2 : World} {P Q : List Value} (h : Ts w P Q w1) (hb : Below w1.heap.size w1 w2) : Ts w P Q w2 := ⟨Below.on h.bl hb, h.p.on hb, h.r.on hb, h.l.on hb⟩
theorem Ts.put {w w1 : World} {P Q : List Value} (h : Ts w P Q w1) (j : Nat) (v : Value) : Ts w P (Q.set j v) (w1.setCell ⟨w.heap.size + 2, j, none⟩ v) :=
  ⟨h.bl.setCell (by show w.heap.size ≤ w.heap.size + 2; omega) _, h.p.far (by omega) v, h.r.far (by omega) v, h.l.set j v⟩
theorem own_put {w : World} {B N j : Nat} {v u : Value} {xs : List Int} (h : Own w B v xs) (hN : N < B) : Own (w.setCell ⟨N, j, none⟩ u) B v xs := own_heap h fun k hk => Below.heap_setCell _ _ _ _ (by have := (h.lt k hk).1; show k ≠ N; omega)

theorem eqsm_any (q : Int) (sv xv tv sv' xv' tv' : Value) (ss xs ts : List Int) (w : World) (h1 : Ints w sv ss) (h2 : Ints w xv xs) (h3 : Ints w tv ts) (h4 : Ints w sv' ss) (h5 : Ints w xv' xs) (h6 : Ints w tv' ts) :
    Calls Tryd.prog 14 #[.agg #[sv, .int .i64 q, xv, tv], .agg #[sv', .int .i64 q, xv', tv']] w fun e w' => e = .returned (.bool true) ∧ Below w.heap.size w w' := by
  have H1 := Lib.hid h1; have H2 := Lib.hid h2; have H3 := Lib.hid h3; have H4 := Lib.hid h4; have H5 := Lib.hid h5; have H6 := Lib.hid h6
  have HB0 := Lib.hid (Below.on (below_grow w (.cells #[sv, .int .i64 q, xv, tv] 24)) (below_grow _ (.cells #[sv', .int .i64 q, xv', tv'] 24)))
  have hqq : (q != q) = false := by simp
  clear h1 h2 h3 h4 h5 h6
  go_enter Tryd.func14, Tryd.ntmps14
  go_wp2_with fail
  refine (eqs_same sv sv' ss _ (H1.out.below HB0.out) (H4.out.below HB0.out)).mono ?_
  rintro e w1 ⟨rfl, m, hw1⟩
  have hb1 := below_of_drew hw1
  obtain ⟨P1, R1, L1⟩ := boxes2 hb1
  have HB := Lib.hid L1
  have PP := Lib.hid P1; have RR := Lib.hid R1
  have c0 := P1.cell 1; have c1 := R1.cell 1; have c2 := P1.cell 2; have c3 := R1.cell 2
  simp at c0 c1 c2 c3
  clear P1 R1 L1 hb1 hw1
  go_wp2_with fail
  refine (eqs_same xv xv' xs _ (H2.out.below HB.out) (H5.out.below HB.out)).mono ?_
  rintro e w2 ⟨rfl, m2, hw2⟩
  have hb2 := below_of_drew hw2
  have HB2 : Hid (Below w.heap.size w w2) := Lib.hid (Below.on HB.out hb2)
  have P2 := PP.out.on hb2; have R2 := RR.out.on hb2
  clear c0 c1 c2 c3 hw2 hb2
  have c2 := P2.cell 3; have c3 := R2.cell 3
  simp at c2 c3
  clear P2 R2
  go_wp2_with fail
  refine (eqs_same tv tv' ts _ (H3.out.below HB2.out) (H6.out.below HB2.out)).mono ?_
  rintro e w3 ⟨rfl, m3, hw3⟩
  have HB3 : Hid (Below w.heap.size w w3) := Lib.hid (Below.on HB2.out (below_of_drew hw3))
  clear hw3
  go_wp2
  go_ret
  exact ⟨rfl, HB3.out⟩

theorem marks_any (q : Int) (sv xv tv : Value) (ss xs ts : List Int) (m : Int) (lo hi : Nat) (w : World) (h : OwnS w lo hi sv xv tv ss xs ts) (hh : hi ≤ w.heap.size) (hl : ss.length ≤ 4000000) (hm : xs.length ≤ 4000000) (hk : ts.length ≤ 4000000) (m0 : 0 ≤ m) (m1 : m ≤ 900000000) :
    Calls Tryd.prog 17 #[.agg #[sv, .int .i64 q, xv, tv], .int .i64 m] w fun e w' => e = .returned (.int .i64 (m + ss.length + xs.length + ts.length)) ∧ OwnS w' lo hi sv xv tv (markTo ss m ss.length) (markTo xs (m + ss.length) xs.length) (markTo ts (m + ss.length + xs.length) ts.length) ∧ Outside lo hi w w' := by
  have H := Lib.hid h
  clear h
  go_enter Tryd.func17, Tryd.ntmps17
  go_wp2_with fail
  refine (markI_any sv ss m lo _ (H.out.s.alloc _) hl m0 (by omega)).mono ?_
  rintro e w1 ⟨rfl, s1, g1⟩
  have o1 := Outside.of_grown (lo := lo) (hi := hi) g1 fun k hk => ⟨(H.out.s.lt k hk).1, H.out.his k hk⟩
  have BX1 := Lib.hid (o1.box (Box.made w [sv, .int .i64 q, xv, tv] _) hh)
  have b1 := BX1.out.cell 2
  simp at b1
  have X1 : Hid (Own w1 lo xv xs) := Lib.hid ((H.out.x.alloc _).kept g1 (by
    cases hv : xv.ownBlock with
    | none => exact .inl rfl
    | some k => exact .inr fun e => H.out.ap1 k e.symm hv))
  have T1 : Hid (Own w1 lo tv ts) := Lib.hid ((H.out.t.alloc _).kept g1 (by
    cases hv : tv.ownBlock with
    | none => exact .inl rfl
    | some k => exact .inr fun e => H.out.ap2 k e.symm hv))
  have S1 := Lib.hid s1
  have O1 : Hid (Outside lo hi w w1) := Lib.hid (Outside.alloc _ o1)
  have hs1 := O1.out.size
  clear o1 g1 s1
  go_wp2_with fail
  refine (markI_any xv xs _ lo _ X1.out hm (by omega) (by omega)).mono ?_
  rintro e w2 ⟨rfl, x2, g2⟩
  have o2 := Outside.of_grown (lo := lo) (hi := hi) g2 fun k hk => ⟨(H.out.x.lt k hk).1, H.out.hix k hk⟩
  have b2 := (o2.box BX1.out hh).cell 3
  simp at b2
  have T2 : Hid (Own w2 lo tv ts) := Lib.hid (T1.out.kept g2 (by
    cases hv : tv.ownBlock with
    | none => exact .inl rfl
    | some k => exact .inr fun e => H.out.ap3 k e.symm hv))
  have S2 := Lib.hid (S1.out.kept g2 (by
    cases hv : sv.ownBlock with
    | none => exact .inl rfl
    | some k => exact .inr fun e => H.out.ap1 k hv e.symm))
  have X2 := Lib.hid x2
  have O2 : Hid (Outside lo hi w w2) := Lib.hid (O1.out.trans o2)
  clear o2 g2 x2 b1 S1 X1 T1
  go_wp2_with fail
  refine (markI_any tv ts _ lo _ T2.out hk (by omega) (by omega)).mono ?_
  rintro e w3 ⟨rfl, t3, g3⟩
  have O3 : Hid (Outside lo hi w w3) := Lib.hid (O2.out.trans (Outside.of_grown g3 fun k hk => ⟨(H.out.t.lt k hk).1, H.out.hit k hk⟩))
  have W3 : Hid (OwnS w3 lo hi sv xv tv (markTo ss m ss.length) (markTo xs (m + ss.length) xs.length) (markTo ts (m + ss.length + xs.length) ts.length)) := Lib.hid ⟨S2.out.kept g3 (by
    cases hv : sv.ownBlock with
    | none => exact .inl rfl
    | some k => exact .inr fun e => H.out.ap2 k hv e.symm), X2.out.kept g3 (by
    cases hv : xv.ownBlock with
    | none => exact .inl rfl
    | some k => exact .inr fun e => H.out.ap3 k hv e.symm), t3, H.out.ap1, H.out.ap2, H.out.ap3, H.out.his, H.out.hix, H.out.hit⟩
  clear g3 t3 b2
  go_wp2
  go_ret
  exact ⟨rfl, W3.out, O3.out⟩

theorem helds_any (q : Int) (sv xv tv : Value) (ss xs ts : List Int) (m : Int) (w : World) (h1 : Ints w sv ss) (h2 : Ints w xv xs) (h3 : Ints w tv ts) (hl : ss.length ≤ 4000000) (hm : xs.length ≤ 4000000) (hk : ts.length ≤ 4000000) (m0 : 0 ≤ m) (m1 : m ≤ 900000000) (e1 : ∀ j, j < ss.length → nth ss j = m + j) (e2 : ∀ j, j < xs.length → nth xs j = m + ss.length + j) (e3 : ∀ j, j < ts.length → nth ts j = m + ss.length + xs.length + j) :
    Calls Tryd.prog 18 #[.agg #[sv, .int .i64 q, xv, tv], .int .i64 m] w fun e w' => e = .returned (.int .i64 (m + ss.length + xs.length + ts.length)) ∧ Below w.heap.size w w' := by
  have H1 := Lib.hid h1; have H2 := Lib.hid h2; have H3 := Lib.hid h3
  have E1 := Lib.hid e1; have E2 := Lib.hid e2; have E3 := Lib.hid e3
  clear h1 h2 h3 e1 e2 e3
  go_enter Tryd.func18, Tryd.ntmps18
  go_wp2_with fail
  refine (heldI_any sv ss m _ (H1.out.below (below_grow _ _)) hl m0 (by omega) E1.out).mono ?_
  rintro e w1 ⟨rfl, rfl⟩
  go_wp2_with fail
  refine (heldI_any xv xs _ _ (H2.out.below (below_grow _ _)) hm (by omega) (by omega) E2.out).mono ?_
  rintro e w2 ⟨rfl, rfl⟩
  go_wp2_with fail
  refine (heldI_any tv ts _ _ (H3.out.below (below_grow _ _)) hk (by omega) (by omega) E3.out).mono ?_
  rintro e w3 ⟨rfl, rfl⟩
  go_wp2
  go_ret
  exact ⟨rfl, below_grow _ _⟩
end Go.Proofs.YtacalanlepjljaaDoor
