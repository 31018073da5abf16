/- GphS, GphT, GphM, OrdS, BtwS, BtsS, TokS, TmdS, TofS, in one text. -/
import Derived.Test.YtiinifcepcaonaaDoorBGr
import Derived.Test.YtiinifcepcaonaaDoorBLot
import Derived.Test.YtiinifcepcaonaaDoorAllS
import Derived.Test.YtiinifcepcaonaaDoorBReg
import Derived.Test.YtiinifcepcaonaaDoorBSol
/- spec: OrderOk, GraphOk. -/
namespace Go.Proofs.YtiinifcepcaonaaDoor
open Go.RowKit

/-- What fits in an int. -/
def intIn (x : Int) : Prop := -9223372036854775808 ≤ x ∧ x ≤ 9223372036854775807
theorem w64_in {n : Int} (h0 : -9223372036854775808 ≤ n) (h1 : n ≤ 9223372036854775807) : wrap64 n = n := by unfold wrap64; omega
theorem below_drew' {w w' : World} {B : Nat} (h : Below B w w') : Below B w w'.drew := h.drew

/-- What the first k rounds of OrderOk have shown. -/
structure OdTo (o : List Int) (n k : Nat) : Prop where
  bd : ∀ j, j < k → 0 ≤ nth o j ∧ nth o j ≤ (n : Int) - 1
  inj : ∀ i j, i < j → j < k → nth o i ≠ nth o j

/-- What the first k rounds of GraphOk have shown. -/
structure GkTo (p : Int) (es : List Int) (k : Nat) : Prop where
  ed : ∀ j, j < k → 1 ≤ p → Ed p (nth es j)
  asc : ∀ j, j + 1 < k → nth es j < nth es (j + 1)

end Go.Proofs.YtiinifcepcaonaaDoor

/- spec: OrderThen, OrderBack, l7Moved, GraphMoved. -/
namespace Go.Proofs.YtiinifcepcaonaaDoor
open Go.RowKit

def thB (a b : List Int) : Bool := odB a a.length && odB b a.length
/-- OrderThen. -/
def thL (a b : List Int) : List Int := if thB a b then thn a b else []
theorem thL_yes {a b : List Int} (h : thB a b = true) : thL a b = thn a b := by simp [thL, h]
theorem thL_no {a b : List Int} (h : thB a b = false) : thL a b = [] := by simp [thL, h]
theorem thB_true {a b : List Int} : thB a b = true ↔ Od a a.length ∧ Od b a.length := by unfold thB; rw [Bool.and_eq_true, odB_true, odB_true]
/-- OrderBack. -/
def bkL (a : List Int) : List Int := if odB a a.length then bck a else []
theorem bkL_yes {a : List Int} (h : odB a a.length = true) : bkL a = bck a := by simp [bkL, h]
theorem bkL_no {a : List Int} (h : odB a a.length = false) : bkL a = [] := by simp [bkL, h]
end Go.Proofs.YtiinifcepcaonaaDoor

/- spec: l7Moved, GraphMoved. -/
namespace Go.Proofs.YtiinifcepcaonaaDoor
open Go.RowKit

theorem movTo_few {o es : List Int} {p : Int} (ho : Od o p) (hg : Gk p es) : ∀ n : Nat, (movTo o es n).length ≤ n
  | 0 => Nat.le_refl _
  | n + 1 => by
    rw [movTo, List.length_append]
    have := movTo_few ho hg n
    have := movIn_few (c := n) ho hg (Nat.le_refl _)
    omega
/-- A box that came in, the answer's box, a graph under way: its box, its edges in a list of the call's own. -/
structure Mo (w : World) (P R : List Value) (p : Int) (ev : Value) (xs : List Int) (wr : World) : Prop where
  bp : Box wr w.heap.size P
  br : Box wr (w.heap.size + 1) R
  bo : Box wr (w.heap.size + 1 + 1) [.int .i64 p, ev]
  ow : Own wr (w.heap.size + 3) ev xs
  be : Below w.heap.size w wr
theorem Box.grownK {w w' : World} {N : Nat} {r : Option Nat} {cs : List Value} (h : Box w N cs) (hg : w.grownBy w' r) (hr : ∀ b, r = some b → b ≠ N) : Box w' N cs := by
  have hl := h.lt
  obtain ⟨T, h⟩ := h
  exact ⟨T, by rw [hg.block N hl (fun e => hr N e.symm rfl)]; exact h⟩
theorem Mo.app {w wr w2 : World} {P R : List Value} {p : Int} {ev v2 : Value} {xs ys : List Int} (h : Mo w P R p ev xs wr) (ho : Own w2 (w.heap.size + 3) v2 ys) (hg : wr.grownBy w2 ev.ownBlock) :
    Box w2 (w.heap.size + 1 + 1) [.int .i64 p, ev] ∧ Mo w P R p v2 ys (w2.setCell ⟨w.heap.size + 1 + 1, 1, none⟩ v2) := by
  have hlo : ∀ b, ev.ownBlock = some b → w.heap.size + 3 ≤ b := fun b hb => (h.ow.lt b hb).1
  have hsz := h.bo.lt
  have b0 := h.bp.grownK hg (fun b hb => by have := hlo b hb; omega)
  have b1 := h.br.grownK hg (fun b hb => by have := hlo b hb; omega)
  have b2 := h.bo.grownK hg (fun b hb => by have := hlo b hb; omega)
  refine ⟨b2, b0.far (by omega) _, b1.far (by omega) _, by simpa using b2.set 1 v2, ?_, ((h.be.grown hg (by omega) (fun b hb => by have := hlo b hb; omega)).setCell (by show w.heap.size ≤ w.heap.size + 1 + 1; omega) _)⟩
  exact own_heap ho fun b hb => Below.heap_setCell _ _ _ _ (by have := (ho.lt b hb).1; show b ≠ w.heap.size + 1 + 1; omega)
theorem below_set2 {w w1 : World} {N : Nat} {x y : Value} (h : Below w.heap.size w w1) (hN : w.heap.size ≤ N) : Below w.heap.size w ((w1.setCell ⟨N, 0, none⟩ x).setCell ⟨N, 1, none⟩ y) := (h.setCell hN _).setCell hN _
theorem own_set2 {w1 : World} {N B B' : Nat} {v x y : Value} {xs : List Int} (h : Own w1 B v xs) (n1 : N < B) (hB : B' ≤ B) : Own ((w1.setCell ⟨N, 0, none⟩ x).setCell ⟨N, 1, none⟩ y) B' v xs :=
  own_mono (own_heap h fun b hb => (Below.heap_setCell _ _ _ _ (by have := (h.lt b hb).1; show b ≠ N; omega)).trans (Below.heap_setCell _ _ _ _ (by have := (h.lt b hb).1; show b ≠ N; omega))) hB
theorem cde_parts {o : List Int} {p e : Int} (ho : Od o p) (he : Ed p e) : ∃ (qa qb : Nat) (x y : Int), e.tdiv 10 = (qa : Int) ∧ e.tmod 10 = (qb : Int) ∧ qa < o.length ∧ qb < o.length ∧ nth o qa = x ∧ nth o qb = y ∧ 0 ≤ x ∧ x ≤ 4 ∧ 0 ≤ y ∧ y ≤ 4 ∧ x ≠ y ∧ cde o e = 10 * min x y + max x y := by
  have h5 := ho.m5
  have hl := ho.len
  have ea := he.a0
  have eb := he.ab
  have ep := he.bp
  have ha := ho.at_ (x := e.tdiv 10) (by omega) (by omega)
  have hb := ho.at_ (x := e.tmod 10) (by omega) (by omega)
  have hne : app o (e.tdiv 10) ≠ app o (e.tmod 10) := fun h => by have := ho.at_inj (by omega) (by omega) (by omega) (by omega) h; omega
  exact ⟨(e.tdiv 10).toNat, (e.tmod 10).toNat, app o (e.tdiv 10), app o (e.tmod 10), by omega, by omega, by omega, by omega, rfl, rfl, by omega, by omega, by omega, by omega, hne, rfl⟩

end Go.Proofs.YtiinifcepcaonaaDoor

/- spec: l7Orders. -/
namespace Go.Proofs.YtiinifcepcaonaaDoor
open Go.RowKit

def fitTo (xs : List Int) (p : Nat) : Nat → Bool
  | 0 => true
  | i + 1 => fitTo xs p i && decide (nth xs i ≠ p)
theorem fitTo_true {xs : List Int} {p : Nat} : ∀ {n : Nat}, fitTo xs p n = true ↔ ∀ i, i < n → nth xs i ≠ p
  | 0 => by simp [fitTo]
  | n + 1 => by
    rw [fitTo, Bool.and_eq_true, fitTo_true, decide_eq_true_eq]
    constructor
    · rintro ⟨h1, h2⟩ i hi
      by_cases e : i < n
      · exact h1 i e
      · obtain rfl : i = n := by omega
        exact h2
    · intro h; exact ⟨fun i hi => h i (by omega), h n (by omega)⟩
theorem fitTo_all {xs : List Int} {p k : Nat} (hk : xs.length = k) : fitTo xs p k = fits xs p := by
  have h : fitTo xs p k = true ↔ fits xs p = true := by
    rw [fitTo_true, fits_true]
    constructor
    · intro h hin
      obtain ⟨j, hj, e⟩ := nth_of hin
      exact h j (by omega) e
    · intro h i hi e
      exact h (by rw [← e]; exact nth_mem (by omega))
  cases h1 : fitTo xs p k <;> cases h2 : fits xs p <;> simp_all
theorem nxtIn_len (xs : List Int) : ∀ n, (nxtIn xs n).length ≤ n
  | 0 => Nat.le_refl _
  | n + 1 => by
    rw [nxtIn, List.length_append]
    have := nxtIn_len xs n
    split <;> simp <;> omega
theorem nxtTo_len (m : Nat) (xss : List (List Int)) : ∀ n, (nxtTo m xss n).length ≤ n * m
  | 0 => by simp [nxtTo]
  | n + 1 => by
    rw [nxtTo, List.length_append, Nat.succ_mul]
    have := nxtTo_len m xss n
    have := nxtIn_len (row xss n) m
    omega
theorem ordTo_len {m : Nat} (hm : m ≤ 5) : ∀ k, (ordTo m k).length ≤ 5 ^ k
  | 0 => by simp [ordTo]
  | k + 1 => by
    rw [ordTo, Nat.pow_succ]
    exact Nat.le_trans (nxtTo_len _ _ _) (Nat.mul_le_mul (ordTo_len hm k) hm)
theorem ordTo_few {m k : Nat} (hm : m ≤ 5) (hk : k ≤ 5) : (ordTo m k).length ≤ 3125 :=
  Nat.le_trans (ordTo_len hm k) (Nat.le_trans (Nat.pow_le_pow_right (by decide) hk) (by decide))
theorem ordTo_row {m k j : Nat} (hj : j < (ordTo m k).length) : (row (ordTo m k) j).length = k := (ordTo_mem.1 (row_mem hj)).1
theorem nxtIn_yes {xs : List Int} {p : Nat} (h : fits xs p = true) : nxtIn xs (p + 1) = nxtIn xs p ++ [xs ++ [(p : Int)]] := by rw [nxtIn, if_pos h]
theorem nxtIn_no {xs : List Int} {p : Nat} (h : fits xs p = false) : nxtIn xs (p + 1) = nxtIn xs p := by rw [nxtIn, if_neg (by simp [h]), List.append_nil]

end Go.Proofs.YtiinifcepcaonaaDoor

/- spec: l7Same, GraphMoved, OrdersBetween. -/
namespace Go.Proofs.YtiinifcepcaonaaDoor
open Go.RowKit

/-- GraphMoved. -/
def gmB (p : Int) (es o : List Int) : Bool := gkB p es && odB o p
def gmP (p : Int) (es o : List Int) : Int := if gmB p es o then p else 0
def gmE (p : Int) (es o : List Int) : List Int := if gmB p es o then mov o es else []
theorem gm_yes {p : Int} {es o : List Int} (h : gmB p es o = true) : gmP p es o = p ∧ gmE p es o = mov o es := by simp [gmP, gmE, h]
theorem gm_no {p : Int} {es o : List Int} (h : gmB p es o = false) : gmP p es o = 0 ∧ gmE p es o = [] := by simp [gmP, gmE, h]
theorem gmB_true {p : Int} {es o : List Int} : gmB p es o = true ↔ Gk p es ∧ Od o p := by unfold gmB; rw [Bool.and_eq_true, gkB_true, odB_true]
def GrPost (p : Int) (es : List Int) (w : World) (e : Ending) (w' : World) : Prop := ∃ v, e = .returned (.agg #[.int .i64 p, v]) ∧ Own w' w.heap.size v es ∧ Below w.heap.size w w'

end Go.Proofs.YtiinifcepcaonaaDoor

/- spec: OrdersBetween. -/
namespace Go.Proofs.YtiinifcepcaonaaDoor
open Go.RowKit

/-- Of the lists in a list those that are taken, so far; W is the world in which the walk began to make memory. -/
structure SolBu (W : World) (hi0 hi2 : Nat) (wr : World) (lv : Value) (us : List Value) (L : List (List Int)) (c : List Int → Bool) (v : Value) (us' : List Value) (k : Nat) : Prop where
  own : OwnSS wr W.heap.size wr.heap.size v us' (solTo c L k)
  new : ∀ b, v.ownBlock = some b → b < hi0 ∨ hi2 ≤ b
  src : ∀ j, j < us'.length → ∃ i, i < k ∧ val us' j = val us i
  lots : OwnSS wr hi0 hi2 lv us L
  box : Below W.heap.size W wr
  size : hi2 ≤ wr.heap.size
  base : W.heap.size ≤ hi0
section
variable {W : World} {hi0 hi2 : Nat} {wr : World} {lv : Value} {us : List Value} {L : List (List Int)} {c : List Int → Bool} {v : Value} {us' : List Value} {k : Nat}
theorem SolBu.on {w3 : World} (h : SolBu W hi0 hi2 wr lv us L c v us' k) (hb : Below wr.heap.size wr w3) : SolBu W hi0 hi2 w3 lv us L c v us' k :=
  ⟨h.own.onAll hb, h.new, h.src, h.lots.on hb, Below.on h.box hb, Nat.le_trans h.size hb.size, h.base⟩
theorem SolBu.pass (h : SolBu W hi0 hi2 wr lv us L c v us' k) (hc : c (row L k) = false) : SolBu W hi0 hi2 wr lv us L c v us' (k + 1) :=
  ⟨by rw [solTo_no hc]; exact h.own, h.new, fun j hj => by obtain ⟨i, hi, e⟩ := h.src j hj; exact ⟨i, by omega, e⟩, h.lots, h.box, h.size, h.base⟩
theorem SolBu.take {w4 : World} {v' : Value} (h : SolBu W hi0 hi2 wr lv us L c v us' k) (hk : k < us.length) (hc : c (row L k) = true)
    (ho : w4.ownsRow W.heap.size 33 1 v' (us' ++ [val us k]).length (us' ++ [val us k])) (hg : wr.grownBy w4 v.ownBlock) (hv : v'.ownBlock = v.ownBlock ∨ ∃ b, v'.ownBlock = some b ∧ wr.heap.size ≤ b) : SolBu W hi0 hi2 w4 lv us L c v' (us' ++ [val us k]) (k + 1) := by
  have hsz := h.size
  refine ⟨?_, fun b hb => ?_, fun j hj => ?_, ?_, h.box.grown hg h.box.size (fun b hb => (h.own.outer.lt b hb).1), Nat.le_trans h.size hg.size, h.base⟩
  · rw [solTo_yes hc]
    refine OwnSS.app h.own hg.size hg.size (Nat.le_refl _) (own_mono (h.lots.rows k hk) h.base) (fun j hj q h1 h2 => ?_) (fun q h1 h2 => ?_) ho hg hv
    · obtain ⟨i, hi, e⟩ := h.src j hj
      rw [e] at h1
      exact h.lots.apart i k hi hk q h1 h2
    · have := h.lots.his k hk q h1
      have := ((h.lots.rows k hk).lt q h1).1
      have := h.new q h2
      omega
  · rcases hv with hv | ⟨b', hv, hb'⟩
    · exact h.new b (by rw [← hv]; exact hb)
    · rw [hv] at hb; cases hb
      exact .inr (Nat.le_trans h.size hb')
  · simp at hj
    by_cases e : j < us'.length
    · obtain ⟨i, hi, e2⟩ := h.src j e
      exact ⟨i, by omega, by rw [val_app e]; exact e2⟩
    · obtain rfl : j = us'.length := by omega
      exact ⟨k, by omega, val_last⟩
  · exact h.lots.heap fun q h1 h2 => hg.block q (by omega) (fun e => by have := h.new q e.symm; omega)
end
def BtPost (p : Int) (g : List Int) (q : Int) (h : List Int) (w : World) (e : Ending) (w' : World) : Prop := ∃ v us, e = .returned v ∧ OwnSS w' w.heap.size w'.heap.size v us (btw p g q h) ∧ Below w.heap.size w w'
theorem ints_few {w : World} {v : Value} {xs : List Int} (h : Ints w v xs) : xs.length ≤ maxLen := by
  rcases h with ⟨_, rfl⟩ | ⟨_, _, _, hl, _⟩
  · simp
  · exact hl
theorem btB_no {p q : Int} {g h : List Int} (hb : btB p g q h = false) : gkB p g = false ∨ (gkB p g = true ∧ gkB q h = false) ∨ (gkB p g = true ∧ gkB q h = true ∧ p ≠ q) := by
  unfold btB at hb
  cases h1 : gkB p g
  · exact .inl rfl
  · cases h2 : gkB q h
    · exact .inr (.inl ⟨rfl, rfl⟩)
    · exact .inr (.inr ⟨rfl, rfl, fun e => by subst e; simp [h1, h2] at hb⟩)

/-- A world behind the walk's, and (when it is made) a list of numbers in it. -/
def Mz (wo : World) (M : List Int) (z : Option Value) (w' : World) : Prop := Below wo.heap.size wo w' ∧ ∀ v, z = some v → Ints w' v M
end Go.Proofs.YtiinifcepcaonaaDoor

/- spec: TurnOk. -/
namespace Go.Proofs.YtiinifcepcaonaaDoor
open Go.RowKit

theorem boxes4 {w : World} (P R O Q : List Value) (T1 T2 T3 T4 : TypeId) : Hid (∃ W : World, W = (((w.alloc (.cells P.toArray T1)).alloc (.cells R.toArray T2)).alloc (.cells O.toArray T3)).alloc (.cells Q.toArray T4) ∧
    Below w.heap.size w W ∧ Box W w.heap.size P ∧ Box W (w.heap.size + 1) R ∧ Box W (w.heap.size + 1 + 1) O ∧ Box W (w.heap.size + 1 + 1 + 1) Q) := by
  have h1 := Box.made w P T1
  have h2 := Box.made (w.alloc (.cells P.toArray T1)) R T2
  have h3 := Box.made ((w.alloc (.cells P.toArray T1)).alloc (.cells R.toArray T2)) O T3
  have h4 := Box.made (((w.alloc (.cells P.toArray T1)).alloc (.cells R.toArray T2)).alloc (.cells O.toArray T3)) Q T4
  rw [show (w.alloc (.cells P.toArray T1)).heap.size = w.heap.size + 1 by simp] at h2
  rw [show ((w.alloc (.cells P.toArray T1)).alloc (.cells R.toArray T2)).heap.size = w.heap.size + 1 + 1 by simp] at h3
  rw [show (((w.alloc (.cells P.toArray T1)).alloc (.cells R.toArray T2)).alloc (.cells O.toArray T3)).heap.size = w.heap.size + 1 + 1 + 1 by simp] at h4
  exact Lib.hid ⟨_, rfl, (below_grow w _).trans (((below_grow _ _).mono (by simp)).trans (((below_grow _ _).mono (by simp; omega)).trans ((below_grow _ _).mono (by simp; omega)))), ((h1.alloc _).alloc _).alloc _, (h2.alloc _).alloc _, h3.alloc _, h4⟩
/-- A world behind W, and (when it is made) a list of numbers in it. -/
def My (W : World) (M : List Int) (z : Option Value) (w' : World) : Prop := Below W.heap.size W w' ∧ ∀ v, z = some v → Ints w' v M
theorem few_of {w : World} {v : Value} {xs : List Int} (h : Ints w v xs) : xs.length ≤ maxLen := by
  rcases h with ⟨_, rfl⟩ | ⟨_, _, _, hl, _⟩
  · simp
  · exact hl
theorem tkT_no {p q sp ask : Int} {g h se tell : List Int} (k : mdT p g q h ask tell = false) : tkT p g q h sp se ask tell = false := by simp [tkT, k]

end Go.Proofs.YtiinifcepcaonaaDoor

/- spec: TurnMade. -/
namespace Go.Proofs.YtiinifcepcaonaaDoor
open Go.RowKit

theorem boxes3w {w : World} (P R O : List Value) (T1 T2 T3 : TypeId) : Hid (∃ W : World, W = ((w.alloc (.cells P.toArray T1)).alloc (.cells R.toArray T2)).alloc (.cells O.toArray T3) ∧ W.heap.size = w.heap.size + 1 + 1 + 1 ∧
    Below w.heap.size w W ∧ Box W w.heap.size P ∧ Box W (w.heap.size + 1) R ∧ Box W (w.heap.size + 1 + 1) O) := by
  obtain ⟨h1, h2, h3, h4⟩ := boxes3 (w := w) (P := P) (R := R) (O := O) (T1 := T1) (T2 := T2) (T3 := T3) (Below.refl _ _)
  exact Lib.hid ⟨_, rfl, by simp, h4, h1, h2, h3⟩
theorem below_set4 {w w1 : World} {N : Nat} {x y z t : Value} (h : Below w.heap.size w w1) (hN : w.heap.size ≤ N) : Below w.heap.size w ((((w1.setCell ⟨N, 0, none⟩ x).setCell ⟨N, 1, none⟩ y).setCell ⟨N, 2, none⟩ z).setCell ⟨N, 3, none⟩ t) := (((h.setCell hN _).setCell hN _).setCell hN _).setCell hN _
theorem own_set4 {w1 : World} {N B B' : Nat} {v x y z t : Value} {xs : List Int} (h : Own w1 B v xs) (n1 : N < B) (hB : B' ≤ B) : Own ((((w1.setCell ⟨N, 0, none⟩ x).setCell ⟨N, 1, none⟩ y).setCell ⟨N, 2, none⟩ z).setCell ⟨N, 3, none⟩ t) B' v xs := by
  have hh : ∀ (w : World) (j : Nat) (y : Value), Own w B v xs → Own (w.setCell ⟨N, j, none⟩ y) B v xs := fun w j y h => own_heap h fun b hb => Below.heap_setCell _ _ _ _ (by have := (h.lt b hb).1; show b ≠ N; omega)
  exact own_mono (hh _ _ _ (hh _ _ _ (hh _ _ _ (hh _ _ _ h)))) hB
def TrnPost (w : World) (sp : Int) (S : List Int) (ask : Int) (tl : List Int) (b : Bool) (e : Ending) (w' : World) : Prop :=
  ∃ v u, e = .returned (.tuple #[.agg #[.int .i64 sp, v, .int .i64 ask, u], .bool b]) ∧ Own w' w.heap.size v S ∧ Own w' w.heap.size u tl ∧ (∀ k, v.ownBlock = some k → u.ownBlock = some k → False) ∧ Below w.heap.size w w'
def MdPost (p : Int) (g : List Int) (q : Int) (h : List Int) (ask : Int) (tell : List Int) (w : World) (e : Ending) (w' : World) : Prop :=
  if mdT p g q h ask tell then TrnPost w p (mov tell (frm ask g h)) ask tell true e w' else TrnPost w 0 [] 0 [] false e w'

end Go.Proofs.YtiinifcepcaonaaDoor

/- spec: TurnOf. -/
namespace Go.Proofs.YtiinifcepcaonaaDoor
open Go.RowKit

def OfPost (p : Int) (g : List Int) (q : Int) (h known further : List Int) (ask : Int) (w : World) (e : Ending) (w' : World) : Prop :=
  if ofT p g q h known further ask then TrnPost w p (mov further g) ask (toldT known further ask) true e w' else TrnPost w 0 [] 0 [] false e w'

end Go.Proofs.YtiinifcepcaonaaDoor
