/- laws.szSome, toSome, eqSome, markSome, heldSome. -/
import Derived.Test.YtljekapbcphdaabDoorMark
import Derived.Deep.Cut
namespace Go.Proofs.YtljekapbcphdaabDoor
open Go.RowKit

/-- Three owned lists apart from each other, in blocks from lo on and below hi. -/
structure OwnS (w : World) (lo hi : Nat) (sv xv tv : Value) (ss xs ts : List Int) : Prop where
  s : Own w lo sv ss
  x : Own w lo xv xs
  t : Own w lo tv ts
  ap1 : ∀ k, sv.ownBlock = some k → xv.ownBlock = some k → False
  ap2 : ∀ k, sv.ownBlock = some k → tv.ownBlock = some k → False
  ap3 : ∀ k, xv.ownBlock = some k → tv.ownBlock = some k → False
  his : ∀ k, sv.ownBlock = some k → k < hi
  hix : ∀ k, xv.ownBlock = some k → k < hi
  hit : ∀ k, tv.ownBlock = some k → k < hi
theorem OwnS.on {w w' : World} {lo hi : Nat} {sv xv tv : Value} {ss xs ts : List Int} (h : OwnS w lo hi sv xv tv ss xs ts) (hb : Below w.heap.size w w') : OwnS w' lo hi sv xv tv ss xs ts :=
  ⟨own_below h.s hb, own_below h.x hb, own_below h.t hb, h.ap1, h.ap2, h.ap3, h.his, h.hix, h.hit⟩
theorem OwnS.nil (w : World) (lo hi : Nat) : OwnS w lo hi (.slice none 0 0) (.slice none 0 0) (.slice none 0 0) [] [] [] :=
  ⟨World.ownsRow_nil _ _ _ _, World.ownsRow_nil _ _ _ _, World.ownsRow_nil _ _ _ _, fun k hk => by simp [Value.ownBlock] at hk, fun k hk => by simp [Value.ownBlock] at hk, fun k hk => by simp [Value.ownBlock] at hk, fun k hk => by simp [Value.ownBlock] at hk, fun k hk => by simp [Value.ownBlock] at hk, fun k hk => by simp [Value.ownBlock] at hk⟩
theorem OwnS.lower {w : World} {lo lo' hi : Nat} {sv xv tv : Value} {ss xs ts : List Int} (h : OwnS w lo hi sv xv tv ss xs ts) (hl : lo' ≤ lo) : OwnS w lo' hi sv xv tv ss xs ts := ⟨own_mono h.s hl, own_mono h.x hl, own_mono h.t hl, h.ap1, h.ap2, h.ap3, h.his, h.hix, h.hit⟩
theorem OwnS.far {w w' : World} {lo hi lo' hi' : Nat} {sv xv tv : Value} {ss xs ts : List Int} (h : Outside lo hi w w') (ho : OwnS w lo' hi' sv xv tv ss xs ts) (hB : hi ≤ lo') : OwnS w' lo' hi' sv xv tv ss xs ts := ⟨h.own ho.s hB, h.own ho.x hB, h.own ho.t hB, ho.ap1, ho.ap2, ho.ap3, ho.his, ho.hix, ho.hit⟩
theorem OwnS.near {w w' : World} {lo hi lo' hi' : Nat} {sv xv tv : Value} {ss xs ts : List Int} (h : Outside lo hi w w') (ho : OwnS w lo' hi' sv xv tv ss xs ts) (h1 : hi' ≤ lo) : OwnS w' lo' hi' sv xv tv ss xs ts :=
  ⟨h.low ho.s fun k hk => Nat.lt_of_lt_of_le (ho.his k hk) h1, h.low ho.x fun k hk => Nat.lt_of_lt_of_le (ho.hix k hk) h1, h.low ho.t fun k hk => Nat.lt_of_lt_of_le (ho.hit k hk) h1, ho.ap1, ho.ap2, ho.ap3, ho.his, ho.hix, ho.hit⟩

/-- While a talk is copied: the argument's box, the result's, the local one. -/
structure Ts (w : World) (P Q : List Value) (w' : World) : Prop where
  bl : Below w.heap.size w w'
  p : Box w' w.heap.size P
  r : Box w' (w.heap.size + 1) [.slice none 0 0, .int .i64 0, .slice none 0 0, .slice none 0 0]
  l : Box w' (w.heap.size + 2) Q
theorem Ts.on {w w1 w2 : World} {P Q : List Value} (h : Ts w P Q w1) (hb : Below w1.heap.size w1 w2) : Ts w P Q w2 := ⟨Below.on h.bl hb, h.p.on hb, h.r.on hb, h.l.on hb⟩
theorem Ts.put {w w1 : World} {P Q : List Value} (h : Ts w P Q w1) (j : Nat) (v : Value) : Ts w P (Q.set j v) (w1.setCell ⟨w.heap.size + 2, j, none⟩ v) :=
  ⟨h.bl.setCell (by show w.heap.size ≤ w.heap.size + 2; omega) _, h.p.far (by omega) v, h.r.far (by omega) v, h.l.set j v⟩
theorem own_put {w : World} {B N j : Nat} {v u : Value} {xs : List Int} (h : Own w B v xs) (hN : N < B) : Own (w.setCell ⟨N, j, none⟩ u) B v xs := own_heap h fun k hk => Below.heap_setCell _ _ _ _ (by have := (h.lt k hk).1; show k ≠ N; omega)

end Go.Proofs.YtljekapbcphdaabDoor
