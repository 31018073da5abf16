/- Behind a draw of a relation: the reader, boxes, data that nothing writes to. -/
import Derived.Test.YtclihkcigppgjaaDoorDrawE
import Derived.Test.YtclihkcigppgjaaDoorRegionK
namespace Go.Proofs.YtclihkcigppgjaaDoor
open Go.RowKit

theorem Box.drawn {w w' : World} {R N : Nat} {P : List Value} (h : Box w N P) (hg : w.grownBy w' (some R)) (hN : N ≠ R) : Box w' N P := h.kept (hg.block _ h.lt fun e => hN (Option.some.inj e))
/-- w0: the call's entry; R: the reader's block; w2: the world in which the data lies (above block M); BX: boxes. -/
structure Fw (w0 : World) (R M : Nat) (w2 : World) (BX : List (Nat × List Value)) (wr : World) (k : Nat) : Prop where
  rd : Rd wr R k
  gr : w0.grownBy wr (some R)
  bx : ∀ p ∈ BX, p.1 < w2.heap.size ∧ p.1 ≠ R ∧ Box wr p.1 p.2
  ab : Above M w2 wr
  rM : R ≤ M
  rl : R < w2.heap.size
  w0l : w0.heap.size ≤ w2.heap.size
section
variable {w0 : World} {R M : Nat} {w2 : World} {BX : List (Nat × List Value)} {wr : World} {k : Nat}
theorem Fw.draw {w' : World} {k' : Nat} (h : Fw w0 R M w2 BX wr k) (hg : wr.grownBy w' (some R)) (hr : Rd w' R k') : Fw w0 R M w2 BX w' k' := by
  have q1 := h.rM
  refine ⟨hr, grown_trans h.gr hg, fun p hp => ?_, h.ab.trans ((Above.grown hg).mono q1), q1, h.rl, h.w0l⟩
  obtain ⟨a, b, c⟩ := h.bx p hp
  exact ⟨a, b, c.kept (hg.block _ c.lt fun e => b (Option.some.inj e))⟩
theorem Fw.on {w' : World} (h : Fw w0 R M w2 BX wr k) (hb : Below wr.heap.size wr w') : Fw w0 R M w2 BX w' k := h.draw (grown_below R hb) (h.rd.below hb)
/-- Blocks from w2 on may change. -/
theorem Fw.far {w' : World} (h : Fw w0 R M w2 BX wr k) (hb : Below w2.heap.size wr w') : Fw w0 R M w2 BX w' k := by
  have q0 := h.rM; have q1 := h.rl; have q2 := h.w0l; have q3 := h.ab.1
  have hgr := h.gr
  refine ⟨h.rd.upto hb q1, ⟨hb.os.trans hgr.os, hb.tape.trans hgr.tape, hb.output.trans hgr.output, Nat.le_trans hgr.size hb.size, fun q h1 h2 => (hb.block q (by omega)).trans (hgr.block q h1 h2)⟩, fun p hp => ?_, ⟨Nat.le_trans q3 hb.size, fun q h1 h2 => (hb.block q h2).trans (h.ab.2 q h1 h2)⟩, q0, q1, q2⟩
  obtain ⟨a, b, c⟩ := h.bx p hp
  exact ⟨a, b, c.kept (hb.block _ a)⟩
theorem Fw.put {N j : Nat} (h : Fw w0 R M w2 BX wr k) (hN : w2.heap.size ≤ N) (v : Value) : Fw w0 R M w2 BX (wr.setCell ⟨N, j, none⟩ v) k := h.far (below_put (Below.refl _ _) hN v)
theorem Fw.app {w' : World} {b : Option Nat} (h : Fw w0 R M w2 BX wr k) (hg : wr.grownBy w' b) (hb : ∀ q, b = some q → w2.heap.size ≤ q) : Fw w0 R M w2 BX w' k :=
  h.far ((Below.refl _ _).grown hg h.ab.1 hb)
theorem Fw.box {N : Nat} {P : List Value} (h : Fw w0 R M w2 BX wr k) (hp : (N, P) ∈ BX) : Box wr N P := (h.bx _ hp).2.2
theorem Fw.below (h : Fw w0 R M w2 BX wr k) (hR : w0.heap.size ≤ R) : Below w0.heap.size w0 wr := below_of_grown (Below.refl _ _) h.gr (Nat.le_refl _) hR
end
/-- A list of the call's own, beside. -/
def Fo (w0 : World) (R M : Nat) (w2 : World) (BX : List (Nat × List Value)) (wr : World) (k : Nat) (v : Value) (xs : List Int) : Prop := Fw w0 R M w2 BX wr k ∧ Own wr w2.heap.size v xs
theorem Fo.draw {w0 : World} {R M : Nat} {w2 : World} {BX : List (Nat × List Value)} {wr w' : World} {k k' : Nat} {v : Value} {xs : List Int} (h : Fo w0 R M w2 BX wr k v xs) (hg : wr.grownBy w' (some R)) (hr : Rd w' R k') : Fo w0 R M w2 BX w' k' v xs := ⟨h.1.draw hg hr, own_draw h.2 h.1.rl hg⟩
theorem Fo.on {w0 : World} {R M : Nat} {w2 : World} {BX : List (Nat × List Value)} {wr w' : World} {k : Nat} {v : Value} {xs : List Int} (h : Fo w0 R M w2 BX wr k v xs) (hb : Below wr.heap.size wr w') : Fo w0 R M w2 BX w' k v xs := ⟨h.1.on hb, own_below h.2 hb⟩
theorem Fo.app {w0 : World} {R M : Nat} {w2 : World} {BX : List (Nat × List Value)} {wr w' : World} {k : Nat} {v v' : Value} {xs ys : List Int} (h : Fo w0 R M w2 BX wr k v xs) (ho : Own w' w2.heap.size v' ys) (hg : wr.grownBy w' v.ownBlock) : Fo w0 R M w2 BX w' k v' ys := ⟨h.1.app hg fun q hq => (h.2.lt q hq).1, ho⟩
end Go.Proofs.YtclihkcigppgjaaDoor
