/- ElementsOf, impl's and spec's: a new slice with the elements in ascending order. -/
import Derived.Test.YtopjlbihhbjhnaaDoorWalkF
namespace Go.Proofs.YtopjlbihhbjhnaaDoor
open Go.RowKit

theorem Gr.lt {w : World} (h : Gr w) : 0 < w.heap.size := World.block_lt_of_cell? _ _ h.c0
theorem Gr.below {B : Nat} {w w' : World} (h : Gr w) (hb : Below B w w') (hl : 0 < B) : Gr w' := ⟨(hb.cell (p := ⟨0, 0, none⟩) hl).trans h.c0, (hb.cell (p := ⟨0, 1, none⟩) hl).trans h.c1, (hb.cell (p := ⟨0, 2, none⟩) hl).trans h.c2, (hb.cell (p := ⟨0, 3, none⟩) hl).trans h.c3, (hb.cell (p := ⟨0, 4, none⟩) hl).trans h.c4, (hb.cell (p := ⟨0, 5, none⟩) hl).trans h.c5, (hb.cell (p := ⟨0, 6, none⟩) hl).trans h.c6, (hb.cell (p := ⟨0, 7, none⟩) hl).trans h.c7, (hb.cell (p := ⟨0, 8, none⟩) hl).trans h.c8, (hb.cell (p := ⟨0, 9, none⟩) hl).trans h.c9, (hb.cell (p := ⟨0, 10, none⟩) hl).trans h.c10, (hb.cell (p := ⟨0, 11, none⟩) hl).trans h.c11⟩
theorem Gr.on {w w' : World} (h : Gr w) (hb : Below w.heap.size w w') : Gr w' := h.below hb h.lt

theorem own_step {w w3 w4 : World} {v v' : Value} {g : Int} {k : Nat} {o : Obj} (hown : Own w3 w.heap.size v (elsTo g k)) (hb : Below w.heap.size w w3)
    (he : elsTo g ((k + 1 : Nat) : Int) = elsTo g k ++ [(k : Int)])
    (hown' : w4.ownsRow w.heap.size 3 1 v' ((elsTo g k).length + 1) ((elsTo g k).map (Value.int .i64) ++ [.int .i64 k])) (hg : (w3.alloc o).grownBy w4 v.ownBlock) :
    Own w4 w.heap.size v' (elsTo g ((k + 1 : Nat) : Int)) ∧ Below w.heap.size w w4 := by
  refine ⟨by unfold Own; rw [he]; simpa using hown', (hb.alloc hb.size o).grown hg (by simp; have := hb.size; omega) (fun j hj => (hown.lt j hj).1)⟩

end Go.Proofs.YtopjlbihhbjhnaaDoor
