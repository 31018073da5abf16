/- Draws: DrawTurnOf, DrawTurnMade. -/
import Derived.Test.YtimkmdedoacpfabDoorDrJ
namespace Go.Proofs.YtimkmdedoacpfabDoor
open Go.RowKit

/-- A draw under way, all its memory new since w: the reader (while it is read on), boxes, lists. -/
structure Dn (w : World) (R : Nat) (Bs : List (Nat × List Value)) (L : List (Value × List Int)) (k : Option Nat) (w' : World) : Prop where
  rd : ∀ K, k = some K → Rd w' R K
  be : Below w.heap.size w w'
  rl : w.heap.size ≤ R ∧ R < w'.heap.size
  bx : ∀ b, b ∈ Bs → w.heap.size ≤ b.1 ∧ b.1 ≠ R ∧ Box w' b.1 b.2
  ls : ∀ x, x ∈ L → Own w' w.heap.size x.1 x.2 ∧ ∀ q, x.1.ownBlock = some q → q ≠ R
  ap : ∀ b, b ∈ Bs → ∀ x, x ∈ L → ∀ q, x.1.ownBlock = some q → q ≠ b.1
section
variable {w w' w'' : World} {R : Nat} {k k' : Option Nat} {Bs Bs' : List (Nat × List Value)} {L L' : List (Value × List Int)}
theorem Dn.draw (h : Dn w R Bs L k w') (hg : w'.grownBy w'' (some R)) (hr : ∀ K, k' = some K → Rd w'' R K) : Dn w R Bs L k' w'' :=
  ⟨hr, h.be.grown hg h.be.size (fun q e => by cases e; exact h.rl.1), ⟨h.rl.1, Nat.lt_of_lt_of_le h.rl.2 hg.size⟩, fun b m => ⟨(h.bx b m).1, (h.bx b m).2.1, box_drawn3 (h.bx b m).2.2 hg (h.bx b m).2.1⟩,
    fun x m => ⟨own_heap (h.ls x m).1 fun q hq => hg.block q ((h.ls x m).1.lt q hq).2 fun e => (h.ls x m).2 q hq (Option.some.inj e), (h.ls x m).2⟩, h.ap⟩
theorem Dn.on (h : Dn w R Bs L k w') (hb : Below w'.heap.size w' w'') : Dn w R Bs L k w'' := h.draw (grown_below R hb) fun K e => (h.rd K e).below hb
theorem Dn.next {K m : Nat} (h : Dn w R Bs L (some K) w') (e : w'' = (w'.setCell ⟨R, 1, none⟩ (.int .i64 ((K : Int) + 1))).drewN m) : Dn w R Bs L (some (K + 1)) w'' := by
  subst e; exact h.draw (grown_pick _ _ _ _) fun K' e => by cases e; exact (h.rd K rfl).next m
theorem Dn.made {K' : Nat} {v : Value} {xs : List Int} (h : Dn w R Bs L k w') (hg : w'.grownBy w'' (some R)) (hr : Rd w'' R K') (ho : Own w'' w'.heap.size v xs) : Dn w R Bs ((v, xs) :: L) (some K') w'' := by
  have h2 := h.draw (k' := some K') hg (fun K e => by cases e; exact hr)
  refine ⟨h2.rd, h2.be, h2.rl, h2.bx, fun x m => ?_, fun b mb x m q hq => ?_⟩
  · rcases List.mem_cons.1 m with rfl | m
    · exact ⟨own_mono ho h.be.size, fun q hq => by have := (ho.lt q hq).1; have := h.rl.2; omega⟩
    · exact h2.ls x m
  · rcases List.mem_cons.1 m with rfl | m
    · have := (ho.lt q hq).1; have := (h.bx b mb).2.2.lt; omega
    · exact h2.ap b mb x m q hq
theorem Dn.mades {K' : Nat} {L'' : List (Value × List Int)} (h : Dn w R Bs L k w') (hg : w'.grownBy w'' (some R)) (hr : Rd w'' R K') (ho : ∀ x, x ∈ L'' → Own w'' w'.heap.size x.1 x.2) : Dn w R Bs (L'' ++ L) (some K') w'' := by
  have h2 := h.draw (k' := some K') hg (fun K e => by cases e; exact hr)
  refine ⟨h2.rd, h2.be, h2.rl, h2.bx, fun x m => ?_, fun b mb x m q hq => ?_⟩
  · rcases List.mem_append.1 m with m | m
    · exact ⟨own_mono (ho x m) h.be.size, fun q hq => by have := ((ho x m).lt q hq).1; have := h.rl.2; omega⟩
    · exact h2.ls x m
  · rcases List.mem_append.1 m with m | m
    · have := ((ho x m).lt q hq).1; have := (h.bx b mb).2.2.lt; omega
    · exact h2.ap b mb x m q hq
theorem Dn.box {T : TypeId} (h : Dn w R Bs L k w') (cs : List Value) : Dn w R ((w'.heap.size, cs) :: Bs) L k (w'.alloc (.cells cs.toArray T)) := by
  have h2 := h.on (below_grow w' (.cells cs.toArray T))
  refine ⟨h2.rd, h2.be, h2.rl, fun b m => ?_, h2.ls, fun b mb x m q hq => ?_⟩
  · rcases List.mem_cons.1 m with rfl | m
    · exact ⟨h.be.size, by have := h.rl.2; show w'.heap.size ≠ R; omega, Box.made w' cs T⟩
    · exact h2.bx b m
  · rcases List.mem_cons.1 mb with rfl | mb
    · have := ((h.ls x m).1.lt q hq).2; show q ≠ w'.heap.size; omega
    · exact h2.ap b mb x m q hq
theorem Dn.sub (h : Dn w R Bs L k w') (hb : ∀ b, b ∈ Bs' → b ∈ Bs) (hl : ∀ x, x ∈ L' → x ∈ L) : Dn w R Bs' L' k w' := ⟨h.rd, h.be, h.rl, fun b m => h.bx b (hb b m), fun x m => h.ls x (hl x m), fun b mb x m => h.ap b (hb b mb) x (hl x m)⟩
theorem Dn.off (h : Dn w R Bs L k w') : Dn w R Bs L none w' := ⟨fun K e => (by cases e), h.be, h.rl, h.bx, h.ls, h.ap⟩
/-- A cell of a box written to: what is read lies elsewhere no more. -/
theorem Dn.put {N : Nat} {B1 B2 : List (Nat × List Value)} {cs : List Value} (h : Dn w R (B1 ++ (N, cs) :: B2) L k w') (hd : ∀ b, b ∈ B1 ++ B2 → b.1 ≠ N) (j : Nat) (v : Value) : Dn w R (B1 ++ (N, cs.set j v) :: B2) L none (w'.setCell ⟨N, j, none⟩ v) := by
  have hm : (N, cs) ∈ B1 ++ (N, cs) :: B2 := by simp
  have hN := h.bx _ hm
  have hh : ∀ q, q ≠ N → (w'.setCell ⟨N, j, none⟩ v).heap[q]? = w'.heap[q]? := fun q hq => Below.heap_setCell _ _ _ _ hq
  refine ⟨fun K e => (by cases e), h.be.setCell (p := ⟨N, j, none⟩) hN.1 v, ⟨h.rl.1, by simpa [World.setCell] using h.rl.2⟩, fun b m => ?_, fun x m => ⟨own_heap (h.ls x m).1 fun q hq => hh q (h.ap _ hm x m q hq), (h.ls x m).2⟩, fun b mb x m q hq => ?_⟩
  · simp only [List.mem_append, List.mem_cons] at m
    rcases m with m | rfl | m
    · have k1 := h.bx b (by simp [m])
      exact ⟨k1.1, k1.2.1, k1.2.2.far (hd b (by simp [m])) v⟩
    · exact ⟨hN.1, hN.2.1, hN.2.2.set j v⟩
    · have k1 := h.bx b (by simp [m])
      exact ⟨k1.1, k1.2.1, k1.2.2.far (hd b (by simp [m])) v⟩
  · simp only [List.mem_append, List.mem_cons] at mb
    rcases mb with mb | rfl | mb
    · exact h.ap b (by simp [mb]) x m q hq
    · exact h.ap _ hm x m q hq
    · exact h.ap b (by simp [mb]) x m q hq
end
/-- Two boxes laid, then the code opened. -/
theorem Dn.start2 {w w1 : World} {P Q : List Value} {T1 T2 : TypeId} (hr : Rd w1 ((w.alloc (.cells P.toArray T1)).alloc (.cells Q.toArray T2)).heap.size 0) (hb : Below ((w.alloc (.cells P.toArray T1)).alloc (.cells Q.toArray T2)).heap.size ((w.alloc (.cells P.toArray T1)).alloc (.cells Q.toArray T2)) w1) :
    Dn w (w.heap.size + 1 + 1) [(w.heap.size + 1, Q), (w.heap.size, P)] [] (some 0) w1 := by
  obtain ⟨h1, h2, h3⟩ := boxes2 hb
  have hz : ((w.alloc (.cells P.toArray T1)).alloc (.cells Q.toArray T2)).heap.size = w.heap.size + 1 + 1 := by simp
  rw [hz] at hr
  refine ⟨fun K e => by cases e; exact hr, h3, ⟨by omega, hr.lt⟩, fun b m => ?_, fun x m => (by cases m), fun b mb x m => (by cases m)⟩
  simp at m
  rcases m with rfl | rfl
  · exact ⟨by show w.heap.size ≤ w.heap.size + 1; omega, by show w.heap.size + 1 ≠ w.heap.size + 1 + 1; omega, h2⟩
  · exact ⟨Nat.le_refl _, by show w.heap.size ≠ w.heap.size + 1 + 1; omega, h1⟩
theorem ne2 {w : World} {N8 N9 : Nat} {c8 c9 c3 : List Value} (h : w.heap.size + 1 < N8) (h' : w.heap.size + 1 < N9) : ∀ b, b ∈ [(N9, c9), (N8, c8), (w.heap.size + 1, c3)] ++ [] → b.1 ≠ w.heap.size := fun b m => by
  simp at m
  rcases m with rfl | rfl | rfl
  · show N9 ≠ w.heap.size; omega
  · show N8 ≠ w.heap.size; omega
  · show w.heap.size + 1 ≠ w.heap.size; omega
theorem ne3 {w : World} {N8 N9 : Nat} {c8 c9 c2 : List Value} (h : w.heap.size + 1 < N8) (h' : w.heap.size + 1 < N9) : ∀ b, b ∈ [(N9, c9), (N8, c8)] ++ [(w.heap.size, c2)] → b.1 ≠ w.heap.size + 1 := fun b m => by
  simp at m
  rcases m with rfl | rfl | rfl
  · show N9 ≠ w.heap.size + 1; omega
  · show N8 ≠ w.heap.size + 1; omega
  · show w.heap.size ≠ w.heap.size + 1; omega
def TfPost (w : World) (e : Ending) (w' : World) : Prop := ∃ p gv g q hv h ov o fv f ask, e = .returned (.tuple #[.agg #[.int .i64 p, gv], .agg #[.int .i64 q, hv], ov, fv, .int .i64 ask]) ∧ (0 ≤ p ∧ p ≤ 5) ∧ (0 ≤ q ∧ q ≤ 5) ∧ (0 ≤ ask ∧ ask ≤ 3) ∧ Li w' gv g ∧ Li w' hv h ∧ Li w' ov o ∧ Li w' fv f ∧ Below w.heap.size w w'
def TmPost (w : World) (e : Ending) (w' : World) : Prop := ∃ p gv g q hv h ask fv f, e = .returned (.tuple #[.agg #[.int .i64 p, gv], .agg #[.int .i64 q, hv], .int .i64 ask, fv]) ∧ (0 ≤ p ∧ p ≤ 5) ∧ (0 ≤ q ∧ q ≤ 5) ∧ (0 ≤ ask ∧ ask ≤ 3) ∧ Li w' gv g ∧ Li w' hv h ∧ Li w' fv f ∧ Below w.heap.size w w'

end Go.Proofs.YtimkmdedoacpfabDoor
