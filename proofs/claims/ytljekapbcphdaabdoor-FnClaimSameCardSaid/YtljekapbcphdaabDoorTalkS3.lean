/- spec.SecretFrom. -/
import Derived.Test.YtljekapbcphdaabDoorTalkS2
namespace Go.Proofs.YtljekapbcphdaabDoor
open Go.RowKit

/-- A later world than the one with the boxes of two talks. -/
def B2x (w : World) (s1 a1 t1 s2 a2 t2 : Int) (w' : World) : Prop := Below (w.heap.size + 2) ((w.alloc (.cells #[.int .i64 s1, .int .i64 a1, .int .i64 t1] 84)).alloc (.cells #[.int .i64 s2, .int .i64 a2, .int .i64 t2] 84)) w'
theorem B2x.cells {w w' : World} {s1 a1 t1 s2 a2 t2 : Int} (h : Hid (B2x w s1 a1 t1 s2 a2 t2 w')) :
    (w'.cell? ⟨w.heap.size, 0, none⟩ = some (.int .i64 s1) ∧ w'.cell? ⟨w.heap.size, 1, none⟩ = some (.int .i64 a1) ∧ w'.cell? ⟨w.heap.size, 2, none⟩ = some (.int .i64 t1)) ∧
    w'.cell? ⟨w.heap.size + 1, 0, none⟩ = some (.int .i64 s2) ∧ w'.cell? ⟨w.heap.size + 1, 1, none⟩ = some (.int .i64 a2) ∧ w'.cell? ⟨w.heap.size + 1, 2, none⟩ = some (.int .i64 t2) := by
  have hb := h.out
  unfold B2x at hb
  have h1 : ∀ o, w'.cell? ⟨w.heap.size, o, none⟩ = (w.alloc (.cells #[.int .i64 s1, .int .i64 a1, .int .i64 t1] 84)).cell? ⟨w.heap.size, o, none⟩ := fun o =>
    (hb.cell (p := ⟨w.heap.size, o, none⟩) (by show w.heap.size < w.heap.size + 2; omega)).trans (World.cell?_alloc_past _ _ _ (by simp))
  have h2 : ∀ o, w'.cell? ⟨w.heap.size + 1, o, none⟩ = ((w.alloc (.cells #[.int .i64 s1, .int .i64 a1, .int .i64 t1] 84)).alloc (.cells #[.int .i64 s2, .int .i64 a2, .int .i64 t2] 84)).cell? ⟨w.heap.size + 1, o, none⟩ := fun o => hb.cell (p := ⟨w.heap.size + 1, o, none⟩) (by show w.heap.size + 1 < w.heap.size + 2; omega)
  refine ⟨⟨?_, ?_, ?_⟩, ?_, ?_, ?_⟩
  · rw [h1, World.cell?_alloc_at _ _ _ _ rfl]; rfl
  · rw [h1, World.cell?_alloc_at _ _ _ _ rfl]; rfl
  · rw [h1, World.cell?_alloc_at _ _ _ _ rfl]; rfl
  · rw [h2, World.cell?_alloc_at _ _ _ _ (by simp)]; rfl
  · rw [h2, World.cell?_alloc_at _ _ _ _ (by simp)]; rfl
  · rw [h2, World.cell?_alloc_at _ _ _ _ (by simp)]; rfl
theorem B2x.on {w w1 w2 : World} {s1 a1 t1 s2 a2 t2 : Int} (h : Hid (B2x w s1 a1 t1 s2 a2 t2 w1)) (k : Below w1.heap.size w1 w2) : Hid (B2x w s1 a1 t1 s2 a2 t2 w2) :=
  Lib.hid (h.out.trans (k.mono (by have := h.out.size; simpa using this)))
theorem B2x.fin {w w1 : World} {s1 a1 t1 s2 a2 t2 : Int} (h : Hid (B2x w s1 a1 t1 s2 a2 t2 w1)) : Below w.heap.size w w1 :=
  ((below_alloc w _).trans ((Below.refl w.heap.size _).alloc (by simp) _)).trans (h.out.mono (by omega))
theorem B2x.start (w : World) (s1 a1 t1 s2 a2 t2 : Int) : Hid (B2x w s1 a1 t1 s2 a2 t2 ((w.alloc (.cells #[.int .i64 s1, .int .i64 a1, .int .i64 t1] 84)).alloc (.cells #[.int .i64 s2, .int .i64 a2, .int .i64 t2] 84))) := Lib.hid (Below.refl _ _)

def secB (g key s1 a1 t1 s2 a2 t2 : Int) : Bool := tokB g key s1 a1 t1 && tokB g key s2 a2 t2 && decide (s1 = s2) && decide (a1 ≠ a2)
theorem secB_true {g key s1 a1 t1 s2 a2 t2 : Int} : secB g key s1 a1 t1 s2 a2 t2 = true ↔ tokB g key s1 a1 t1 = true ∧ tokB g key s2 a2 t2 = true ∧ s1 = s2 ∧ a1 ≠ a2 := by unfold secB; simp [and_assoc]

theorem smod_bx {w w1 : World} {s1 a1 t1 s2 a2 t2 : Int} (n q : Int) (h : Hid (B2x w s1 a1 t1 s2 a2 t2 w1)) (h1 : -9999 ≤ n) (h2 : n ≤ 9999) (q1 : 1 ≤ q) (q2 : q ≤ 100) : Calls Tryd.prog 96 #[.int .i64 n, .int .i64 q] w1 fun e w' => e = .returned (.int .i64 (n % q)) ∧ Hid (B2x w s1 a1 t1 s2 a2 t2 w') :=
  (smod_any n q w1 h1 h2 q1 q2).mono fun _ _ ⟨he, hw⟩ => ⟨he, by rw [← hw]; exact h⟩
end Go.Proofs.YtljekapbcphdaabDoor
