/- The exact laws of chapter 2 over talks as arguments. -/
import Derived.Test.YtiinifcepcaonaaDoorExactT
namespace Go.Proofs.YtiinifcepcaonaaDoor
open Go.RowKit

theorem toTalk_any (s a t : Int) (w : World) : Calls Tryd.prog 79 #[.agg #[.int .i64 s, .int .i64 a, .int .i64 t]] w fun e w' => e = .returned (.agg #[.int .i64 s, .int .i64 a, .int .i64 t]) ∧ Below w.heap.size w w' := by
  go_enter Tryd.func79, Tryd.ntmps79
  go_wp2
  refine bodyPost_ret (v := .agg #[.int .i64 s, .int .i64 a, .int .i64 t]) ?_ rfl ⟨rfl, ?_⟩
  · simp [results, Tryd.results79, go_sem]
  · repeat (first | exact Below.refl _ _ | refine Below.alloc ?_ (by simp <;> omega) _ | refine Below.setCell ?_ (by simp <;> omega) _)
/-- A later world than the one with the boxes of two talks of laws. -/
def L2x (w : World) (s1 a1 t1 s2 a2 t2 : Int) (w' : World) : Prop := Below (w.heap.size + 2) ((w.alloc (.cells #[.int .i64 (s1), .int .i64 (a1), .int .i64 (t1)] 78)).alloc (.cells #[.int .i64 (s2), .int .i64 (a2), .int .i64 (t2)] 78)) w'
theorem L2x.cells {w w' : World} {s1 a1 t1 s2 a2 t2 : Int} (h : Hid (L2x w s1 a1 t1 s2 a2 t2 w')) :
    (w'.cell? ⟨w.heap.size, 0, none⟩ = some (.int .i64 s1) ∧ w'.cell? ⟨w.heap.size, 1, none⟩ = some (.int .i64 a1) ∧ w'.cell? ⟨w.heap.size, 2, none⟩ = some (.int .i64 t1)) ∧
    w'.cell? ⟨w.heap.size + 1, 0, none⟩ = some (.int .i64 s2) ∧ w'.cell? ⟨w.heap.size + 1, 1, none⟩ = some (.int .i64 a2) ∧ w'.cell? ⟨w.heap.size + 1, 2, none⟩ = some (.int .i64 t2) := by
  have hb := h.out
  unfold L2x at hb
  have h1 : ∀ o, w'.cell? ⟨w.heap.size, o, none⟩ = (w.alloc (.cells #[.int .i64 (s1), .int .i64 (a1), .int .i64 (t1)] 78)).cell? ⟨w.heap.size, o, none⟩ := fun o =>
    (hb.cell (p := ⟨w.heap.size, o, none⟩) (by show w.heap.size < w.heap.size + 2; omega)).trans (World.cell?_alloc_past _ _ _ (by simp))
  have h2 : ∀ o, w'.cell? ⟨w.heap.size + 1, o, none⟩ = ((w.alloc (.cells #[.int .i64 (s1), .int .i64 (a1), .int .i64 (t1)] 78)).alloc (.cells #[.int .i64 (s2), .int .i64 (a2), .int .i64 (t2)] 78)).cell? ⟨w.heap.size + 1, o, none⟩ := fun o => hb.cell (p := ⟨w.heap.size + 1, o, none⟩) (by show w.heap.size + 1 < w.heap.size + 2; omega)
  refine ⟨⟨?_, ?_, ?_⟩, ?_, ?_, ?_⟩
  · rw [h1, World.cell?_alloc_at _ _ _ _ rfl]; rfl
  · rw [h1, World.cell?_alloc_at _ _ _ _ rfl]; rfl
  · rw [h1, World.cell?_alloc_at _ _ _ _ rfl]; rfl
  · rw [h2, World.cell?_alloc_at _ _ _ _ (by simp)]; rfl
  · rw [h2, World.cell?_alloc_at _ _ _ _ (by simp)]; rfl
  · rw [h2, World.cell?_alloc_at _ _ _ _ (by simp)]; rfl
theorem L2x.on {w w1 w2 : World} {s1 a1 t1 s2 a2 t2 : Int} (h : Hid (L2x w s1 a1 t1 s2 a2 t2 w1)) (k : Below w1.heap.size w1 w2) : Hid (L2x w s1 a1 t1 s2 a2 t2 w2) :=
  Lib.hid (h.out.trans (k.mono (by have := h.out.size; simpa using this)))
theorem L2x.fin {w w1 : World} {s1 a1 t1 s2 a2 t2 : Int} (h : Hid (L2x w s1 a1 t1 s2 a2 t2 w1)) : Below w.heap.size w w1 :=
  ((below_alloc w _).trans ((Below.refl w.heap.size _).alloc (by simp) _)).trans (h.out.mono (by omega))
theorem L2x.start (w : World) (s1 a1 t1 s2 a2 t2 : Int) : Hid (L2x w s1 a1 t1 s2 a2 t2 ((w.alloc (.cells #[.int .i64 (s1), .int .i64 (a1), .int .i64 (t1)] 78)).alloc (.cells #[.int .i64 (s2), .int .i64 (a2), .int .i64 (t2)] 78))) := Lib.hid (Below.refl _ _)
def secR (g key s1 a1 t1 s2 a2 t2 : Int) : Int := if secB g key s1 a1 t1 s2 a2 t2 then secretOf g a1 t1 a2 t2 else -1
theorem ssec_any (g key s1 a1 t1 s2 a2 t2 : Int) (w : World) : Calls Tryd.prog 46 #[.int .i64 g, .int .i64 key, .agg #[.int .i64 s1, .int .i64 a1, .int .i64 t1], .agg #[.int .i64 s2, .int .i64 a2, .int .i64 t2]] w fun e w' => e = .returned (.tuple #[.int .i64 (secR g key s1 a1 t1 s2 a2 t2), .bool (secB g key s1 a1 t1 s2 a2 t2)]) ∧ Below w.heap.size w w' := by
  cases h : secB g key s1 a1 t1 s2 a2 t2
  · have e : secR g key s1 a1 t1 s2 a2 t2 = -1 := by unfold secR; rw [h]; rfl
    rw [e]
    exact ssec_no _ _ _ _ _ _ _ _ w h
  · have e : secR g key s1 a1 t1 s2 a2 t2 = secretOf g a1 t1 a2 t2 := by unfold secR; rw [h]; rfl
    rw [e]
    exact ssec_yes _ _ _ _ _ _ _ _ w h
theorem isec_any (g key s1 a1 t1 s2 a2 t2 : Int) (w : World) (G : Gr w) : Calls Tryd.prog 49 #[.int .i64 g, .int .i64 key, .agg #[.int .i64 s1, .int .i64 a1, .int .i64 t1], .agg #[.int .i64 s2, .int .i64 a2, .int .i64 t2]] w fun e w' => e = .returned (.tuple #[.int .i64 (secR g key s1 a1 t1 s2 a2 t2), .bool (secB g key s1 a1 t1 s2 a2 t2)]) ∧ Below w.heap.size w w' := by
  cases h : secB g key s1 a1 t1 s2 a2 t2
  · have e : secR g key s1 a1 t1 s2 a2 t2 = -1 := by unfold secR; rw [h]; rfl
    rw [e]
    exact isec_no _ _ _ _ _ _ _ _ w G h
  · have e : secR g key s1 a1 t1 s2 a2 t2 = secretOf g a1 t1 a2 t2 := by unfold secR; rw [h]; rfl
    rw [e]
    exact isec_yes _ _ _ _ _ _ _ _ w G h

end Go.Proofs.YtiinifcepcaonaaDoor
