/- TalkS, TalkS2, TalkS3, TalkEq, in one text. -/
import Derived.Test.YtiinifcepcaonaaBWalk
import Derived.Test.YtiinifcepcaonaaBPure
import Derived.Deep.RegionHeld3
import Derived.Laws.ResultCell
import Derived.Outline
import Derived.Laws.StructEq
/- Contracts of spec's chapter 2: keys and talks. -/
namespace Go.Proofs.Ytiinifcepcaonaa
open Go.RowKit

def l2B (g s a t : Int) : Bool := elB g s && exB g a && exB g t
theorem l2B_true {g s a t : Int} : l2B g s a t = true ↔ elB g s = true ∧ exB g a = true ∧ exB g t = true := by unfold l2B; simp [and_assoc]

/-- A box of three cells, in a later world. -/
theorem box3 {w wk : World} {x y z : Value} {T : TypeId} (hb : Below (w.heap.size + 1) (w.alloc (.cells #[x, y, z] T)) wk) :
    (wk.cell? ⟨w.heap.size, 0, none⟩ = some x ∧ wk.cell? ⟨w.heap.size, 1, none⟩ = some y ∧ wk.cell? ⟨w.heap.size, 2, none⟩ = some z) ∧ wk.frozen? ⟨w.heap.size, 0, none⟩ = false ∧ wk.frozen? ⟨w.heap.size, 1, none⟩ = false ∧ wk.frozen? ⟨w.heap.size, 2, none⟩ = false ∧ w.heap.size < wk.heap.size := by
  have hc : ∀ o, wk.cell? ⟨w.heap.size, o, none⟩ = (w.alloc (.cells #[x, y, z] T)).cell? ⟨w.heap.size, o, none⟩ := fun o => hb.cell (p := ⟨w.heap.size, o, none⟩) (Nat.lt_succ_self _)
  have hf : ∀ o, wk.frozen? ⟨w.heap.size, o, none⟩ = (w.alloc (.cells #[x, y, z] T)).frozen? ⟨w.heap.size, o, none⟩ := fun o => hb.frozen (p := ⟨w.heap.size, o, none⟩) (Nat.lt_succ_self _)
  have hs := hb.size
  refine ⟨⟨?_, ?_, ?_⟩, ?_, ?_, ?_, by simp at hs; omega⟩
  · rw [hc, World.cell?_alloc_at _ _ _ _ rfl]; rfl
  · rw [hc, World.cell?_alloc_at _ _ _ _ rfl]; rfl
  · rw [hc, World.cell?_alloc_at _ _ _ _ rfl]; rfl
  · rw [hf, World.frozen?_alloc_at _ _ _ _ rfl]
  · rw [hf, World.frozen?_alloc_at _ _ _ _ rfl]
  · rw [hf, World.frozen?_alloc_at _ _ _ _ rfl]
theorem below_alloc (w : World) (o : Obj) : Below w.heap.size w (w.alloc o) := (Below.refl _ _).alloc (Nat.le_refl _) _
theorem box_on {w w1 w2 : World} {o : Obj} (h : Below (w.heap.size + 1) (w.alloc o) w1) (k : Below w1.heap.size w1 w2) : Below (w.heap.size + 1) (w.alloc o) w2 := h.trans (k.mono (by have := h.size; simpa using this))
theorem box_end {w w1 : World} {o : Obj} (h : Below (w.heap.size + 1) (w.alloc o) w1) : Below w.heap.size w w1 := (below_alloc w o).trans (h.mono (Nat.le_succ _))

/-- A later world than the one with the box of a talk. -/
def Bx (w : World) (s a t : Int) (w' : World) : Prop := Below (w.heap.size + 1) (w.alloc (.cells #[.int .i64 s, .int .i64 a, .int .i64 t] 34)) w'
theorem Bx.cells {w w' : World} {s a t : Int} (h : Hid (Bx w s a t w')) : w'.cell? ⟨w.heap.size, 0, none⟩ = some (.int .i64 s) ∧ w'.cell? ⟨w.heap.size, 1, none⟩ = some (.int .i64 a) ∧ w'.cell? ⟨w.heap.size, 2, none⟩ = some (.int .i64 t) := (box3 h.out).1
theorem Bx.on {w w1 w2 : World} {s a t : Int} (h : Hid (Bx w s a t w1)) (k : Below w1.heap.size w1 w2) : Hid (Bx w s a t w2) := Lib.hid (box_on h.out k)
end Go.Proofs.Ytiinifcepcaonaa

/- spec.TalkOk: a region that draws its order, with loads and calls that make memory, some of them guarded: walked once in the order of the text, at a class of worlds. -/
namespace Go.Proofs.Ytiinifcepcaonaa
open Go.RowKit

/-- One walk of the text serves every order, at whatever class of worlds that the region's first world is of. -/
theorem wp_region_class {P : Program} {C : World → Prop} {id : Nat} {Q : Exit → Act → World → Prop} {a : Act} {w : World} {l : List Oper} (hm : P.follows .mixedOrders = true) (hB : Region.lexB .any l.toArray = true) (hC : C w.drew)
    (h : wpQuiet P l.toArray C (fun a' => ∀ w', C w' → Q .normal a' w') l a) : (Code.region id l.toArray true).wp P Q a w :=
  wp_region_quiet (C := C) hm hB hC (by simpa using h)

end Go.Proofs.Ytiinifcepcaonaa

/- spec.SecretFrom. -/
namespace Go.Proofs.Ytiinifcepcaonaa
open Go.RowKit

/-- A later world than the one with the boxes of two talks. -/
def B2x (w : World) (s1 a1 t1 s2 a2 t2 : Int) (w' : World) : Prop := Below (w.heap.size + 2) ((w.alloc (.cells #[.int .i64 s1, .int .i64 a1, .int .i64 t1] 34)).alloc (.cells #[.int .i64 s2, .int .i64 a2, .int .i64 t2] 34)) w'
theorem B2x.cells {w w' : World} {s1 a1 t1 s2 a2 t2 : Int} (h : Hid (B2x w s1 a1 t1 s2 a2 t2 w')) :
    (w'.cell? ⟨w.heap.size, 0, none⟩ = some (.int .i64 s1) ∧ w'.cell? ⟨w.heap.size, 1, none⟩ = some (.int .i64 a1) ∧ w'.cell? ⟨w.heap.size, 2, none⟩ = some (.int .i64 t1)) ∧
    w'.cell? ⟨w.heap.size + 1, 0, none⟩ = some (.int .i64 s2) ∧ w'.cell? ⟨w.heap.size + 1, 1, none⟩ = some (.int .i64 a2) ∧ w'.cell? ⟨w.heap.size + 1, 2, none⟩ = some (.int .i64 t2) := by
  have hb := h.out
  unfold B2x at hb
  have h1 : ∀ o, w'.cell? ⟨w.heap.size, o, none⟩ = (w.alloc (.cells #[.int .i64 s1, .int .i64 a1, .int .i64 t1] 34)).cell? ⟨w.heap.size, o, none⟩ := fun o =>
    (hb.cell (p := ⟨w.heap.size, o, none⟩) (by show w.heap.size < w.heap.size + 2; omega)).trans (World.cell?_alloc_past _ _ _ (by simp))
  have h2 : ∀ o, w'.cell? ⟨w.heap.size + 1, o, none⟩ = ((w.alloc (.cells #[.int .i64 s1, .int .i64 a1, .int .i64 t1] 34)).alloc (.cells #[.int .i64 s2, .int .i64 a2, .int .i64 t2] 34)).cell? ⟨w.heap.size + 1, o, none⟩ := fun o => hb.cell (p := ⟨w.heap.size + 1, o, none⟩) (by show w.heap.size + 1 < w.heap.size + 2; omega)
  refine ⟨⟨?_, ?_, ?_⟩, ?_, ?_, ?_⟩
  · rw [h1, World.cell?_alloc_at _ _ _ _ rfl]; rfl
  · rw [h1, World.cell?_alloc_at _ _ _ _ rfl]; rfl
  · rw [h1, World.cell?_alloc_at _ _ _ _ rfl]; rfl
  · rw [h2, World.cell?_alloc_at _ _ _ _ (by simp)]; rfl
  · rw [h2, World.cell?_alloc_at _ _ _ _ (by simp)]; rfl
  · rw [h2, World.cell?_alloc_at _ _ _ _ (by simp)]; rfl
theorem B2x.on {w w1 w2 : World} {s1 a1 t1 s2 a2 t2 : Int} (h : Hid (B2x w s1 a1 t1 s2 a2 t2 w1)) (k : Below w1.heap.size w1 w2) : Hid (B2x w s1 a1 t1 s2 a2 t2 w2) :=
  Lib.hid (h.out.trans (k.mono (by have := h.out.size; simpa using this)))
theorem B2x.fin {w w1 : World} {s1 a1 t1 s2 a2 t2 : Int} (h : Hid (B2x w s1 a1 t1 s2 a2 t2 w1)) : Below w.heap.size w w1 :=
  ((below_alloc w _).trans ((Below.refl w.heap.size _).alloc (by simp) _)).trans (h.out.mono (by omega))
theorem B2x.start (w : World) (s1 a1 t1 s2 a2 t2 : Int) : Hid (B2x w s1 a1 t1 s2 a2 t2 ((w.alloc (.cells #[.int .i64 s1, .int .i64 a1, .int .i64 t1] 34)).alloc (.cells #[.int .i64 s2, .int .i64 a2, .int .i64 t2] 34))) := Lib.hid (Below.refl _ _)

def secB (g key s1 a1 t1 s2 a2 t2 : Int) : Bool := tokB g key s1 a1 t1 && tokB g key s2 a2 t2 && decide (s1 = s2) && decide (a1 ≠ a2)
theorem secB_true {g key s1 a1 t1 s2 a2 t2 : Int} : secB g key s1 a1 t1 s2 a2 t2 = true ↔ tokB g key s1 a1 t1 = true ∧ tokB g key s2 a2 t2 = true ∧ s1 = s2 ∧ a1 ≠ a2 := by unfold secB; simp [and_assoc]

end Go.Proofs.Ytiinifcepcaonaa

/- Two talks compared with == and !=. -/
namespace Go.Proofs.Ytiinifcepcaonaa
open Go.RowKit

theorem talkStood : Try.prog.stoodInHeld 34 = false := by kernel_rfl
theorem talkGuard : Try.prog.eqGuardType Try.prog.depth 34 = false := by kernel_rfl
theorem talkFields : Try.prog.underlying 34 = some (.struct (Try.prog.fieldsOf 34)) := by kernel_rfl
def talkB (s a t s' a' t' : Int) : Bool := decide (s = s') && decide (a = a') && decide (t = t')
theorem talkB_refl (s a t : Int) : talkB s a t s a t = true := by simp [talkB]
theorem run_equal_talk (s a t s' a' t' : Int) (w : World) : (Op.equalIn 10000 34 (.agg #[.int .i64 s, .int .i64 a, .int .i64 t]) (.agg #[.int .i64 s', .int .i64 a', .int .i64 t'])).run Try.prog w = .ok (talkB s a t s' a' t') w := by
  rw [run_equalIn_struct w 9999 _ _ _ talkFields talkStood]
  by_cases h1 : s = s' <;> by_cases h2 : a = a' <;> by_cases h3 : t = t' <;> simp [Program.fieldsOf, Try.underlying34, Op.eqFields, go_sem, talkB, h1, h2, h3, Try.underlying3]
end Go.Proofs.Ytiinifcepcaonaa
