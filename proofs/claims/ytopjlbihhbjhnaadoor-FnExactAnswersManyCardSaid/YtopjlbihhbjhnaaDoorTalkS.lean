/- Contracts of spec's chapter 2: keys and talks. -/
import Derived.Test.YtopjlbihhbjhnaaDoorWalkE
import Derived.Test.YtopjlbihhbjhnaaDoorPureT
import Derived.Deep.RegionHeld3
import Derived.Laws.ResultCell
import Derived.Outline
namespace Go.Proofs.YtopjlbihhbjhnaaDoor
open Go.RowKit

def l2B (g s a t : Int) : Bool := elB g s && exB g a && exB g t
theorem l2B_true {g s a t : Int} : l2B g s a t = true ↔ elB g s = true ∧ exB g a = true ∧ exB g t = true := by unfold l2B; simp [and_assoc]

/-- A box of three cells, in a later world. -/
theorem box3 {w wk : World} {x y z : Value} {T : TypeId} (hb : Below (w.heap.size + 1) (w.alloc (.cells #[x, y, z] T)) wk) :
    (wk.cell? ⟨w.heap.size, 0, none⟩ = some x ∧ wk.cell? ⟨w.heap.size, 1, none⟩ = some y ∧ wk.cell? ⟨w.heap.size, 2, none⟩ = some z) ∧ wk.frozen? ⟨w.heap.size, 0, none⟩ = false ∧ wk.frozen? ⟨w.heap.size, 1, none⟩ = false ∧ wk.frozen? ⟨w.heap.size, 2, none⟩ = false ∧ w.heap.size < wk.heap.size := by
  have hc : ∀ o, wk.cell? ⟨w.heap.size, o, none⟩ = (w.alloc (.cells #[x, y, z] T)).cell? ⟨w.heap.size, o, none⟩ := fun o => hb.cell (p := ⟨w.heap.size, o, none⟩) (Nat.lt_succ_self _)
  have hf : ∀ o, wk.frozen? ⟨w.heap.size, o, none⟩ = (w.alloc (.cells #[x, y, z] T)).frozen? ⟨w.heap.size, o, none⟩ := fun o => hb.frozen (p := ⟨w.heap.size, o, none⟩) (Nat.lt_succ_self _)
  have hs := hb.size
  refine ⟨⟨?_, ?_, ?_⟩, ?_, ?_, ?_, by simp at hs; omega⟩
  · rw [hc, World.cell?_alloc_at _ _ _ _ rfl]; rfl
  · rw [hc, World.cell?_alloc_at _ _ _ _ rfl]; rfl
  · rw [hc, World.cell?_alloc_at _ _ _ _ rfl]; rfl
  · rw [hf, World.frozen?_alloc_at _ _ _ _ rfl]
  · rw [hf, World.frozen?_alloc_at _ _ _ _ rfl]
  · rw [hf, World.frozen?_alloc_at _ _ _ _ rfl]
theorem below_alloc (w : World) (o : Obj) : Below w.heap.size w (w.alloc o) := (Below.refl _ _).alloc (Nat.le_refl _) _
theorem box_on {w w1 w2 : World} {o : Obj} (h : Below (w.heap.size + 1) (w.alloc o) w1) (k : Below w1.heap.size w1 w2) : Below (w.heap.size + 1) (w.alloc o) w2 := h.trans (k.mono (by have := h.size; simpa using this))
theorem box_end {w w1 : World} {o : Obj} (h : Below (w.heap.size + 1) (w.alloc o) w1) : Below w.heap.size w w1 := (below_alloc w o).trans (h.mono (Nat.le_succ _))

theorem sl2_any (g s a t : Int) (w : World) : Calls Tryd.prog 81 #[.int .i64 g, .agg #[.int .i64 s, .int .i64 a, .int .i64 t]] w fun e w' => e = .returned (.bool (l2B g s a t)) ∧ Below w.heap.size w w' := by
  have HB := Lib.hid (Below.refl (w.heap.size + 1) (w.alloc (.cells #[.int .i64 s, .int .i64 a, .int .i64 t] 26)))
  cases hs : elB g s
  · have HX := Lib.hid (show l2B g s a t = false by unfold l2B; rw [hs]; rfl)
    go_enter Tryd.func81, Tryd.ntmps81
    go_wp2_with fail
    refine (sel_any _ _ _).mono ?_
    rintro e w1 ⟨rfl, hb⟩
    have HB1 := Lib.hid (box_on HB.out hb)
    go_wp2
    go_ret
    exact ⟨by rw [HX.out]; rfl, box_end HB1.out⟩
  · cases ha : exB g a
    · have HX := Lib.hid (show l2B g s a t = false by unfold l2B; rw [hs, ha]; rfl)
      go_enter Tryd.func81, Tryd.ntmps81
      go_wp2_with fail
      refine (sel_any _ _ _).mono ?_
      rintro e w1 ⟨rfl, hb⟩
      have HB1 := Lib.hid (box_on HB.out hb)
      obtain ⟨⟨c0, c1, c2⟩, _⟩ := box3 HB1.out
      clear hb
      go_wp2_with fail
      refine (sex_any _ _ _).mono ?_
      rintro e w2 ⟨rfl, hb⟩
      have HB2 := Lib.hid (box_on HB1.out hb)
      clear hb
      go_wp2
      go_ret
      exact ⟨by rw [HX.out]; rfl, box_end HB2.out⟩
    · have HX := Lib.hid (show l2B g s a t = exB g t by unfold l2B; rw [hs, ha]; rfl)
      go_enter Tryd.func81, Tryd.ntmps81
      go_wp2_with fail
      refine (sel_any _ _ _).mono ?_
      rintro e w1 ⟨rfl, hb⟩
      have HB1 := Lib.hid (box_on HB.out hb)
      obtain ⟨⟨c0, c1, c2⟩, _⟩ := box3 HB1.out
      clear hb
      go_wp2_with fail
      refine (sex_any _ _ _).mono ?_
      rintro e w2 ⟨rfl, hb⟩
      have HB2 := Lib.hid (box_on HB1.out hb)
      clear hb c0 c1 c2
      obtain ⟨⟨c0, c1, c2⟩, _⟩ := box3 HB2.out
      go_wp2_with fail
      refine (sex_any _ _ _).mono ?_
      rintro e w3 ⟨rfl, hb⟩
      have HB3 := Lib.hid (box_on HB2.out hb)
      clear hb
      go_wp2
      go_ret
      exact ⟨by rw [HX.out]; rfl, box_end HB3.out⟩

/-- A later world than the one with the box of a talk. -/
def Bx (w : World) (s a t : Int) (w' : World) : Prop := Below (w.heap.size + 1) (w.alloc (.cells #[.int .i64 s, .int .i64 a, .int .i64 t] 26)) w'
theorem Bx.cells {w w' : World} {s a t : Int} (h : Hid (Bx w s a t w')) : w'.cell? ⟨w.heap.size, 0, none⟩ = some (.int .i64 s) ∧ w'.cell? ⟨w.heap.size, 1, none⟩ = some (.int .i64 a) ∧ w'.cell? ⟨w.heap.size, 2, none⟩ = some (.int .i64 t) := (box3 h.out).1
theorem Bx.on {w w1 w2 : World} {s a t : Int} (h : Hid (Bx w s a t w1)) (k : Below w1.heap.size w1 w2) : Hid (Bx w s a t w2) := Lib.hid (box_on h.out k)
theorem sel_bx {w w1 : World} {s a t : Int} (g x : Int) (h : Hid (Bx w s a t w1)) : Calls Tryd.prog 59 #[.int .i64 g, .int .i64 x] w1 fun e w' => e = .returned (.bool (elB g x)) ∧ Hid (Bx w s a t w') := (sel_any g x w1).mono fun _ _ ⟨he, hb⟩ => ⟨he, Bx.on h hb⟩
theorem sl2_bx {w w1 : World} {s a t : Int} (g x y z : Int) (h : Hid (Bx w s a t w1)) : Calls Tryd.prog 81 #[.int .i64 g, .agg #[.int .i64 x, .int .i64 y, .int .i64 z]] w1 fun e w' => e = .returned (.bool (l2B g x y z)) ∧ Hid (Bx w s a t w') := (sl2_any g x y z w1).mono fun _ _ ⟨he, hb⟩ => ⟨he, Bx.on h hb⟩
theorem sbas_bx {w w1 : World} {s a t : Int} (g : Int) (h : Hid (Bx w s a t w1)) : Calls Tryd.prog 82 #[.int .i64 g] w1 fun e w' => e = .returned (.int .i64 (bas g)) ∧ Hid (Bx w s a t w') := (sbas_any g w1).mono fun _ _ ⟨he, hb⟩ => ⟨he, Bx.on h hb⟩
theorem spow_bx {w w1 : World} {s a t : Int} (g x n : Int) (h : Hid (Bx w s a t w1)) (h0 : 0 ≤ g) (h4 : g < 4) (a0 : 0 ≤ x) (a1 : x ≤ 100) (n0 : -9999 ≤ n) (n1 : n ≤ 9999) : Calls Tryd.prog 75 #[.int .i64 g, .int .i64 x, .int .i64 n] w1 fun e w' => e = .returned (.int .i64 (gp g x n)) ∧ Hid (Bx w s a t w') := (spow_any g x n w1 h0 h4 a0 a1 n0 n1).mono fun _ _ ⟨he, hb⟩ => ⟨he, Bx.on h hb⟩
theorem stms_bx {w w1 : World} {s a t : Int} (g x y : Int) (h : Hid (Bx w s a t w1)) (h0 : 0 ≤ g) (h4 : g < 4) (a0 : 0 ≤ x) (a1 : x ≤ 100) (b0 : 0 ≤ y) (b1 : y ≤ 100) : Calls Tryd.prog 74 #[.int .i64 g, .int .i64 x, .int .i64 y] w1 fun e w' => e = .returned (.int .i64 (x * y % prm g)) ∧ Hid (Bx w s a t w') := (stms_any g x y w1 h0 h4 a0 a1 b0 b1).mono fun _ _ ⟨he, hb⟩ => ⟨he, Bx.on h hb⟩

end Go.Proofs.YtopjlbihhbjhnaaDoor
