/- Draw, DrawB, DrawC, in one text. -/
import Derived.Test.YtlcegpmhlnilfaaBWalk
import Derived.Outline
import Derived.IntWalk
/- The reader of a code: what its block holds; pick. -/
namespace Go.Proofs.Ytlcegpmhlnilfaa
open Go.RowKit

/-- What a reader reads: a slice of bytes that came in, cut to 2000, all of whose blocks lie below block R. -/
def Code (w : World) (R : Nat) (s : Value) : Prop :=
  (∃ a cap, s = .slice a 0 cap) ∨ ∃ b off len cap, ∃ z : Nat → Int, s = .slice (some ⟨b, off, none⟩) len cap ∧ 0 < len ∧ len ≤ 2000 ∧ b < R ∧ (∀ j, j < len → w.cell? ⟨b, off + j, none⟩ = some (.int .u8 (z j))) ∧ ∀ j, 0 ≤ z j ∧ z j ≤ 255

/-- The reader at block R, at position k. -/
structure Rd (w : World) (R : Nat) (k : Nat) : Prop where
  code : ∃ s, Code w R s ∧ w.cell? ⟨R, 0, none⟩ = some s
  pos : w.cell? ⟨R, 1, none⟩ = some (.int .i64 k)
  free : w.frozen? ⟨R, 1, none⟩ = false
  lt : R < w.heap.size

def PickPost (R k : Nat) (n : Int) (w : World) (e : Ending) (w' : World) : Prop :=
  ∃ v : Int, e = .returned (.int .i64 v) ∧ 0 ≤ v ∧ (1 ≤ n → v < n) ∧ ∃ m, w' = (w.setCell ⟨R, 1, none⟩ (.int .i64 ((k : Int) + 1))).drewN m

theorem xor_nat (a b : Nat) (ha : a < 2 ^ 62) (hb : b < 2 ^ 62) : 0 ≤ bits BinOp.xor IntKind.i64 (a : Int) (b : Int) := by
  have h := Nat.xor_lt_two_pow ha hb
  have e : (BitVec.ofInt 64 (a : Int) ^^^ BitVec.ofInt 64 (b : Int)).toNat = a ^^^ b := by
    rw [BitVec.toNat_xor, BitVec.toNat_ofInt, BitVec.toNat_ofInt]
    congr 1 <;> omega
  show 0 ≤ IntKind.i64.wrap ((BitVec.ofInt 64 (a : Int) ^^^ BitVec.ofInt 64 (b : Int)).toNat : Int)
  rw [e, IntWalk.i64_in _ (by omega)]
  omega

def mixN (x : Int) : Int := bits BinOp.xor IntKind.i64 x (x / 64)
theorem mix_nonneg (x : Int) (h0 : 0 ≤ x) (h1 : x ≤ 1000000000) : 0 ≤ mixN x := by
  obtain ⟨a, rfl⟩ := Int.eq_ofNat_of_zero_le h0
  have := xor_nat a (a / 64) (by omega) (by omega)
  unfold mixN
  exact_mod_cast this

/-- The reader in a later world that left its block, and all below it. -/
theorem Rd.of_same {w w' : World} {R k k' : Nat} (h : Rd w R k) (h0 : w'.cell? ⟨R, 0, none⟩ = w.cell? ⟨R, 0, none⟩) (h1 : w'.cell? ⟨R, 1, none⟩ = some (.int .i64 (k' : Nat))) (hf : w'.frozen? ⟨R, 1, none⟩ = false)
    (hs : w.heap.size ≤ w'.heap.size) (hb : ∀ b o, b < R → w'.cell? ⟨b, o, none⟩ = w.cell? ⟨b, o, none⟩) : Rd w' R k' := by
  obtain ⟨⟨s, hc, hcs⟩, hp, hfr, hlt⟩ := h
  refine ⟨⟨s, ?_, h0.trans hcs⟩, h1, hf, Nat.lt_of_lt_of_le hlt hs⟩
  rcases hc with hc | ⟨b, off, len, cap, z, e, g1, g2, g3, g4, g5⟩
  · exact .inl hc
  · exact .inr ⟨b, off, len, cap, z, e, g1, g2, g3, fun j hj => (hb b (off + j) g3).trans (g4 j hj), g5⟩

theorem Rd.next {w : World} {R k : Nat} (h : Rd w R k) (m : Nat) : Rd ((w.setCell ⟨R, 1, none⟩ (.int .i64 ((k : Int) + 1))).drewN m) R (k + 1) := by
  have hp := h.pos
  refine h.of_same (World.cell?_setCell_other w ⟨R, 1, none⟩ ⟨R, 0, none⟩ _ (by simp)) ?_ ((World.frozen?_setCell w ⟨R, 1, none⟩ ⟨R, 1, none⟩ _).trans h.free) (by simp [World.setCell, World.drewN]) (fun b o hb => World.cell?_setCell_other w ⟨R, 1, none⟩ ⟨b, o, none⟩ _ (by first | (simp; done) | (simp; omega)))
  exact (World.cell?_setCell_same w ⟨R, 1, none⟩ _ hp).trans (by simp)

theorem Rd.below {w w' : World} {R k : Nat} (h : Rd w R k) (hb : Below w.heap.size w w') : Rd w' R k :=
  h.of_same (hb.cell (p := ⟨R, 0, none⟩) h.lt) ((hb.cell (p := ⟨R, 1, none⟩) h.lt).trans h.pos) ((hb.frozen (p := ⟨R, 1, none⟩) h.lt).trans h.free) hb.size (fun b o hbR => hb.cell (p := ⟨b, o, none⟩) (Nat.lt_trans hbR h.lt))

end Go.Proofs.Ytlcegpmhlnilfaa

/- Draws: l20Open, odd, l20Group, l20Exp, l20Elem. -/
namespace Go.Proofs.Ytlcegpmhlnilfaa
open Go.RowKit

/-- A code that came in. -/
def CodeIn (w : World) (s : Value) : Prop :=
  (∃ a cap, s = .slice a 0 cap) ∨ ∃ b off len cap, ∃ z : Nat → Int, s = .slice (some ⟨b, off, none⟩) len cap ∧ 0 < len ∧ len ≤ cap ∧ cap ≤ maxLen ∧ b < w.heap.size ∧ (∀ j, j < len → w.cell? ⟨b, off + j, none⟩ = some (.int .u8 (z j))) ∧ ∀ j, 0 ≤ z j ∧ z j ≤ 255

def OpenPost (w : World) (e : Ending) (w' : World) : Prop := e = .returned (.pointer (some ⟨w.heap.size, 0, none⟩)) ∧ Rd w' w.heap.size 0 ∧ Below w.heap.size w w'

theorem rd_new {w : World} {s : Value} {T : TypeId} (h : Code w w.heap.size s) : Rd (w.alloc (.cells #[s, .int .i64 0] T)) w.heap.size 0 := by
  have hc := cell_two_new w s (.int .i64 0) T
  have a0 : (⟨w.heap.size, 0, none⟩ : Addr).add 0 = ⟨w.heap.size, 0, none⟩ := by unfold Addr.add; split <;> simp_all
  have a1 : (⟨w.heap.size, 0, none⟩ : Addr).add 1 = ⟨w.heap.size, 1, none⟩ := by unfold Addr.add; split <;> simp_all
  refine ⟨⟨s, ?_, by rw [← a0]; exact hc 0 s rfl⟩, by rw [← a1]; exact hc 1 _ rfl, World.frozen?_alloc_at _ _ _ _ rfl, by simp⟩
  rcases h with h | ⟨b, off, len, cap, z, e, g1, g2, g3, g4, g5⟩
  · exact .inl h
  · exact .inr ⟨b, off, len, cap, z, e, g1, g2, g3, fun j hj => (World.cell?_alloc_past _ _ _ (by simpa using g3)).trans (g4 j hj), g5⟩

def OddPost (R k : Nat) (w : World) (e : Ending) (w' : World) : Prop :=
  ∃ b : Bool, e = .returned (.bool b) ∧ ∃ m, w' = (w.setCell ⟨R, 1, none⟩ (.int .i64 ((k : Int) + 1))).drewN m

theorem grown_trans {w w1 w2 : World} {R : Nat} (h : w.grownBy w1 (some R)) (k : w1.grownBy w2 (some R)) : w.grownBy w2 (some R) :=
  ⟨k.os.trans h.os, k.tape.trans h.tape, k.output.trans h.output, Nat.le_trans h.size k.size, fun i hi hr => (k.block i (Nat.lt_of_lt_of_le hi h.size) hr).trans (h.block i hi hr)⟩
theorem grown_pick (w : World) (R k m : Nat) : w.grownBy ((w.setCell ⟨R, 1, none⟩ (.int .i64 ((k : Int) + 1))).drewN m) (some R) :=
  ⟨rfl, rfl, rfl, by simp [World.setCell, World.drewN], fun i hi hr => Below.heap_setCell w ⟨R, 1, none⟩ _ i (fun e => hr (by rw [e]))⟩
theorem grown_below {w w' : World} (R : Nat) (h : Below w.heap.size w w') : w.grownBy w' (some R) := ⟨h.os, h.tape, h.output, h.size, fun k hk _ => h.block k hk⟩
theorem grown_refl (w : World) (R : Nat) : w.grownBy w (some R) := ⟨rfl, rfl, rfl, Nat.le_refl _, fun _ _ _ => rfl⟩
theorem below_of_grown {B : Nat} {a w w' : World} {R : Nat} (h : Below B a w) (hg : w.grownBy w' (some R)) (hB : B ≤ w.heap.size) (hR : B ≤ R) : Below B a w' :=
  h.grown hg hB (fun k e => by cases e; exact hR)
theorem Rd.grown {w w' : World} {R k : Nat} (hg : w.grownBy w' (some R)) (h' : Rd w' R k) : w.grownBy w' (some R) ∧ Rd w' R k := ⟨hg, h'⟩

/-- A number was drawn: its bounds, the reader one to three bytes on. -/
def NumPost (R k d : Nat) (lo hi : Int) (w : World) (e : Ending) (w' : World) : Prop :=
  ∃ v : Int, e = .returned (.int .i64 v) ∧ lo ≤ v ∧ v ≤ hi ∧ w.grownBy w' (some R) ∧ ∃ k', k' ≤ k + d ∧ Rd w' R k'

theorem arr_cell {w1 : World} {R m j : Nat} {x u : Value} {cs : Array Value} {T : TypeId} (hne : R ≠ w1.heap.size) (hj : cs[j]? = some u) :
    (((w1.alloc (.cells cs T)).setCell ⟨R, 1, none⟩ x).drewN m).cell? ⟨w1.heap.size, j, none⟩ = some u := by
  refine (World.cell?_setCell_other _ ⟨R, 1, none⟩ ⟨w1.heap.size, j, none⟩ x (by first | (simp; done) | (simp; exact fun h => absurd h hne) | (simp; exact fun h => absurd h.symm hne))).trans ?_
  rw [World.cell?_alloc_at _ _ _ _ rfl]
  exact hj

end Go.Proofs.Ytlcegpmhlnilfaa

/- The Draw functions of chapter 1: which numbers a code gives, whatever it is: some in bounds; nothing that was there is written. -/
namespace Go.Proofs.Ytlcegpmhlnilfaa
open Go.RowKit

def Draw1Post (lo hi : Int) (w : World) (e : Ending) (w' : World) : Prop := ∃ g : Int, e = .returned (.int .i64 g) ∧ lo ≤ g ∧ g ≤ hi ∧ Below w.heap.size w w'
def Draw2Post (lo hi : Int) (w : World) (e : Ending) (w' : World) : Prop :=
  ∃ g a : Int, e = .returned (.tuple #[.int .i64 g, .int .i64 a]) ∧ (lo ≤ g ∧ g ≤ hi) ∧ (-10000 ≤ a ∧ a ≤ 10000) ∧ Below w.heap.size w w'
def Draw3Post (lo hi : Int) (w : World) (e : Ending) (w' : World) : Prop :=
  ∃ g a b : Int, e = .returned (.tuple #[.int .i64 g, .int .i64 a, .int .i64 b]) ∧ (lo ≤ g ∧ g ≤ hi) ∧ (-10000 ≤ a ∧ a ≤ 10000) ∧ (-10100 ≤ b ∧ b ≤ 10100) ∧ Below w.heap.size w w'

end Go.Proofs.Ytlcegpmhlnilfaa
