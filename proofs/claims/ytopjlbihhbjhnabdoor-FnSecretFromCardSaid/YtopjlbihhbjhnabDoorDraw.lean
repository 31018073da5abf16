/- The reader of a code: what its block holds; pick. -/
import Derived.Test.YtopjlbihhbjhnabDoorWalkE
import Derived.Outline
import Derived.IntWalk
namespace Go.Proofs.YtopjlbihhbjhnabDoor
open Go.RowKit

/-- What a reader reads: a slice of bytes that came in, cut to 2000, all of whose blocks lie below block R. -/
def Code (w : World) (R : Nat) (s : Value) : Prop :=
  (∃ a cap, s = .slice a 0 cap) ∨ ∃ b off len cap, ∃ z : Nat → Int, s = .slice (some ⟨b, off, none⟩) len cap ∧ 0 < len ∧ len ≤ 2000 ∧ b < R ∧ (∀ j, j < len → w.cell? ⟨b, off + j, none⟩ = some (.int .u8 (z j))) ∧ ∀ j, 0 ≤ z j ∧ z j ≤ 255

/-- The reader at block R, at position k. -/
structure Rd (w : World) (R : Nat) (k : Nat) : Prop where
  code : ∃ s, Code w R s ∧ w.cell? ⟨R, 0, none⟩ = some s
  pos : w.cell? ⟨R, 1, none⟩ = some (.int .i64 k)
  free : w.frozen? ⟨R, 1, none⟩ = false
  lt : R < w.heap.size

def PickPost (R k : Nat) (n : Int) (w : World) (e : Ending) (w' : World) : Prop :=
  ∃ v : Int, e = .returned (.int .i64 v) ∧ 0 ≤ v ∧ (1 ≤ n → v < n) ∧ ∃ m, w' = (w.setCell ⟨R, 1, none⟩ (.int .i64 ((k : Int) + 1))).drewN m

theorem xor_nat (a b : Nat) (ha : a < 2 ^ 62) (hb : b < 2 ^ 62) : 0 ≤ bits BinOp.xor IntKind.i64 (a : Int) (b : Int) := by
  have h := Nat.xor_lt_two_pow ha hb
  have e : (BitVec.ofInt 64 (a : Int) ^^^ BitVec.ofInt 64 (b : Int)).toNat = a ^^^ b := by
    rw [BitVec.toNat_xor, BitVec.toNat_ofInt, BitVec.toNat_ofInt]
    congr 1 <;> omega
  show 0 ≤ IntKind.i64.wrap ((BitVec.ofInt 64 (a : Int) ^^^ BitVec.ofInt 64 (b : Int)).toNat : Int)
  rw [e, IntWalk.i64_in _ (by omega)]
  omega

def mixN (x : Int) : Int := bits BinOp.xor IntKind.i64 x (x / 64)
theorem mix_nonneg (x : Int) (h0 : 0 ≤ x) (h1 : x ≤ 1000000000) : 0 ≤ mixN x := by
  obtain ⟨a, rfl⟩ := Int.eq_ofNat_of_zero_le h0
  have := xor_nat a (a / 64) (by omega) (by omega)
  unfold mixN
  exact_mod_cast this

theorem pick_late (R k b off len cap : Nat) (z : Nat → Int) (n : Int) (w : World) (hs : w.cell? ⟨R, 0, none⟩ = some (.slice (some ⟨b, off, none⟩) len cap)) (hl : 0 < len) (hl2 : len ≤ 2000) (hb : b < R)
    (hc : ∀ j, j < len → w.cell? ⟨b, off + j, none⟩ = some (.int .u8 (z j))) (hz : ∀ j, 0 ≤ z j ∧ z j ≤ 255)
    (hp : w.cell? ⟨R, 1, none⟩ = some (.int .i64 k)) (hf : w.frozen? ⟨R, 1, none⟩ = false) (hk : k ≤ 100000) (hn : 1 ≤ n) (hlt : len ≤ k) :
    Calls Tryd.prog 75 #[.pointer (some ⟨R, 0, none⟩), .int .i64 n] w (PickPost R k n w) := by
  have hd1 : decide (n < 1) = false := by simp; omega
  have hd2 : ((len : Int) == 0) = false := by simp; omega
  have hne : b ≠ R := by omega
  obtain ⟨i1, hi1⟩ : ∃ i1 : Nat, i1 = k % len := ⟨_, rfl⟩
  obtain ⟨i2, hi2⟩ : ∃ i2 : Nat, i2 = (k * 7 + 3) % len := ⟨_, rfl⟩
  have h1 : i1 < len := by rw [hi1]; exact Nat.mod_lt _ hl
  have h2 : i2 < len := by rw [hi2]; exact Nat.mod_lt _ hl
  have c1 := hc i1 h1
  have c2 := hc i2 h2
  obtain ⟨z1, z2⟩ := hz i1
  obtain ⟨z3, z4⟩ := hz i2
  have d1 : 0 ≤ (k : Int) / (len : Int) := Int.ediv_nonneg (by omega) (by omega)
  have d2 : (k : Int) / (len : Int) ≤ 100000 := Int.le_trans (Int.ediv_le_self _ (by omega)) (by omega)
  have H1 := Lib.hid hi1; clear hi1
  have H2 := Lib.hid hi2; clear hi2
  clear hc hz
  go_enter Tryd.func75, Tryd.ntmps75
  go_wp2_with fail
  have q0 := World.cell?_setCell_other w ⟨R, 1, none⟩ ⟨R, 0, none⟩ (.int .i64 ((k : Int) + 1)) (by simp)
  have q1 := World.cell?_setCell_other w ⟨R, 1, none⟩ ⟨b, off + i1, none⟩ (.int .i64 ((k : Int) + 1)) (by simp)
  have q2 := World.cell?_setCell_other w ⟨R, 1, none⟩ ⟨b, off + i2, none⟩ (.int .i64 ((k : Int) + 1)) (by simp)
  rw [hs] at q0
  rw [c1] at q1
  rw [c2] at q2
  obtain ⟨W1, hW1⟩ : ∃ W1, W1 = w.setCell ⟨R, 1, none⟩ (.int .i64 ((k : Int) + 1)) := ⟨_, rfl⟩
  rw [← hW1] at q0 q1 q2 ⊢
  have HW := Lib.hid hW1
  clear hW1 hp hf hs c1 c2
  have e1 : ((k : Int)).tmod (len : Int) = (i1 : Int) := by rw [H1.out]; exact Int.tmod_eq_emod_of_nonneg (by omega)
  have e2 : ((k : Int) * 7 + 3).tmod (len : Int) = (i2 : Int) := by rw [H2.out]; exact Int.tmod_eq_emod_of_nonneg (by omega)
  go_quiet (fail)
  clear e1 e2
  go_wp2_with fail
  go_ret
  have m1 := mix_nonneg (z i1 * 131 + z i2 * 1117 + (k : Int) * 29 + (k : Int) / (len : Int) * 53) (by omega) (by omega)
  refine ⟨_, rfl, Int.tmod_nonneg _ m1, fun _ => Int.tmod_lt_of_pos _ (by omega), nq, by rw [HW.out]⟩

theorem pick_early (R k b off len cap : Nat) (z : Nat → Int) (n : Int) (w : World) (hs : w.cell? ⟨R, 0, none⟩ = some (.slice (some ⟨b, off, none⟩) len cap)) (hl : 0 < len) (hl2 : len ≤ 2000) (hb : b < R)
    (hc : ∀ j, j < len → w.cell? ⟨b, off + j, none⟩ = some (.int .u8 (z j))) (hz : ∀ j, 0 ≤ z j ∧ z j ≤ 255)
    (hp : w.cell? ⟨R, 1, none⟩ = some (.int .i64 k)) (hf : w.frozen? ⟨R, 1, none⟩ = false) (hk : k ≤ 100000) (hn : 1 ≤ n) (hlt : k < len) :
    Calls Tryd.prog 75 #[.pointer (some ⟨R, 0, none⟩), .int .i64 n] w (PickPost R k n w) := by
  have hd1 : decide (n < 1) = false := by simp; omega
  have hd2 : ((len : Int) == 0) = false := by simp; omega
  have hd3 : (n == 0) = false := by simp; omega
  have hne : b ≠ R := by omega
  have c1 := hc k hlt
  obtain ⟨z1, z2⟩ := hz k
  clear hc hz
  go_enter Tryd.func75, Tryd.ntmps75
  go_wp2
  go_ret
  refine ⟨_, rfl, ?_, ?_, 0, rfl⟩
  · first | exact Int.tmod_nonneg _ z1 | exact Int.emod_nonneg _ (by omega)
  · intro _; first | exact Int.tmod_lt_of_pos _ (by omega) | exact Int.emod_lt_of_pos _ (by omega)

theorem pick_none (R k : Nat) (n : Int) (w : World)
    (hp : w.cell? ⟨R, 1, none⟩ = some (.int .i64 k)) (hf : w.frozen? ⟨R, 1, none⟩ = false) (hk : k ≤ 100000) (hn : n < 1) :
    Calls Tryd.prog 75 #[.pointer (some ⟨R, 0, none⟩), .int .i64 n] w (PickPost R k n w) := by
  have hd1 : decide (n < 1) = true := by simp; omega
  go_enter Tryd.func75, Tryd.ntmps75
  go_wp2
  go_ret
  exact ⟨_, rfl, by omega, fun _ => by omega, 0, rfl⟩

theorem pick_empty (R k : Nat) (a : Option Addr) (cap : Nat) (n : Int) (w : World) (hs : w.cell? ⟨R, 0, none⟩ = some (.slice a 0 cap))
    (hp : w.cell? ⟨R, 1, none⟩ = some (.int .i64 k)) (hf : w.frozen? ⟨R, 1, none⟩ = false) (hk : k ≤ 100000) (hn : 1 ≤ n) :
    Calls Tryd.prog 75 #[.pointer (some ⟨R, 0, none⟩), .int .i64 n] w (PickPost R k n w) := by
  have hd1 : decide (n < 1) = false := by simp; omega
  go_enter Tryd.func75, Tryd.ntmps75
  go_wp2
  go_ret
  exact ⟨_, rfl, by omega, fun _ => by omega, 0, rfl⟩

theorem pick_any (R k : Nat) (n : Int) (w : World) (h : Rd w R k) (hk : k ≤ 100000) : Calls Tryd.prog 75 #[.pointer (some ⟨R, 0, none⟩), .int .i64 n] w (PickPost R k n w) := by
  obtain ⟨⟨s, hc, hs⟩, hp, hf, hlt⟩ := h
  by_cases hn : 1 ≤ n
  · rcases hc with ⟨a, cap, rfl⟩ | ⟨b, off, len, cap, z, rfl, h1, h2, h3, h4, h5⟩
    · exact pick_empty R k a cap n w hs hp hf hk hn
    · by_cases hl : k < len
      · exact pick_early R k b off len cap z n w hs h1 h2 h3 h4 h5 hp hf hk hn hl
      · exact pick_late R k b off len cap z n w hs h1 h2 h3 h4 h5 hp hf hk hn (by omega)
  · exact pick_none R k n w hp hf hk (by omega)

/-- The reader in a later world that left its block, and all below it. -/
theorem Rd.of_same {w w' : World} {R k k' : Nat} (h : Rd w R k) (h0 : w'.cell? ⟨R, 0, none⟩ = w.cell? ⟨R, 0, none⟩) (h1 : w'.cell? ⟨R, 1, none⟩ = some (.int .i64 (k' : Nat))) (hf : w'.frozen? ⟨R, 1, none⟩ = false)
    (hs : w.heap.size ≤ w'.heap.size) (hb : ∀ b o, b < R → w'.cell? ⟨b, o, none⟩ = w.cell? ⟨b, o, none⟩) : Rd w' R k' := by
  obtain ⟨⟨s, hc, hcs⟩, hp, hfr, hlt⟩ := h
  refine ⟨⟨s, ?_, h0.trans hcs⟩, h1, hf, Nat.lt_of_lt_of_le hlt hs⟩
  rcases hc with hc | ⟨b, off, len, cap, z, e, g1, g2, g3, g4, g5⟩
  · exact .inl hc
  · exact .inr ⟨b, off, len, cap, z, e, g1, g2, g3, fun j hj => (hb b (off + j) g3).trans (g4 j hj), g5⟩

theorem Rd.next {w : World} {R k : Nat} (h : Rd w R k) (m : Nat) : Rd ((w.setCell ⟨R, 1, none⟩ (.int .i64 ((k : Int) + 1))).drewN m) R (k + 1) := by
  have hp := h.pos
  refine h.of_same (World.cell?_setCell_other w ⟨R, 1, none⟩ ⟨R, 0, none⟩ _ (by simp)) ?_ ((World.frozen?_setCell w ⟨R, 1, none⟩ ⟨R, 1, none⟩ _).trans h.free) (by simp [World.setCell, World.drewN]) (fun b o hb => World.cell?_setCell_other w ⟨R, 1, none⟩ ⟨b, o, none⟩ _ (by first | (simp; done) | (simp; omega)))
  exact (World.cell?_setCell_same w ⟨R, 1, none⟩ _ hp).trans (by simp)

theorem Rd.below {w w' : World} {R k : Nat} (h : Rd w R k) (hb : Below w.heap.size w w') : Rd w' R k :=
  h.of_same (hb.cell (p := ⟨R, 0, none⟩) h.lt) ((hb.cell (p := ⟨R, 1, none⟩) h.lt).trans h.pos) ((hb.frozen (p := ⟨R, 1, none⟩) h.lt).trans h.free) hb.size (fun b o hbR => hb.cell (p := ⟨b, o, none⟩) (Nat.lt_trans hbR h.lt))

end Go.Proofs.YtopjlbihhbjhnabDoor
