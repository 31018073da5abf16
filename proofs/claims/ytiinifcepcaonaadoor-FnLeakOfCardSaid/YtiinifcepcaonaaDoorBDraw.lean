/- Draw, DrawB, DrawC, in one text. -/
import Derived.Test.YtiinifcepcaonaaDoorBWalk
import Derived.Outline
import Derived.IntWalk
/- The reader of a code: what its block holds; pick. -/
namespace Go.Proofs.YtiinifcepcaonaaDoor
open Go.RowKit

/-- What a reader reads: a slice of bytes that came in, cut to 2000, all of whose blocks lie below block R. -/
def Code (w : World) (R : Nat) (s : Value) : Prop :=
  (∃ a cap, s = .slice a 0 cap) ∨ ∃ b off len cap, ∃ z : Nat → Int, s = .slice (some ⟨b, off, none⟩) len cap ∧ 0 < len ∧ len ≤ 2000 ∧ b < R ∧ (∀ j, j < len → w.cell? ⟨b, off + j, none⟩ = some (.int .u8 (z j))) ∧ ∀ j, 0 ≤ z j ∧ z j ≤ 255

/-- The reader at block R, at position k. -/
structure Rd (w : World) (R : Nat) (k : Nat) : Prop where
  code : ∃ s, Code w R s ∧ w.cell? ⟨R, 0, none⟩ = some s
  pos : w.cell? ⟨R, 1, none⟩ = some (.int .i64 k)
  free : w.frozen? ⟨R, 1, none⟩ = false
  lt : R < w.heap.size

def PickPost (R k : Nat) (n : Int) (w : World) (e : Ending) (w' : World) : Prop :=
  ∃ v : Int, e = .returned (.int .i64 v) ∧ 0 ≤ v ∧ (1 ≤ n → v < n) ∧ ∃ m, w' = (w.setCell ⟨R, 1, none⟩ (.int .i64 ((k : Int) + 1))).drewN m

theorem xor_nat (a b : Nat) (ha : a < 2 ^ 62) (hb : b < 2 ^ 62) : 0 ≤ bits BinOp.xor IntKind.i64 (a : Int) (b : Int) := by
  have h := Nat.xor_lt_two_pow ha hb
  have e : (BitVec.ofInt 64 (a : Int) ^^^ BitVec.ofInt 64 (b : Int)).toNat = a ^^^ b := by
    rw [BitVec.toNat_xor, BitVec.toNat_ofInt, BitVec.toNat_ofInt]
    congr 1 <;> omega
  show 0 ≤ IntKind.i64.wrap ((BitVec.ofInt 64 (a : Int) ^^^ BitVec.ofInt 64 (b : Int)).toNat : Int)
  rw [e, IntWalk.i64_in _ (by omega)]
  omega

def mixN (x : Int) : Int := bits BinOp.xor IntKind.i64 x (x / 64)
theorem mix_nonneg (x : Int) (h0 : 0 ≤ x) (h1 : x ≤ 1000000000) : 0 ≤ mixN x := by
  obtain ⟨a, rfl⟩ := Int.eq_ofNat_of_zero_le h0
  have := xor_nat a (a / 64) (by omega) (by omega)
  unfold mixN
  exact_mod_cast this

theorem pick_late (R k b off len cap : Nat) (z : Nat → Int) (n : Int) (w : World) (hs : w.cell? ⟨R, 0, none⟩ = some (.slice (some ⟨b, off, none⟩) len cap)) (hl : 0 < len) (hl2 : len ≤ 2000) (hb : b < R)
    (hc : ∀ j, j < len → w.cell? ⟨b, off + j, none⟩ = some (.int .u8 (z j))) (hz : ∀ j, 0 ≤ z j ∧ z j ≤ 255)
    (hp : w.cell? ⟨R, 1, none⟩ = some (.int .i64 k)) (hf : w.frozen? ⟨R, 1, none⟩ = false) (hk : k ≤ 100000) (hn : 1 ≤ n) (hlt : len ≤ k) :
    Calls Tryd.prog 55 #[.pointer (some ⟨R, 0, none⟩), .int .i64 n] w (PickPost R k n w) := by
  have hd1 : decide (n < 1) = false := by simp; omega
  have hd2 : ((len : Int) == 0) = false := by simp; omega
  have hne : b ≠ R := by omega
  obtain ⟨i1, hi1⟩ : ∃ i1 : Nat, i1 = k % len := ⟨_, rfl⟩
  obtain ⟨i2, hi2⟩ : ∃ i2 : Nat, i2 = (k * 7 + 3) % len := ⟨_, rfl⟩
  have h1 : i1 < len := by rw [hi1]; exact Nat.mod_lt _ hl
  have h2 : i2 < len := by rw [hi2]; exact Nat.mod_lt _ hl
  have c1 := hc i1 h1
  have c2 := hc i2 h2
  obtain ⟨z1, z2⟩ := hz i1
  obtain ⟨z3, z4⟩ := hz i2
  have d1 : 0 ≤ (k : Int) / (len : Int) := Int.ediv_nonneg (by omega) (by omega)
  have d2 : (k : Int) / (len : Int) ≤ 100000 := Int.le_trans (Int.ediv_le_self _ (by omega)) (by omega)
  have H1 := Lib.hid hi1; clear hi1
  have H2 := Lib.hid hi2; clear hi2
  clear hc hz
  go_enter Tryd.func55, Tryd.ntmps55
  go_wp2_with fail
  have q0 := World.cell?_setCell_other w ⟨R, 1, none⟩ ⟨R, 0, none⟩ (.int .i64 ((k : Int) + 1)) (by simp)
  have q1 := World.cell?_setCell_other w ⟨R, 1, none⟩ ⟨b, off + i1, none⟩ (.int .i64 ((k : Int) + 1)) (by simp)
  have q2 := World.cell?_setCell_other w ⟨R, 1, none⟩ ⟨b, off + i2, none⟩ (.int .i64 ((k : Int) + 1)) (by simp)
  rw [hs] at q0
  rw [c1] at q1
  rw [c2] at q2
  obtain ⟨W1, hW1⟩ : ∃ W1, W1 = w.setCell ⟨R, 1, none⟩ (.int .i64 ((k : Int) + 1)) := ⟨_, rfl⟩
  rw [← hW1] at q0 q1 q2 ⊢
  have HW := Lib.hid hW1
  clear hW1 hp hf hs c1 c2
  have e1 : ((k : Int)).tmod (len : Int) = (i1 : Int) := by rw [H1.out]; exact Int.tmod_eq_emod_of_nonneg (by omega)
  have e2 : ((k : Int) * 7 + 3).tmod (len : Int) = (i2 : Int) := by rw [H2.out]; exact Int.tmod_eq_emod_of_nonneg (by omega)
  go_quiet (fail)
  clear e1 e2
  go_wp2_with fail
  go_ret
  have m1 := mix_nonneg (z i1 * 131 + z i2 * 1117 + (k : Int) * 29 + (k : Int) / (len : Int) * 53) (by omega) (by omega)
  refine ⟨_, rfl, Int.tmod_nonneg _ m1, fun _ => Int.tmod_lt_of_pos _ (by omega), nq, by rw [HW.out]⟩

theorem pick_early (R k b off len cap : Nat) (z : Nat → Int) (n : Int) (w : World) (hs : w.cell? ⟨R, 0, none⟩ = some (.slice (some ⟨b, off, none⟩) len cap)) (hl : 0 < len) (hl2 : len ≤ 2000) (hb : b < R)
    (hc : ∀ j, j < len → w.cell? ⟨b, off + j, none⟩ = some (.int .u8 (z j))) (hz : ∀ j, 0 ≤ z j ∧ z j ≤ 255)
    (hp : w.cell? ⟨R, 1, none⟩ = some (.int .i64 k)) (hf : w.frozen? ⟨R, 1, none⟩ = false) (hk : k ≤ 100000) (hn : 1 ≤ n) (hlt : k < len) :
    Calls Tryd.prog 55 #[.pointer (some ⟨R, 0, none⟩), .int .i64 n] w (PickPost R k n w) := by
  have hd1 : decide (n < 1) = false := by simp; omega
  have hd2 : ((len : Int) == 0) = false := by simp; omega
  have hd3 : (n == 0) = false := by simp; omega
  have hne : b ≠ R := by omega
  have c1 := hc k hlt
  obtain ⟨z1, z2⟩ := hz k
  clear hc hz
  go_enter Tryd.func55, Tryd.ntmps55
  go_wp2
  go_ret
  refine ⟨_, rfl, ?_, ?_, 0, rfl⟩
  · first | exact Int.tmod_nonneg _ z1 | exact Int.emod_nonneg _ (by omega)
  · intro _; first | exact Int.tmod_lt_of_pos _ (by omega) | exact Int.emod_lt_of_pos _ (by omega)

theorem pick_none (R k : Nat) (n : Int) (w : World)
    (hp : w.cell? ⟨R, 1, none⟩ = some (.int .i64 k)) (hf : w.frozen? ⟨R, 1, none⟩ = false) (hk : k ≤ 100000) (hn : n < 1) :
    Calls Tryd.prog 55 #[.pointer (some ⟨R, 0, none⟩), .int .i64 n] w (PickPost R k n w) := by
  have hd1 : decide (n < 1) = true := by simp; omega
  go_enter Tryd.func55, Tryd.ntmps55
  go_wp2
  go_ret
  exact ⟨_, rfl, by omega, fun _ => by omega, 0, rfl⟩

theorem pick_empty (R k : Nat) (a : Option Addr) (cap : Nat) (n : Int) (w : World) (hs : w.cell? ⟨R, 0, none⟩ = some (.slice a 0 cap))
    (hp : w.cell? ⟨R, 1, none⟩ = some (.int .i64 k)) (hf : w.frozen? ⟨R, 1, none⟩ = false) (hk : k ≤ 100000) (hn : 1 ≤ n) :
    Calls Tryd.prog 55 #[.pointer (some ⟨R, 0, none⟩), .int .i64 n] w (PickPost R k n w) := by
  have hd1 : decide (n < 1) = false := by simp; omega
  go_enter Tryd.func55, Tryd.ntmps55
  go_wp2
  go_ret
  exact ⟨_, rfl, by omega, fun _ => by omega, 0, rfl⟩

theorem pick_any (R k : Nat) (n : Int) (w : World) (h : Rd w R k) (hk : k ≤ 100000) : Calls Tryd.prog 55 #[.pointer (some ⟨R, 0, none⟩), .int .i64 n] w (PickPost R k n w) := by
  obtain ⟨⟨s, hc, hs⟩, hp, hf, hlt⟩ := h
  by_cases hn : 1 ≤ n
  · rcases hc with ⟨a, cap, rfl⟩ | ⟨b, off, len, cap, z, rfl, h1, h2, h3, h4, h5⟩
    · exact pick_empty R k a cap n w hs hp hf hk hn
    · by_cases hl : k < len
      · exact pick_early R k b off len cap z n w hs h1 h2 h3 h4 h5 hp hf hk hn hl
      · exact pick_late R k b off len cap z n w hs h1 h2 h3 h4 h5 hp hf hk hn (by omega)
  · exact pick_none R k n w hp hf hk (by omega)

/-- The reader in a later world that left its block, and all below it. -/
theorem Rd.of_same {w w' : World} {R k k' : Nat} (h : Rd w R k) (h0 : w'.cell? ⟨R, 0, none⟩ = w.cell? ⟨R, 0, none⟩) (h1 : w'.cell? ⟨R, 1, none⟩ = some (.int .i64 (k' : Nat))) (hf : w'.frozen? ⟨R, 1, none⟩ = false)
    (hs : w.heap.size ≤ w'.heap.size) (hb : ∀ b o, b < R → w'.cell? ⟨b, o, none⟩ = w.cell? ⟨b, o, none⟩) : Rd w' R k' := by
  obtain ⟨⟨s, hc, hcs⟩, hp, hfr, hlt⟩ := h
  refine ⟨⟨s, ?_, h0.trans hcs⟩, h1, hf, Nat.lt_of_lt_of_le hlt hs⟩
  rcases hc with hc | ⟨b, off, len, cap, z, e, g1, g2, g3, g4, g5⟩
  · exact .inl hc
  · exact .inr ⟨b, off, len, cap, z, e, g1, g2, g3, fun j hj => (hb b (off + j) g3).trans (g4 j hj), g5⟩

theorem Rd.next {w : World} {R k : Nat} (h : Rd w R k) (m : Nat) : Rd ((w.setCell ⟨R, 1, none⟩ (.int .i64 ((k : Int) + 1))).drewN m) R (k + 1) := by
  have hp := h.pos
  refine h.of_same (World.cell?_setCell_other w ⟨R, 1, none⟩ ⟨R, 0, none⟩ _ (by simp)) ?_ ((World.frozen?_setCell w ⟨R, 1, none⟩ ⟨R, 1, none⟩ _).trans h.free) (by simp [World.setCell, World.drewN]) (fun b o hb => World.cell?_setCell_other w ⟨R, 1, none⟩ ⟨b, o, none⟩ _ (by first | (simp; done) | (simp; omega)))
  exact (World.cell?_setCell_same w ⟨R, 1, none⟩ _ hp).trans (by simp)

theorem Rd.below {w w' : World} {R k : Nat} (h : Rd w R k) (hb : Below w.heap.size w w') : Rd w' R k :=
  h.of_same (hb.cell (p := ⟨R, 0, none⟩) h.lt) ((hb.cell (p := ⟨R, 1, none⟩) h.lt).trans h.pos) ((hb.frozen (p := ⟨R, 1, none⟩) h.lt).trans h.free) hb.size (fun b o hbR => hb.cell (p := ⟨b, o, none⟩) (Nat.lt_trans hbR h.lt))

end Go.Proofs.YtiinifcepcaonaaDoor

/- Draws: l20Open, odd, l20Group, l20Exp, l20Elem. -/
namespace Go.Proofs.YtiinifcepcaonaaDoor
open Go.RowKit

/-- A code that came in. -/
def CodeIn (w : World) (s : Value) : Prop :=
  (∃ a cap, s = .slice a 0 cap) ∨ ∃ b off len cap, ∃ z : Nat → Int, s = .slice (some ⟨b, off, none⟩) len cap ∧ 0 < len ∧ len ≤ cap ∧ cap ≤ maxLen ∧ b < w.heap.size ∧ (∀ j, j < len → w.cell? ⟨b, off + j, none⟩ = some (.int .u8 (z j))) ∧ ∀ j, 0 ≤ z j ∧ z j ≤ 255

def OpenPost (w : World) (e : Ending) (w' : World) : Prop := e = .returned (.pointer (some ⟨w.heap.size, 0, none⟩)) ∧ Rd w' w.heap.size 0 ∧ Below w.heap.size w w'

theorem rd_new {w : World} {s : Value} {T : TypeId} (h : Code w w.heap.size s) : Rd (w.alloc (.cells #[s, .int .i64 0] T)) w.heap.size 0 := by
  have hc := cell_two_new w s (.int .i64 0) T
  have a0 : (⟨w.heap.size, 0, none⟩ : Addr).add 0 = ⟨w.heap.size, 0, none⟩ := by unfold Addr.add; split <;> simp_all
  have a1 : (⟨w.heap.size, 0, none⟩ : Addr).add 1 = ⟨w.heap.size, 1, none⟩ := by unfold Addr.add; split <;> simp_all
  refine ⟨⟨s, ?_, by rw [← a0]; exact hc 0 s rfl⟩, by rw [← a1]; exact hc 1 _ rfl, World.frozen?_alloc_at _ _ _ _ rfl, by simp⟩
  rcases h with h | ⟨b, off, len, cap, z, e, g1, g2, g3, g4, g5⟩
  · exact .inl h
  · exact .inr ⟨b, off, len, cap, z, e, g1, g2, g3, fun j hj => (World.cell?_alloc_past _ _ _ (by simpa using g3)).trans (g4 j hj), g5⟩

theorem open_any (s : Value) (w : World) (h : CodeIn w s) : Calls Tryd.prog 51 #[s] w (OpenPost w) := by
  rcases h with ⟨a, cap, rfl⟩ | ⟨b, off, len, cap, z, rfl, h1, h2, h3, h4, h5, h6⟩
  · go_enter Tryd.func51, Tryd.ntmps51
    go_wp2
    go_ret
    exact ⟨rfl, rd_new (.inl ⟨_, _, rfl⟩), (Below.refl _ _).alloc (Nat.le_refl _) _⟩
  · have H5 := Lib.hid h5; clear h5
    have H6 := Lib.hid h6; clear h6
    have H3 := h3
    unfold maxLen at h3
    by_cases hl : 2000 < len
    · go_enter Tryd.func51, Tryd.ntmps51
      go_wp2
      go_ret
      exact ⟨rfl, rd_new (.inr ⟨b, off, 2000, cap, z, rfl, by omega, by omega, h4, fun j hj => H5.out j (by omega), H6.out⟩), (Below.refl _ _).alloc (Nat.le_refl _) _⟩
    · go_enter Tryd.func51, Tryd.ntmps51
      go_wp2
      go_ret
      exact ⟨rfl, rd_new (.inr ⟨b, off, len, cap, z, rfl, h1, by omega, h4, H5.out, H6.out⟩), (Below.refl _ _).alloc (Nat.le_refl _) _⟩

def OddPost (R k : Nat) (w : World) (e : Ending) (w' : World) : Prop :=
  ∃ b : Bool, e = .returned (.bool b) ∧ ∃ m, w' = (w.setCell ⟨R, 1, none⟩ (.int .i64 ((k : Int) + 1))).drewN m

theorem odd_any (R k : Nat) (n : Int) (w : World) (h : Rd w R k) (hk : k ≤ 100000) (hn : 1 ≤ n) (hn2 : n ≤ 100000) : Calls Tryd.prog 70 #[.pointer (some ⟨R, 0, none⟩), .int .i64 n] w (OddPost R k w) := by
  have hd : decide (0 < n) = true := by simp; omega
  have H := Lib.hid h; clear h
  go_enter Tryd.func70, Tryd.ntmps70
  go_wp2_with fail
  refine (pick_any _ _ _ _ H.out hk).mono ?_
  rintro e w1 ⟨v, rfl, v0, v1, m, rfl⟩
  have v2 := v1 hn
  go_wp2
  go_ret
  exact ⟨_, rfl, m, rfl⟩

theorem odd_zero (R : Nat) (n : Int) (w : World) (hn : n < 1) : Calls Tryd.prog 70 #[.pointer (some ⟨R, 0, none⟩), .int .i64 n] w fun e w' => e = .returned (.bool false) ∧ w = w' := by
  have hd : decide (0 < n) = false := by simp; omega
  go_enter Tryd.func70, Tryd.ntmps70
  go_wp2
  go_ret
  exact ⟨rfl, rfl⟩

theorem grown_trans {w w1 w2 : World} {R : Nat} (h : w.grownBy w1 (some R)) (k : w1.grownBy w2 (some R)) : w.grownBy w2 (some R) :=
  ⟨k.os.trans h.os, k.tape.trans h.tape, k.output.trans h.output, Nat.le_trans h.size k.size, fun i hi hr => (k.block i (Nat.lt_of_lt_of_le hi h.size) hr).trans (h.block i hi hr)⟩
theorem grown_pick (w : World) (R k m : Nat) : w.grownBy ((w.setCell ⟨R, 1, none⟩ (.int .i64 ((k : Int) + 1))).drewN m) (some R) :=
  ⟨rfl, rfl, rfl, by simp [World.setCell, World.drewN], fun i hi hr => Below.heap_setCell w ⟨R, 1, none⟩ _ i (fun e => hr (by rw [e]))⟩
theorem grown_below {w w' : World} (R : Nat) (h : Below w.heap.size w w') : w.grownBy w' (some R) := ⟨h.os, h.tape, h.output, h.size, fun k hk _ => h.block k hk⟩
theorem grown_refl (w : World) (R : Nat) : w.grownBy w (some R) := ⟨rfl, rfl, rfl, Nat.le_refl _, fun _ _ _ => rfl⟩
theorem below_of_grown {B : Nat} {a w w' : World} {R : Nat} (h : Below B a w) (hg : w.grownBy w' (some R)) (hB : B ≤ w.heap.size) (hR : B ≤ R) : Below B a w' :=
  h.grown hg hB (fun k e => by cases e; exact hR)
theorem Rd.grown {w w' : World} {R k : Nat} (hg : w.grownBy w' (some R)) (h' : Rd w' R k) : w.grownBy w' (some R) ∧ Rd w' R k := ⟨hg, h'⟩

/-- A number was drawn: its bounds, the reader one to three bytes on. -/
def NumPost (R k d : Nat) (lo hi : Int) (w : World) (e : Ending) (w' : World) : Prop :=
  ∃ v : Int, e = .returned (.int .i64 v) ∧ lo ≤ v ∧ v ≤ hi ∧ w.grownBy w' (some R) ∧ ∃ k', k' ≤ k + d ∧ Rd w' R k'

theorem arr_cell {w1 : World} {R m j : Nat} {x u : Value} {cs : Array Value} {T : TypeId} (hne : R ≠ w1.heap.size) (hj : cs[j]? = some u) :
    (((w1.alloc (.cells cs T)).setCell ⟨R, 1, none⟩ x).drewN m).cell? ⟨w1.heap.size, j, none⟩ = some u := by
  refine (World.cell?_setCell_other _ ⟨R, 1, none⟩ ⟨w1.heap.size, j, none⟩ x (by first | (simp; done) | (simp; exact fun h => absurd h hne) | (simp; exact fun h => absurd h.symm hne))).trans ?_
  rw [World.cell?_alloc_at _ _ _ _ rfl]
  exact hj

theorem drawgroup_any (R k : Nat) (n : Int) (w : World) (h : Rd w R k) (hk : k ≤ 90000) (hn : 1 ≤ n) (hn2 : n ≤ 100000) : Calls Tryd.prog 67 #[.pointer (some ⟨R, 0, none⟩), .int .i64 n] w (NumPost R k 2 (-1) 4 w) := by
  have H := Lib.hid h; clear h
  go_enter Tryd.func67, Tryd.ntmps67
  go_wp2_with fail
  refine (odd_any _ _ _ _ H.out (by omega) hn hn2).mono ?_
  rintro e w1 ⟨b, rfl, m, hw1⟩
  have H1 : Hid (Rd w1 R (k + 1)) := Lib.hid (by rw [hw1]; exact H.out.next m)
  have G1 : Hid (w.grownBy w1 (some R)) := Lib.hid (by rw [hw1]; exact grown_pick w R k m)
  clear hw1
  have hlt1 := H1.out.lt
  have hne : R ≠ w1.heap.size := by omega
  cases b
  · go_wp2_with fail
    refine (pick_any R (k + 1) _ _ (H1.out.below ((Below.refl _ _).alloc (Nat.le_refl _) _)) (by omega)).mono ?_
    rintro e w2 ⟨v, rfl, v0, v1, m2, hw2⟩
    have v2 := v1 (by omega)
    clear v1
    have H2 : Hid (Rd w2 R (k + 1 + 1)) := Lib.hid (by rw [hw2]; exact (H1.out.below ((Below.refl _ _).alloc (Nat.le_refl _) _)).next m2)
    have G2 : Hid (w.grownBy w2 (some R)) := Lib.hid (by rw [hw2]; exact grown_trans (grown_trans G1.out (grown_below R ((Below.refl _ _).alloc (Nat.le_refl _) _))) (grown_pick _ R (k + 1) m2))
    have C2 : Hid (∀ (j : Nat) (u : Value), (#[.int .i64 0, .int .i64 0, .int .i64 1, .int .i64 1, .int .i64 2, .int .i64 2, .int .i64 3] : Array Value)[j]? = some u → w2.cell? ⟨w1.heap.size, j, none⟩ = some u) := Lib.hid (by rw [hw2]; intro j u hj; exact arr_cell hne hj)
    clear hw2
    obtain rfl | rfl | rfl | rfl | rfl | rfl | rfl : v = 0 ∨ v = 1 ∨ v = 2 ∨ v = 3 ∨ v = 4 ∨ v = 5 ∨ v = 6 := by omega
    · have c := C2.out 0 _ rfl
      clear v0 v2
      go_wp2
      go_ret
      exact ⟨_, rfl, by omega, by omega, G2.out, _, by omega, H2.out⟩
    · have c := C2.out 1 _ rfl
      clear v0 v2
      go_wp2
      go_ret
      exact ⟨_, rfl, by omega, by omega, G2.out, _, by omega, H2.out⟩
    · have c := C2.out 2 _ rfl
      clear v0 v2
      go_wp2
      go_ret
      exact ⟨_, rfl, by omega, by omega, G2.out, _, by omega, H2.out⟩
    · have c := C2.out 3 _ rfl
      clear v0 v2
      go_wp2
      go_ret
      exact ⟨_, rfl, by omega, by omega, G2.out, _, by omega, H2.out⟩
    · have c := C2.out 4 _ rfl
      clear v0 v2
      go_wp2
      go_ret
      exact ⟨_, rfl, by omega, by omega, G2.out, _, by omega, H2.out⟩
    · have c := C2.out 5 _ rfl
      clear v0 v2
      go_wp2
      go_ret
      exact ⟨_, rfl, by omega, by omega, G2.out, _, by omega, H2.out⟩
    · have c := C2.out 6 _ rfl
      clear v0 v2
      go_wp2
      go_ret
      exact ⟨_, rfl, by omega, by omega, G2.out, _, by omega, H2.out⟩
  · go_wp2_with fail
    refine (pick_any R (k + 1) _ _ (H1.out.below ((Below.refl _ _).alloc (Nat.le_refl _) _)) (by omega)).mono ?_
    rintro e w2 ⟨v, rfl, v0, v1, m2, hw2⟩
    have v2 := v1 (by omega)
    clear v1
    have H2 : Hid (Rd w2 R (k + 1 + 1)) := Lib.hid (by rw [hw2]; exact (H1.out.below ((Below.refl _ _).alloc (Nat.le_refl _) _)).next m2)
    have G2 : Hid (w.grownBy w2 (some R)) := Lib.hid (by rw [hw2]; exact grown_trans (grown_trans G1.out (grown_below R ((Below.refl _ _).alloc (Nat.le_refl _) _))) (grown_pick _ R (k + 1) m2))
    have C2 : Hid (∀ (j : Nat) (u : Value), (#[.int .i64 (-1), .int .i64 4] : Array Value)[j]? = some u → w2.cell? ⟨w1.heap.size, j, none⟩ = some u) := Lib.hid (by rw [hw2]; intro j u hj; exact arr_cell hne hj)
    clear hw2
    obtain rfl | rfl : v = 0 ∨ v = 1 := by omega
    · have c := C2.out 0 _ rfl
      clear v0 v2
      go_wp2
      go_ret
      exact ⟨_, rfl, by omega, by omega, G2.out, _, by omega, H2.out⟩
    · have c := C2.out 1 _ rfl
      clear v0 v2
      go_wp2
      go_ret
      exact ⟨_, rfl, by omega, by omega, G2.out, _, by omega, H2.out⟩

theorem drawelem_any (R k : Nat) (g n : Int) (w : World) (h : Rd w R k) (hk : k ≤ 90000) (hn : 1 ≤ n) (hn2 : n ≤ 100000) : Calls Tryd.prog 85 #[.pointer (some ⟨R, 0, none⟩), .int .i64 g, .int .i64 n] w (NumPost R k 2 (-3) 47 w) := by
  have H0 := Lib.hid h; clear h
  have G0 : Hid (w.grownBy w (some R)) := Lib.hid (grown_refl w R)
  by_cases hg : 0 ≤ g ∧ g < 4
  · obtain ⟨h0, h4⟩ := hg
    obtain ⟨p1, p2⟩ := prm_bd h0 h4
    obtain ⟨o1, o2⟩ := ord_bd h0 h4
    obtain ⟨b1, b2⟩ := bas_bd h0 h4
    have hp : decide (prm g < 0) = false := by simp; omega
    go_enter Tryd.func85, Tryd.ntmps85
    go_wp2_with fail
    refine (odd_any _ _ _ _ H0.out (by omega) hn hn2).mono ?_
    rintro e w1 ⟨b, rfl, m, hw1⟩
    have H1 : Hid (Rd w1 R (k + 1)) := Lib.hid (by rw [hw1]; exact H0.out.next m)
    have G1 : Hid (w.grownBy w1 (some R)) := Lib.hid (by rw [hw1]; exact grown_trans G0.out (grown_pick w R k m))
    clear hw1
    have hlt1 := H1.out.lt
    have hne : R ≠ w1.heap.size := by omega
    cases b
    · go_wp2_with fail
      refine (sprm_any _ _).mono ?_
      rintro e w1a ⟨rfl, hb1⟩
      go_wp2_with fail
      refine (sbas_any _ _).mono ?_
      rintro e w1b ⟨rfl, hb2⟩
      go_wp2_with fail
      refine (sord_any _ _).mono ?_
      rintro e w1c ⟨rfl, hb3⟩
      have H1c : Hid (Rd w1c R (k + 1)) := Lib.hid (((H1.out.below hb1).below hb2).below hb3)
      have G1c : Hid (w.grownBy w1c (some R)) := Lib.hid (grown_trans (grown_trans (grown_trans G1.out (grown_below R hb1)) (grown_below R hb2)) (grown_below R hb3))
      clear hb1 hb2 hb3
      go_wp2_with fail
      refine (pick_any R (k + 1) _ _ H1c.out (by omega)).mono ?_
      rintro e w2 ⟨v, rfl, v0, v1, m2, hw2⟩
      have v2 := v1 (by omega)
      clear v1
      have H2 : Hid (Rd w2 R (k + 1 + 1)) := Lib.hid (by rw [hw2]; exact H1c.out.next m2)
      have G2 : Hid (w.grownBy w2 (some R)) := Lib.hid (by rw [hw2]; exact grown_trans G1c.out (grown_pick _ R (k + 1) m2))
      clear hw2
      go_wp2_with fail
      refine (spow_any _ _ _ _ h0 h4 (by omega) (by omega) (by omega) (by omega)).mono ?_
      rintro e w3 ⟨rfl, hb3⟩
      have H3 : Hid (Rd w3 R (k + 1 + 1)) := Lib.hid (H2.out.below hb3)
      have G3 : Hid (w.grownBy w3 (some R)) := Lib.hid (grown_trans G2.out (grown_below R hb3))
      have PB := pw_bound (prm g) (bas g) (by omega) (v % ord g).toNat
      clear hb3
      go_wp2
      go_ret
      exact ⟨_, rfl, by omega, by omega, G3.out, _, by omega, H3.out⟩
    · go_wp2_with fail
      refine (sprm_any _ _).mono ?_
      rintro e w1a ⟨rfl, hb1⟩
      have H1a : Hid (Rd w1a R (k + 1)) := Lib.hid (H1.out.below hb1)
      have G1a : Hid (w.grownBy w1a (some R)) := Lib.hid (grown_trans G1.out (grown_below R hb1))
      clear hb1 hne hlt1
      have hlt1 := H1a.out.lt
      have hne : R ≠ w1a.heap.size := by omega
      go_wp2_with fail
      refine (pick_any R (k + 1) _ _ (H1a.out.below ((Below.refl _ _).alloc (Nat.le_refl _) _)) (by omega)).mono ?_
      rintro e w2 ⟨v, rfl, v0, v1, m2, hw2⟩
      have v2 := v1 (by omega)
      clear v1
      have H2 : Hid (Rd w2 R (k + 1 + 1)) := Lib.hid (by rw [hw2]; exact (H1a.out.below ((Below.refl _ _).alloc (Nat.le_refl _) _)).next m2)
      have G2 : Hid (w.grownBy w2 (some R)) := Lib.hid (by rw [hw2]; exact grown_trans (grown_trans G1a.out (grown_below R ((Below.refl _ _).alloc (Nat.le_refl _) _))) (grown_pick _ R (k + 1) m2))
      have C2 : Hid (∀ (j : Nat) (u : Value), (#[.int .i64 0, .int .i64 (prm g), .int .i64 5, .int .i64 (-3)] : Array Value)[j]? = some u → w2.cell? ⟨w1a.heap.size, j, none⟩ = some u) := Lib.hid (by rw [hw2]; intro j u hj; exact arr_cell hne hj)
      clear hw2
      obtain rfl | rfl | rfl | rfl : v = 0 ∨ v = 1 ∨ v = 2 ∨ v = 3 := by omega
      · have c := C2.out 0 _ rfl
        clear v0 v2
        go_wp2
        go_ret
        exact ⟨_, rfl, by omega, by omega, G2.out, _, by omega, H2.out⟩
      · have c := C2.out 1 _ rfl
        clear v0 v2
        go_wp2
        go_ret
        exact ⟨_, rfl, by omega, by omega, G2.out, _, by omega, H2.out⟩
      · have c := C2.out 2 _ rfl
        clear v0 v2
        go_wp2
        go_ret
        exact ⟨_, rfl, by omega, by omega, G2.out, _, by omega, H2.out⟩
      · have c := C2.out 3 _ rfl
        clear v0 v2
        go_wp2
        go_ret
        exact ⟨_, rfl, by omega, by omega, G2.out, _, by omega, H2.out⟩
  · have HX := Lib.hid (prm_none hg)
    clear hg
    go_enter Tryd.func85, Tryd.ntmps85
    go_wp2_with fail
    refine (odd_any _ _ _ _ H0.out (by omega) hn hn2).mono ?_
    rintro e w1 ⟨b, rfl, m, hw1⟩
    have H1 : Hid (Rd w1 R (k + 1)) := Lib.hid (by rw [hw1]; exact H0.out.next m)
    have G1 : Hid (w.grownBy w1 (some R)) := Lib.hid (by rw [hw1]; exact grown_trans G0.out (grown_pick w R k m))
    clear hw1
    have hlt1 := H1.out.lt
    have hne : R ≠ w1.heap.size := by omega
    cases b
    · go_wp2_with fail
      refine (sprm_any _ _).mono ?_
      rintro e w1x ⟨rfl, hb0⟩
      rw [HX.out]
      have H1x : Hid (Rd w1x R (k + 1)) := Lib.hid (H1.out.below hb0)
      have G1x : Hid (w.grownBy w1x (some R)) := Lib.hid (grown_trans G1.out (grown_below R hb0))
      clear hb0
      go_wp2_with fail
      refine (sprm_any _ _).mono ?_
      rintro e w1a ⟨rfl, hb1⟩
      rw [HX.out]
      have H1a : Hid (Rd w1a R (k + 1)) := Lib.hid (H1x.out.below hb1)
      have G1a : Hid (w.grownBy w1a (some R)) := Lib.hid (grown_trans G1x.out (grown_below R hb1))
      clear hb1 hne hlt1
      have hlt1 := H1a.out.lt
      have hne : R ≠ w1a.heap.size := by omega
      go_wp2_with fail
      refine (pick_any R (k + 1) _ _ (H1a.out.below ((Below.refl _ _).alloc (Nat.le_refl _) _)) (by omega)).mono ?_
      rintro e w2 ⟨v, rfl, v0, v1, m2, hw2⟩
      have v2 := v1 (by omega)
      clear v1
      have H2 : Hid (Rd w2 R (k + 1 + 1)) := Lib.hid (by rw [hw2]; exact (H1a.out.below ((Below.refl _ _).alloc (Nat.le_refl _) _)).next m2)
      have G2 : Hid (w.grownBy w2 (some R)) := Lib.hid (by rw [hw2]; exact grown_trans (grown_trans G1a.out (grown_below R ((Below.refl _ _).alloc (Nat.le_refl _) _))) (grown_pick _ R (k + 1) m2))
      have C2 : Hid (∀ (j : Nat) (u : Value), (#[.int .i64 0, .int .i64 (-1), .int .i64 5, .int .i64 (-3)] : Array Value)[j]? = some u → w2.cell? ⟨w1a.heap.size, j, none⟩ = some u) := Lib.hid (by rw [hw2]; intro j u hj; exact arr_cell hne hj)
      clear hw2
      obtain rfl | rfl | rfl | rfl : v = 0 ∨ v = 1 ∨ v = 2 ∨ v = 3 := by omega
      · have c := C2.out 0 _ rfl
        clear v0 v2
        go_wp2
        go_ret
        exact ⟨_, rfl, by omega, by omega, G2.out, _, by omega, H2.out⟩
      · have c := C2.out 1 _ rfl
        clear v0 v2
        go_wp2
        go_ret
        exact ⟨_, rfl, by omega, by omega, G2.out, _, by omega, H2.out⟩
      · have c := C2.out 2 _ rfl
        clear v0 v2
        go_wp2
        go_ret
        exact ⟨_, rfl, by omega, by omega, G2.out, _, by omega, H2.out⟩
      · have c := C2.out 3 _ rfl
        clear v0 v2
        go_wp2
        go_ret
        exact ⟨_, rfl, by omega, by omega, G2.out, _, by omega, H2.out⟩
    · go_wp2_with fail
      refine (sprm_any _ _).mono ?_
      rintro e w1a ⟨rfl, hb1⟩
      rw [HX.out]
      have H1a : Hid (Rd w1a R (k + 1)) := Lib.hid (H1.out.below hb1)
      have G1a : Hid (w.grownBy w1a (some R)) := Lib.hid (grown_trans G1.out (grown_below R hb1))
      clear hb1 hne hlt1
      have hlt1 := H1a.out.lt
      have hne : R ≠ w1a.heap.size := by omega
      go_wp2_with fail
      refine (pick_any R (k + 1) _ _ (H1a.out.below ((Below.refl _ _).alloc (Nat.le_refl _) _)) (by omega)).mono ?_
      rintro e w2 ⟨v, rfl, v0, v1, m2, hw2⟩
      have v2 := v1 (by omega)
      clear v1
      have H2 : Hid (Rd w2 R (k + 1 + 1)) := Lib.hid (by rw [hw2]; exact (H1a.out.below ((Below.refl _ _).alloc (Nat.le_refl _) _)).next m2)
      have G2 : Hid (w.grownBy w2 (some R)) := Lib.hid (by rw [hw2]; exact grown_trans (grown_trans G1a.out (grown_below R ((Below.refl _ _).alloc (Nat.le_refl _) _))) (grown_pick _ R (k + 1) m2))
      have C2 : Hid (∀ (j : Nat) (u : Value), (#[.int .i64 0, .int .i64 (-1), .int .i64 5, .int .i64 (-3)] : Array Value)[j]? = some u → w2.cell? ⟨w1a.heap.size, j, none⟩ = some u) := Lib.hid (by rw [hw2]; intro j u hj; exact arr_cell hne hj)
      clear hw2
      obtain rfl | rfl | rfl | rfl : v = 0 ∨ v = 1 ∨ v = 2 ∨ v = 3 := by omega
      · have c := C2.out 0 _ rfl
        clear v0 v2
        go_wp2
        go_ret
        exact ⟨_, rfl, by omega, by omega, G2.out, _, by omega, H2.out⟩
      · have c := C2.out 1 _ rfl
        clear v0 v2
        go_wp2
        go_ret
        exact ⟨_, rfl, by omega, by omega, G2.out, _, by omega, H2.out⟩
      · have c := C2.out 2 _ rfl
        clear v0 v2
        go_wp2
        go_ret
        exact ⟨_, rfl, by omega, by omega, G2.out, _, by omega, H2.out⟩
      · have c := C2.out 3 _ rfl
        clear v0 v2
        go_wp2
        go_ret
        exact ⟨_, rfl, by omega, by omega, G2.out, _, by omega, H2.out⟩

end Go.Proofs.YtiinifcepcaonaaDoor

/- The Draw functions of chapter 1: which numbers a code gives, whatever it is: some in bounds; nothing that was there is written. -/
namespace Go.Proofs.YtiinifcepcaonaaDoor
open Go.RowKit

def Draw1Post (lo hi : Int) (w : World) (e : Ending) (w' : World) : Prop := ∃ g : Int, e = .returned (.int .i64 g) ∧ lo ≤ g ∧ g ≤ hi ∧ Below w.heap.size w w'
def Draw2Post (lo hi : Int) (w : World) (e : Ending) (w' : World) : Prop :=
  ∃ g a : Int, e = .returned (.tuple #[.int .i64 g, .int .i64 a]) ∧ (lo ≤ g ∧ g ≤ hi) ∧ (-10000 ≤ a ∧ a ≤ 10000) ∧ Below w.heap.size w w'
def Draw3Post (lo hi : Int) (w : World) (e : Ending) (w' : World) : Prop :=
  ∃ g a b : Int, e = .returned (.tuple #[.int .i64 g, .int .i64 a, .int .i64 b]) ∧ (lo ≤ g ∧ g ≤ hi) ∧ (-10000 ≤ a ∧ a ≤ 10000) ∧ (-10100 ≤ b ∧ b ≤ 10100) ∧ Below w.heap.size w w'

end Go.Proofs.YtiinifcepcaonaaDoor
