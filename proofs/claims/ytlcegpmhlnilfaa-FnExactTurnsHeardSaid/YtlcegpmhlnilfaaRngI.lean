/- impl.ordersOf: the closure that exchanges two points. -/
import Derived.Test.YtlcegpmhlnilfaaRngP
import Derived.Test.YtlcegpmhlnilfaaPureJ
import Derived.Test.YtlcegpmhlnilfaaBSol
import Derived.Deep.Cut
import Derived.BigQuiet
namespace Go.Proofs.Ytlcegpmhlnilfaa
open Go.RowKit

theorem grown_tr {w w1 w2 : World} {r : Option Nat} (h : w.grownBy w1 r) (k : w1.grownBy w2 r) : w.grownBy w2 r := ⟨k.os.trans h.os, k.tape.trans h.tape, k.output.trans h.output, Nat.le_trans h.size k.size, fun q a b => (k.block q (Nat.lt_of_lt_of_le a h.size) b).trans (h.block q a b)⟩
set_option maxRecDepth 20000 in
set_option maxHeartbeats 3200000 in
theorem iexch_any (B3 g c m B : Nat) (o : List Int) (i j : Nat) (w : World) (hb : w.cell? ⟨B3, 0, none⟩ = some (.slice (some ⟨g, 0, none⟩) m c)) (ho : Own w B (.slice (some ⟨g, 0, none⟩) m c) o) (hne : B3 ≠ g) (hm : o.length = m) (hi : i < m) (hj : j < m) :
    Calls Try.prog 71 #[.int .i64 i, .int .i64 j, .pointer (some ⟨B3, 0, none⟩)] w fun e w' => (∃ v, e = .returned v) ∧ Own w' B (.slice (some ⟨g, 0, none⟩) m c) (exch o i j) ∧ w.grownBy w' (some g) := by
  obtain ⟨⟨f1, c1⟩, s1, s2⟩ := Own.set (k := i) ho hm hi (nth o j)
  obtain ⟨⟨f2, c2⟩, r1, r2⟩ := Own.set (k := j) s1 (by rw [List.length_set]; exact hm) hj (nth o i)
  obtain ⟨⟨f3, c3⟩, _, _⟩ := Own.set (k := j) ho hm hj 0
  have hb2 : (w.setCell ⟨g, i, none⟩ (.int .i64 (nth o j))).cell? ⟨B3, 0, none⟩ = some (.slice (some ⟨g, 0, none⟩) m c) := by
    have hh : (w.setCell ⟨g, i, none⟩ (.int .i64 (nth o j))).heap[B3]? = w.heap[B3]? := Below.heap_setCell _ _ _ _ (by show B3 ≠ g; exact hne)
    simp only [World.cell?, hh] at hb ⊢
    exact hb
  have hij : (i : Int) < (m : Int) := by omega
  have hjj : (j : Int) < (m : Int) := by omega
  have R1 := Lib.hid r1
  have G1 := Lib.hid (grown_tr s2 r2)
  clear s1 s2 r1 r2 ho hm hi hj
  go_enter Try.func71, Try.ntmps71
  go_region
  go_end0

  exact ⟨⟨_, rfl⟩, R1.out, ⟨G1.out.os, G1.out.tape, G1.out.output, G1.out.size, G1.out.block⟩⟩
end Go.Proofs.Ytlcegpmhlnilfaa
