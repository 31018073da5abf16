/- Turns that came in as arguments (bare rows). -/
import Derived.Test.YtipndddmjgjgpaaLiftG
namespace Go.Proofs.Ytipndddmjgjgpaa
open Go.ChangeShapes Go.WideShapes Go.ChangeAt Go.RowKit

set_option maxRecDepth 100000 in
theorem lawTurnFields : Try.prog.underlying 46 = some (.struct (Try.prog.fieldsOf 46)) := by kernel_rfl
set_option maxRecDepth 100000 in
theorem lawTurnSize : Try.prog.cellsOf 46 = 4 := by kernel_rfl
set_option maxRecDepth 100000 in
theorem open_turn {H : Type} {enc : TypeId × Value → H} {W : World} {r : Reach} {base : Nat} {v : Value} {d : DataW H} {p : List MemPlace} (hok : Value.okWide Try.prog W r base 46 v)
    (h : DataW.Trod enc Try.prog W 0 (fun _ => true) true 46 v d p) :
    ∃ q a c xs n b e ys, v = .agg #[.int .i64 q, .slice a xs.length c, .int .i64 n, .slice b ys.length e] ∧ ArgI W a xs ∧ xs.length ≤ maxLen ∧ ArgI W b ys ∧ ys.length ≤ maxLen := by
  unfold Value.okWide at hok
  rw [lawTurnFields] at hok
  obtain ⟨cs, rfl, hsz, _⟩ := hok
  obtain ⟨fuel, hf⟩ := h
  have hf' : DataW.trod enc Try.prog W 0 (fun _ => true) true fuel 46 cs.toList = some (d, p) := hf
  obtain ⟨y0, y1, y2, n, _, hl, h0, h1, h2⟩ := Go.Deep.trod_struct3 Try.underlying46 hf'
  rw [lawTurnSize] at hl
  obtain ⟨l⟩ := cs
  match l, hl with
  | [c0, c1, c2, c3], _ =>
    simp only [cInt, cSlice, lawGraphSize] at h0 h1 h2
    obtain ⟨q, a, c, xs, e0, e1, f1, f2, f3, f4⟩ := graph_of_trod (show DataW.trod enc Try.prog W 0 (fun _ => true) true n 24 [c0, c1] = some y0 from h0)
    obtain ⟨k, e2, _, _⟩ := DataW.trod_int Try.underlying3 (show DataW.trod enc Try.prog W 0 (fun _ => true) true n 3 [c2] = some y1 from h1)
    obtain ⟨b, e, ys, e3, g1, g2⟩ := ints_of_trod (show DataW.trod enc Try.prog W 0 (fun _ => true) true n 22 [c3] = some y2 from h2)
    simp at e2
    exact ⟨q, a, c, xs, k, b, e, ys, by rw [e0, e1, e2, e3], f1, f2, g1, g2⟩
end Go.Proofs.Ytipndddmjgjgpaa
