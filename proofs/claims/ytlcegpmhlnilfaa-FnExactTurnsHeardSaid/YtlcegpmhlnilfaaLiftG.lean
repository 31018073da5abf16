/- Graphs, turns, lists of numbers and numbers that came in as arguments, and that they fit in an int (bare rows). -/
import Derived.Test.YtlcegpmhlnilfaaLiftB
import Derived.Test.YtlcegpmhlnilfaaBSp7
import Derived.Lib.SmallJoins
namespace Go.Proofs.Ytlcegpmhlnilfaa
open Go.ChangeShapes Go.WideShapes Go.ChangeAt Go.RowKit

theorem intIn_wf {n : Int} (h : (Lit.int .i64 n).wf = true) : intIn n := by
  unfold Lit.wf at h
  simp only [Bool.and_eq_true, decide_eq_true_eq] at h
  have h1 : IntKind.min .i64 ≤ n := h.1
  have h2 : n ≤ IntKind.max .i64 := h.2
  have e1 : IntKind.min .i64 = -9223372036854775808 := by kernel_rfl
  have e2 : IntKind.max .i64 = 9223372036854775807 := by kernel_rfl
  rw [e1] at h1
  rw [e2] at h2
  exact ⟨h1, h2⟩
theorem intsI_of_trod {H : Type} {enc : TypeId × Value → H} {W : World} {fuel : Nat} {c : Value} {x : DataW H × List MemPlace}
    (h : DataW.trod enc Try.prog W 0 (fun _ => true) true fuel 22 [c] = some x) : ∃ a cap xs, c = .slice a xs.length cap ∧ ArgI W a xs ∧ xs.length ≤ maxLen ∧ ∀ j, j < xs.length → intIn (nth xs j) := by
  rcases open_ints Try.underlying22 Try.underlying3 cInt h with ⟨hcs, _⟩ | ⟨ad, l, cap, zs, hcs, _, hl, hm, hz, _, hcell, hwf⟩
  · simp at hcs
    exact ⟨none, 0, [], by rw [hcs]; rfl, ⟨fun j hj => by simp at hj⟩, by simp, fun j hj => by simp at hj⟩
  · simp at hcs
    simp only [if_true] at hz
    obtain ⟨t1, t2⟩ := take_nth (zs := zs) (n := l) (by omega)
    refine ⟨some ad, cap, zs.take l, by rw [hcs, t1], ⟨fun j hj => ?_⟩, by rw [t1]; omega, fun j hj => ?_⟩
    · rw [t1] at hj
      exact ⟨ad, rfl, by rw [t2 j hj]; exact hcell j (by omega)⟩
    · rw [t1] at hj
      rw [t2 j hj]
      refine intIn_wf (hwf _ ?_)
      rw [List.getD_eq_getElem?_getD, List.getElem?_eq_getElem (by omega)]
      exact List.getElem_mem _
set_option maxRecDepth 100000 in
theorem lawGraphFields : Try.prog.underlying 27 = some (.struct (Try.prog.fieldsOf 27)) := by kernel_rfl
set_option maxRecDepth 100000 in
theorem lawGraphSize : Try.prog.cellsOf 27 = 2 := by kernel_rfl
theorem graph_of_trod {H : Type} {enc : TypeId × Value → H} {W : World} {fuel : Nat} {c0 c1 : Value} {x : DataW H × List MemPlace}
    (h : DataW.trod enc Try.prog W 0 (fun _ => true) true fuel 27 [c0, c1] = some x) : ∃ p a c xs, c0 = .int .i64 p ∧ c1 = .slice a xs.length c ∧ ArgI W a xs ∧ xs.length ≤ maxLen ∧ intIn p ∧ ∀ j, j < xs.length → intIn (nth xs j) := by
  obtain ⟨y0, y1, n, _, _, h0, h1⟩ := trod_struct2 Try.underlying27 h
  simp only [cInt, cSlice] at h0 h1
  obtain ⟨k0, e0, _, hw⟩ := DataW.trod_int Try.underlying3 h0
  obtain ⟨a, c, xs, e1, f1, f2, f3⟩ := intsI_of_trod (show DataW.trod enc Try.prog W 0 (fun _ => true) true n 22 [c1] = some y1 from h1)
  simp at e0
  exact ⟨k0, a, c, xs, e0, e1, f1, f2, intIn_wf hw, f3⟩
set_option maxRecDepth 100000 in
theorem open_graph {H : Type} {enc : TypeId × Value → H} {W : World} {r : Reach} {base : Nat} {v : Value} {d : DataW H} {p : List MemPlace} (hok : Value.okWide Try.prog W r base 27 v)
    (h : DataW.Trod enc Try.prog W 0 (fun _ => true) true 27 v d p) :
    ∃ q a c xs, v = .agg #[.int .i64 q, .slice a xs.length c] ∧ ArgI W a xs ∧ xs.length ≤ maxLen ∧ intIn q ∧ ∀ j, j < xs.length → intIn (nth xs j) := by
  unfold Value.okWide at hok
  rw [lawGraphFields] at hok
  obtain ⟨cs, rfl, hsz, _⟩ := hok
  obtain ⟨fuel, hf⟩ := h
  have hf' : DataW.trod enc Try.prog W 0 (fun _ => true) true fuel 27 cs.toList = some (d, p) := hf
  obtain ⟨_, _, _, _, hl, _⟩ := trod_struct2 Try.underlying27 hf'
  rw [lawGraphSize] at hl
  obtain ⟨l⟩ := cs
  match l, hl with
  | [c0, c1], _ =>
    obtain ⟨q, a, c, xs, e0, e1, f1, f2, f3, f4⟩ := graph_of_trod hf'
    exact ⟨q, a, c, xs, by rw [e0, e1], f1, f2, f3, f4⟩
end Go.Proofs.Ytlcegpmhlnilfaa
