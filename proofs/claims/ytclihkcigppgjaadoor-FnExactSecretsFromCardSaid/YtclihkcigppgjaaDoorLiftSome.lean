/- Talks on some of many that came in as arguments. -/
import Derived.Test.YtclihkcigppgjaaDoorLiftClaim
import Derived.Lib.SmallJoins
namespace Go.Proofs.YtclihkcigppgjaaDoor
open Go.ChangeShapes Go.WideShapes Go.ChangeAt Go.RowKit

set_option maxRecDepth 100000 in
theorem lawSomeFields : Tryd.prog.underlying 46 = some (.struct (Tryd.prog.fieldsOf 46)) := by kernel_rfl
set_option maxRecDepth 100000 in
theorem lawSomeSize : Tryd.prog.cellsOf 46 = 4 := by kernel_rfl
set_option maxRecDepth 100000 in
theorem open_someL {H : Type} {enc : TypeId × Value → H} {W : World} {r : Reach} {base : Nat} {v : Value} {d : DataW H} {p : List MemPlace} (hok : Value.okWide Tryd.prog W r base 46 v)
    (h : DataW.Trod enc Tryd.prog W 0 (fun _ => true) true 46 v d p) :
    ∃ a c ss q b e xs u f ts, v = .agg #[.slice a ss.length c, .int .i64 q, .slice b xs.length e, .slice u ts.length f] ∧ ArgI W a ss ∧ ss.length ≤ maxLen ∧ ArgI W b xs ∧ xs.length ≤ maxLen ∧ ArgI W u ts ∧ ts.length ≤ maxLen := by
  unfold Value.okWide at hok
  rw [lawSomeFields] at hok
  obtain ⟨cs, rfl, hsz, _⟩ := hok
  obtain ⟨fuel, hf⟩ := h
  have hf' : DataW.trod enc Tryd.prog W 0 (fun _ => true) true fuel 46 cs.toList = some (d, p) := hf
  obtain ⟨y0, y1, y2, y3, n, _, hl, h0, h1, h2, h3⟩ := Go.Joins.trod_struct4 Tryd.underlying46 hf'
  rw [lawSomeSize] at hl
  obtain ⟨l⟩ := cs
  match l, hl with
  | [c0, c1, c2, c3], _ =>
    simp only [cInt, cSlice] at h0 h1 h2 h3
    obtain ⟨k0, e0, _, _⟩ := DataW.trod_int Tryd.underlying3 h1
    obtain ⟨a, c, ss, e1, f1, f2⟩ := ints_of_trod (show DataW.trod enc Tryd.prog W 0 (fun _ => true) true n 24 [c0] = some y0 from h0)
    obtain ⟨b, e, xs, e2, f4, f5⟩ := ints_of_trod (show DataW.trod enc Tryd.prog W 0 (fun _ => true) true n 24 [c2] = some y2 from h2)
    obtain ⟨u, f, ts, e3, f6, f7⟩ := ints_of_trod (show DataW.trod enc Tryd.prog W 0 (fun _ => true) true n 24 [c3] = some y3 from h3)
    simp at e0
    exact ⟨a, c, ss, k0, b, e, xs, u, f, ts, by rw [e0, e1, e2, e3], f1, f2, f4, f5, f6, f7⟩
end Go.Proofs.YtclihkcigppgjaaDoor
