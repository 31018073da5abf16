/- A talk that came in as an argument: three numbers. -/
import Derived.Test.YtopjlbihhbjhnaaDoorLift
namespace Go.Proofs.YtopjlbihhbjhnaaDoor
open Go.ChangeShapes Go.WideShapes Go.ChangeAt Go.RowKit

set_option maxRecDepth 100000 in
theorem lawTalkFields : Tryd.prog.underlying 23 = some (.struct (Tryd.prog.fieldsOf 23)) := by kernel_rfl
set_option maxRecDepth 100000 in
theorem lawTalkCells : Tryd.prog.cellTypes Tryd.prog.depth 23 = some [3, 3, 3] := by kernel_rfl
set_option maxRecDepth 100000 in
theorem lawTalkSize : Tryd.prog.cellsOf 23 = 3 := by kernel_rfl
set_option maxRecDepth 100000 in
theorem cell_int {w : World} {r : Reach} {base : Nat} {v : Value} (h : Cell.okWide Tryd.prog w r base 3 v) : ∃ n, v = .int .i64 n := by
  simp only [Cell.okWide, Tryd.underlying3] at h
  cases v <;> simp_all [Cell.ok, Tryd.underlying3]
set_option maxRecDepth 100000 in
theorem open_talk {w : World} {r : Reach} {base : Nat} {v : Value} (h : Value.okWide Tryd.prog w r base 23 v) : ∃ a b c, v = .agg #[.int .i64 a, .int .i64 b, .int .i64 c] := by
  unfold Value.okWide at h
  rw [lawTalkFields] at h
  obtain ⟨cs, rfl, hsz, ts, hts, _, hall⟩ := h
  rw [lawTalkCells] at hts
  obtain rfl := Option.some.inj hts
  rw [lawTalkSize] at hsz
  have g : ∀ i (hi : i < 3), ∃ n, cs[i]'(by omega) = Value.int .i64 n := fun i hi => by
    obtain ⟨u, hu, hc⟩ := hall i (cs[i]'(by omega)) (Array.getElem?_eq_getElem (by omega))
    have : u = 3 := by
      have e : i % [3, 3, 3].length = i := Nat.mod_eq_of_lt hi
      rw [e] at hu
      simpa using List.mem_of_getElem? hu
    subst this
    exact cell_int hc
  obtain ⟨a, ha⟩ := g 0 (by omega)
  obtain ⟨b, hb⟩ := g 1 (by omega)
  obtain ⟨c, hc⟩ := g 2 (by omega)
  refine ⟨a, b, c, ?_⟩
  congr 1
  apply Array.ext
  · simpa using hsz
  · intro i h1 h2
    have h3 : i < 3 := by omega
    match i, h3 with
    | 0, _ => simpa using ha
    | 1, _ => simpa using hb
    | 2, _ => simpa using hc

end Go.Proofs.YtopjlbihhbjhnaaDoor
