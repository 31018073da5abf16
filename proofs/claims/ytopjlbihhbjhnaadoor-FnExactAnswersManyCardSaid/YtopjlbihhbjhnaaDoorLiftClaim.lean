/- Relations, talks on relations and lists of numbers that came in as arguments. -/
import Derived.Test.YtopjlbihhbjhnaaDoorLift
import Derived.Test.YtopjlbihhbjhnaaDoorBox
import Derived.Deep.Matrix
namespace Go.Proofs.YtopjlbihhbjhnaaDoor
open Go.ChangeShapes Go.WideShapes Go.ChangeAt Go.RowKit

set_option maxRecDepth 100000 in
theorem cSlice : Tryd.prog.cellsOf 30 = 1 := by kernel_rfl
set_option maxRecDepth 100000 in
theorem cSliceS : Tryd.prog.cellsOf 29 = 1 := by kernel_rfl

theorem take_nth {zs : List Int} {n : Nat} (hl : n ≤ zs.length) : (zs.take n).length = n ∧ ∀ j, j < n → nth (zs.take n) j = zs.getD j 0 := by
  refine ⟨by simp; omega, fun j hj => ?_⟩
  unfold nth
  rw [List.getD_eq_getElem?_getD, List.getD_eq_getElem?_getD, List.getElem?_take, if_pos hj]

theorem ints_of_trod {H : Type} {enc : TypeId × Value → H} {W : World} {fuel : Nat} {c : Value} {x : DataW H × List MemPlace}
    (h : DataW.trod enc Tryd.prog W 0 (fun _ => true) true fuel 30 [c] = some x) : ∃ a cap xs, c = .slice a xs.length cap ∧ ArgI W a xs ∧ xs.length ≤ maxLen := by
  rcases open_ints Tryd.underlying30 Tryd.underlying3 cInt h with ⟨hcs, _⟩ | ⟨ad, l, cap, zs, hcs, _, hl, hm, hz, _, hcell, _⟩
  · simp at hcs
    exact ⟨none, 0, [], by rw [hcs]; rfl, ⟨fun j hj => by simp at hj⟩, by simp⟩
  · simp at hcs
    simp only [if_true] at hz
    obtain ⟨t1, t2⟩ := take_nth (zs := zs) (n := l) (by omega)
    refine ⟨some ad, cap, zs.take l, by rw [hcs, t1], ⟨fun j hj => ?_⟩, by rw [t1]; omega⟩
    rw [t1] at hj
    exact ⟨ad, rfl, by rw [t2 j hj]; exact hcell j (by omega)⟩

theorem rows_of_trod {H : Type} {enc : TypeId × Value → H} {W : World} {fuel : Nat} {c : Value} {x : DataW H × List MemPlace}
    (h : DataW.trod enc Tryd.prog W 0 (fun _ => true) true fuel 29 [c] = some x) : ∃ a cap xss, c = .slice a xss.length cap ∧ ArgSS W a xss ∧ xss.length ≤ maxLen ∧ ∀ j, j < xss.length → (row xss j).length ≤ maxLen := by
  rcases Go.Deep.open_int_rows Tryd.underlying29 Tryd.underlying30 Tryd.underlying3 cSlice cInt h with ⟨hcs, _⟩ | ⟨ad, l, cap, A, L, C, Z, hcs, _, hl, hm, _, hall⟩
  · simp at hcs
    exact ⟨none, 0, [], by rw [hcs]; rfl, ⟨fun j hj => by simp at hj⟩, by simp, fun j hj => by simp at hj⟩
  · simp at hcs
    have hlen : ((List.range l).map fun r => (Z r).take (L r)).length = l := by simp
    have hrow : ∀ j, j < l → row ((List.range l).map fun r => (Z r).take (L r)) j = (Z j).take (L j) := fun j hj => by
      rw [row_get (by rw [hlen]; exact hj)]; simp
    refine ⟨some ad, cap, (List.range l).map fun r => (Z r).take (L r), by rw [hcs, hlen], ⟨fun j hj => ?_⟩, by rw [hlen]; omega, fun j hj => ?_⟩
    · rw [hlen] at hj
      obtain ⟨e1, e2, e3, e4, _, e6, e7⟩ := hall j (by omega)
      obtain ⟨t1, t2⟩ := take_nth (zs := Z j) (n := L j) (by omega)
      rw [hrow j hj, t1]
      refine ⟨ad, A j, C j, rfl, e1, ⟨fun i hi => ?_⟩⟩
      rw [t1] at hi
      cases hA : A j with
      | none => have := e6 hA; omega
      | some a' => exact ⟨a', rfl, by rw [t2 i hi]; exact (e7 a' hA).2 i (by omega)⟩
    · rw [hlen] at hj
      obtain ⟨e1, e2, e3, e4, _⟩ := hall j (by omega)
      obtain ⟨t1, _⟩ := take_nth (zs := Z j) (n := L j) (by omega)
      rw [hrow j hj, t1]; omega

theorem argI_of_trod {H : Type} {enc : TypeId × Value → H} {W : World} {v : Value} {d : DataW H} {p : List MemPlace} {a : Option Addr} {len cap : Nat}
    (hv : v = .slice a len cap) (h : DataW.Trod enc Tryd.prog W 0 (fun _ => true) true 30 v d p) : ∃ a cap xs, v = .slice a xs.length cap ∧ ArgI W a xs ∧ xs.length ≤ maxLen := by
  subst hv
  obtain ⟨fuel, hf⟩ := h
  exact ints_of_trod hf

set_option maxRecDepth 100000 in
theorem lawClaimFields : Tryd.prog.underlying 32 = some (.struct (Tryd.prog.fieldsOf 32)) := by kernel_rfl
set_option maxRecDepth 100000 in
theorem lawClaimSize : Tryd.prog.cellsOf 32 = 3 := by kernel_rfl
set_option maxRecDepth 100000 in
theorem open_claim {H : Type} {enc : TypeId × Value → H} {W : World} {r : Reach} {base : Nat} {v : Value} {d : DataW H} {p : List MemPlace} (hok : Value.okWide Tryd.prog W r base 32 v)
    (h : DataW.Trod enc Tryd.prog W 0 (fun _ => true) true 32 v d p) :
    ∃ g a c rows b e makes, v = .agg #[.int .i64 g, .slice a rows.length c, .slice b makes.length e] ∧ ArgSS W a rows ∧ ArgI W b makes ∧ rows.length ≤ maxLen ∧ (∀ j, j < rows.length → (row rows j).length ≤ maxLen) ∧ makes.length ≤ maxLen := by
  unfold Value.okWide at hok
  rw [lawClaimFields] at hok
  obtain ⟨cs, rfl, hsz, _⟩ := hok
  obtain ⟨fuel, hf⟩ := h
  have hf' : DataW.trod enc Tryd.prog W 0 (fun _ => true) true fuel 32 cs.toList = some (d, p) := hf
  obtain ⟨y0, y1, y2, n, _, hl, h0, h1, h2⟩ := Go.Deep.trod_struct3 Tryd.underlying32 hf'
  rw [lawClaimSize] at hl
  obtain ⟨l⟩ := cs
  match l, hl with
  | [c0, c1, c2], _ =>
    simp only [cInt, cSlice, cSliceS] at h0 h1 h2
    obtain ⟨k0, e0, _, _⟩ := DataW.trod_int Tryd.underlying3 h0
    obtain ⟨a, c, rows, e1, f1, f2, f3⟩ := rows_of_trod (show DataW.trod enc Tryd.prog W 0 (fun _ => true) true n 29 [c1] = some y1 from h1)
    obtain ⟨b, e, makes, e2, f4, f5⟩ := ints_of_trod (show DataW.trod enc Tryd.prog W 0 (fun _ => true) true n 30 [c2] = some y2 from h2)
    simp at e0
    exact ⟨k0, a, c, rows, b, e, makes, by rw [e0, e1, e2], f1, f4, f2, f3, f5⟩

set_option maxRecDepth 100000 in
theorem lawWordsFields : Tryd.prog.underlying 56 = some (.struct (Tryd.prog.fieldsOf 56)) := by kernel_rfl
set_option maxRecDepth 100000 in
theorem lawWordsSize : Tryd.prog.cellsOf 56 = 3 := by kernel_rfl
set_option maxRecDepth 100000 in
theorem open_words {H : Type} {enc : TypeId × Value → H} {W : World} {r : Reach} {base : Nat} {v : Value} {d : DataW H} {p : List MemPlace} (hok : Value.okWide Tryd.prog W r base 56 v)
    (h : DataW.Trod enc Tryd.prog W 0 (fun _ => true) true 56 v d p) :
    ∃ a c ss q b e ts, v = .agg #[.slice a ss.length c, .int .i64 q, .slice b ts.length e] ∧ ArgI W a ss ∧ ss.length ≤ maxLen ∧ ArgI W b ts ∧ ts.length ≤ maxLen := by
  unfold Value.okWide at hok
  rw [lawWordsFields] at hok
  obtain ⟨cs, rfl, hsz, _⟩ := hok
  obtain ⟨fuel, hf⟩ := h
  have hf' : DataW.trod enc Tryd.prog W 0 (fun _ => true) true fuel 56 cs.toList = some (d, p) := hf
  obtain ⟨y0, y1, y2, n, _, hl, h0, h1, h2⟩ := Go.Deep.trod_struct3 Tryd.underlying56 hf'
  rw [lawWordsSize] at hl
  obtain ⟨l⟩ := cs
  match l, hl with
  | [c0, c1, c2], _ =>
    simp only [cInt, cSlice] at h0 h1 h2
    obtain ⟨k0, e0, _, _⟩ := DataW.trod_int Tryd.underlying3 h1
    obtain ⟨a, c, ss, e1, f1, f2⟩ := ints_of_trod (show DataW.trod enc Tryd.prog W 0 (fun _ => true) true n 30 [c0] = some y0 from h0)
    obtain ⟨b, e, ts, e2, f4, f5⟩ := ints_of_trod (show DataW.trod enc Tryd.prog W 0 (fun _ => true) true n 30 [c2] = some y2 from h2)
    simp at e0
    exact ⟨a, c, ss, k0, b, e, ts, by rw [e0, e1, e2], f1, f2, f4, f5⟩
end Go.Proofs.YtopjlbihhbjhnaaDoor
