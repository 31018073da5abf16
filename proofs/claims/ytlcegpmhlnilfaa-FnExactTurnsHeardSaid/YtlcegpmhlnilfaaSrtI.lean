/- slices.Sort of a list of numbers, by the shelf's contract. -/
import Derived.Test.YtlcegpmhlnilfaaSrtP
import Derived.Test.YtlcegpmhlnilfaaBRd
import Derived.Test.YtlcegpmhlnilfaaShelf
import Derived.Shelf.Slices.In.SortNone
namespace Go.Proofs.Ytlcegpmhlnilfaa
open Go.RowKit

theorem take_putI (zs : List Int) (cur : Array Value) (h : zs.length ≤ cur.size) : (Sort.putCells (Value.int .i64) 0 zs.toArray cur).toList.take zs.length = zs.map (Value.int .i64) := by
  apply List.ext_getElem?
  intro j
  by_cases hj : j < zs.length
  · rw [List.getElem?_take_of_lt hj, Array.getElem?_toList]
    simp [Sort.putCells, hj, show j < cur.size by omega]
  · rw [List.getElem?_take_eq_none (by omega), List.getElem?_eq_none (by simp; omega)]
theorem heap_putI {w : World} {g n : Nat} {os : Array Obj} {cur : Array Value} {F : Array Int} {e : TypeId} {fr : Nat × Nat} (hb : w.heap[g]? = some (.cells cur e fr)) :
    (Sort.grow (Sort.putRow (Value.int .i64) (Sort.ahead w n) g 0 F) os).heap[g]? = some (.cells (Sort.putCells (Value.int .i64) 0 F cur) e fr) := by
  have hg : g < w.heap.size := (Array.getElem?_eq_some_iff.1 hb).1
  rw [Sort.heap_grow_old _ _ (by simpa using hg)]
  simp [Sort.putRow, Sort.mapBlock, Sort.ahead, Array.getElem?_modify, hb, Sort.onCells]
theorem grown_putI {w : World} {g n : Nat} {os : Array Obj} (F : Array Int) : w.grownBy (Sort.grow (Sort.putRow (Value.int .i64) (Sort.ahead w n) g 0 F) os) (some g) := by
  refine ⟨rfl, rfl, rfl, by simp, fun k hk hne => ?_⟩
  rw [Sort.heap_grow_old _ _ (by simpa using hk)]
  have : g ≠ k := fun e => hne (by rw [e])
  simp [Sort.putRow, Sort.mapBlock, Sort.ahead, Array.getElem?_modify, this]

theorem isort_any (v : Value) (xs : List Int) (B : Nat) (w : World) (h : Own w B v xs) (hl : xs.length ≤ 1000) :
    Calls Try.prog 75 #[v] w fun e w' => e = .returned (.tuple #[]) ∧ Own w' B v (sortI xs) ∧ w.grownBy w' v.ownBlock := by
  rcases id h.2 with ⟨rfl, h0⟩ | ⟨g, cap, cur, rfl, hBg, hg, hnc, hcm, hcs, htake⟩
  · have hx : xs = [] := List.eq_nil_of_length_eq_zero h0
    subst hx
    have c := Any.slices_Sort_int_none Try.lays189 none 0 w
    change Calls Try.prog 75 _ _ _ at c
    refine c.mono ?_
    rintro e w' ⟨he, hw⟩
    subst hw
    exact ⟨he, by rw [sortI_nil]; exact h, ⟨rfl, rfl, rfl, Nat.le_refl _, fun _ _ _ => rfl⟩⟩
  · have hglt : g < w.heap.size := (Array.getElem?_eq_some_iff.1 hg).1
    have hc := @World.ownsRow.cells _ _ _ _ _ _ _ h
    have hH : Sort.Holds (Value.int .i64) w g 0 xs.toArray := by
      intro j hj
      have hj' : j < xs.length := by simpa using hj
      refine ⟨?_, ?_⟩
      · rw [Nat.zero_add]
        have hadd : (⟨g, 0, none⟩ : Addr).add j = ⟨g, j, none⟩ := by unfold Addr.add; split <;> simp_all
        rw [← hadd]
        refine hc rfl j _ ?_
        simp [getElem!_pos, hj']
      · rw [Nat.zero_add]; exact h.frozenAt j
    have c := Try.slices_Sort_int g 0 cap xs w hH hglt (by omega)
    refine c.mono ?_
    rintro e w' ⟨he, n, os, rfl⟩
    refine ⟨he, ?_, grown_putI _⟩
    have hlen := sortI_len xs
    change Own (Sort.grow (Sort.putRow (Value.int .i64) (Sort.ahead w n) g 0 (sortI xs).toArray) os) B (.slice (some ⟨g, 0, none⟩) xs.length cap) (sortI xs)
    unfold Own
    rw [hlen]
    refine ⟨by simp [hlen], .inr ⟨g, cap, _, rfl, hBg, heap_putI hg, hnc, hcm, by simp [Sort.putCells, hcs], ?_⟩⟩
    have := take_putI (sortI xs) cur (by rw [hlen, hcs]; omega)
    rw [hlen] at this
    simpa using this
end Go.Proofs.Ytlcegpmhlnilfaa
