/- An insertion sort of numbers, as plain mathematics: the kit's own, and that it sorts. -/
import Derived.Test.YtljekapbcphdaabDoorTbP
import Derived.Sort.LotA
namespace Go.Proofs.YtljekapbcphdaabDoor

abbrev ltI : Int → Int → Bool := fun x y => decide (x < y)
theorem swoI : Sort.SWO ltI where
  irrefl x := by simp [ltI]
  trans x y z h1 h2 := by simp [ltI] at *; omega
  ntrans x y z h1 h2 := by simp [ltI] at *; omega
theorem antiI (x y : Int) (h1 : ltI x y = false) (h2 : ltI y x = false) : x = y := by
  simp [ltI] at h1 h2; omega
theorem sortedI_is (d d' : Array Int) (hp : Sort.PermIn 0 d.size d d') (hs : Sort.SortedIn ltI 0 d.size d') : d'.toList = sortI d.toList := by
  have h := Sort.sorted_unique_holds swoI antiI d d' hp hs
  rw [h]
  unfold sortI
  congr 1
  funext x y
  by_cases h : y < x
  · simp [ltI, h]
  · simp [ltI, h]; omega
theorem outerI_on {n k : Nat} {D : Array Int} (h : k < n) : Sort.insOuter ltI 0 n k D = Sort.insOuter ltI 0 n (k + 1) (Sort.insInner ltI 0 k D) := by
  conv => lhs; unfold Sort.insOuter
  rw [if_pos h]
theorem outerI_end {n k : Nat} {D : Array Int} (h : ¬ k < n) : Sort.insOuter ltI 0 n k D = D := by
  unfold Sort.insOuter
  rw [if_neg h]
theorem innerI_yes {i : Nat} {D : Array Int} (h : D[i + 1]! < D[i]!) : Sort.insInner ltI 0 (i + 1) D = Sort.insInner ltI 0 i (Sort.swp D (i + 1) i) := by
  show (if i + 1 > 0 && ltI D[i + 1]! D[i]! then _ else _) = _
  rw [show ltI D[i + 1]! D[i]! = true from decide_eq_true h]
  simp
theorem innerI_no {i : Nat} {D : Array Int} (h : ¬ D[i + 1]! < D[i]!) : Sort.insInner ltI 0 (i + 1) D = D := by
  show (if i + 1 > 0 && ltI D[i + 1]! D[i]! then _ else _) = _
  rw [show ltI D[i + 1]! D[i]! = false from decide_eq_false h]
  simp
theorem insI_is (d : List Int) : (Sort.insOuter ltI 0 d.length 1 d.toArray).toList = sortI d := by
  have h := Sort.insertionSort_holds swoI d.toArray 0 d.length (Nat.zero_le _) (by simp)
  have := sortedI_is d.toArray (Sort.insertionSort ltI d.toArray 0 d.length) (by simpa using h.1) (by simpa using h.2)
  simpa [Sort.insertionSort] using this
theorem nth_arr {D : Array Int} {i : Nat} (h : i < D.size) : nth D.toList i = D[i]! := by
  rw [nth_get (by simpa using h), getElem!_pos D i h]; exact Array.getElem_toList ..
end Go.Proofs.YtljekapbcphdaabDoor
