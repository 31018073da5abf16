/- Numbers sorted. -/
import Derived.Test.YtlcegpmhlnilfaaBPure
namespace Go.Proofs.Ytlcegpmhlnilfaa

def sortI (xs : List Int) : List Int := xs.mergeSort fun x y => decide (x ≤ y)
theorem sortI_perm (xs : List Int) : (sortI xs).Perm xs := List.mergeSort_perm _ _
theorem sortI_len (xs : List Int) : (sortI xs).length = xs.length := (sortI_perm xs).length_eq
theorem sortI_pair (xs : List Int) : (sortI xs).Pairwise fun x y => x ≤ y := by
  have h := List.pairwise_mergeSort (le := fun x y : Int => decide (x ≤ y)) (fun a b c h1 h2 => by simp at *; omega) (fun a b => by simp; omega) xs
  exact h.imp fun h => by simpa using h
theorem sortI_only {xs ys : List Int} (h : ys.Perm xs) (hs : ys.Pairwise fun x y => x ≤ y) : ys = sortI xs :=
  (h.trans (sortI_perm xs).symm).eq_of_pairwise (fun a b _ _ h1 h2 => by omega) hs (sortI_pair xs)
theorem sortI_same {xs ys : List Int} (h : xs.Perm ys) : sortI xs = sortI ys := sortI_only ((sortI_perm xs).trans h) (sortI_pair xs)
theorem sortI_nil : sortI [] = [] := List.eq_nil_of_length_eq_zero (by rw [sortI_len]; rfl)
end Go.Proofs.Ytlcegpmhlnilfaa
