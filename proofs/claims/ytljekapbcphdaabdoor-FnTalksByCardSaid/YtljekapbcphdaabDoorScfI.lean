/- impl.SecretsFrom. -/
import Derived.Test.YtljekapbcphdaabDoorSomI
import Derived.Test.YtljekapbcphdaabDoorBTalk
import Derived.Deep.Cut
namespace Go.Proofs.YtljekapbcphdaabDoor
open Go.RowKit

/-- What one element's exponent is told to be. -/
def sctR (g key s1 a1 t1 s2 a2 t2 : Int) : Int := if secB g key s1 a1 t1 s2 a2 t2 then secretOf g a1 t1 a2 t2 else -1
theorem sctR_yes {g key s1 a1 t1 s2 a2 t2 : Int} (h : secB g key s1 a1 t1 s2 a2 t2 = true) : sctR g key s1 a1 t1 s2 a2 t2 = secretOf g a1 t1 a2 t2 := by unfold sctR; rw [h]; rfl
theorem sctR_no {g key s1 a1 t1 s2 a2 t2 : Int} (h : secB g key s1 a1 t1 s2 a2 t2 = false) : sctR g key s1 a1 t1 s2 a2 t2 = -1 := by unfold sctR; rw [h]; rfl
def scfTo (g : Int) (keys ss xs ts ss2 xs2 ts2 : List Int) : Nat → List Int
  | 0 => []
  | k + 1 => scfTo g keys ss xs ts ss2 xs2 ts2 k ++ [sctR g (nth keys k) (nth ss k) (nth xs k) (nth ts k) (nth ss2 k) (nth xs2 k) (nth ts2 k)]
theorem scfTo_succ (g : Int) (keys ss xs ts ss2 xs2 ts2 : List Int) (k : Nat) : scfTo g keys ss xs ts ss2 xs2 ts2 (k + 1) = scfTo g keys ss xs ts ss2 xs2 ts2 k ++ [sctR g (nth keys k) (nth ss k) (nth xs k) (nth ts k) (nth ss2 k) (nth xs2 k) (nth ts2 k)] := rfl
theorem scfTo_len (g : Int) (keys ss xs ts ss2 xs2 ts2 : List Int) : ∀ k, (scfTo g keys ss xs ts ss2 xs2 ts2 k).length = k
  | 0 => rfl
  | k + 1 => by rw [scfTo_succ, List.length_append, scfTo_len g keys ss xs ts ss2 xs2 ts2 k]; rfl
def scfB (g : Int) (keys : List Int) (need : Int) (ss : List Int) (q : Int) (xs ts ss2 : List Int) (q2 : Int) (xs2 ts2 : List Int) : Bool :=
  someB g keys need ss q xs ts && (someB g keys need ss2 q2 xs2 ts2 && (sameB ss ss2 && decide (q ≠ q2)))
def scfL (g : Int) (keys : List Int) (need : Int) (ss : List Int) (q : Int) (xs ts ss2 : List Int) (q2 : Int) (xs2 ts2 : List Int) : List Int :=
  if scfB g keys need ss q xs ts ss2 q2 xs2 ts2 then scfTo g keys ss xs ts ss2 xs2 ts2 keys.length else []
theorem scfL_no {g : Int} {keys : List Int} {need : Int} {ss : List Int} {q : Int} {xs ts ss2 : List Int} {q2 : Int} {xs2 ts2 : List Int} (h : scfB g keys need ss q xs ts ss2 q2 xs2 ts2 = false) : scfL g keys need ss q xs ts ss2 q2 xs2 ts2 = [] := by unfold scfL; rw [h]; rfl
theorem scfL_yes {g : Int} {keys : List Int} {need : Int} {ss : List Int} {q : Int} {xs ts ss2 : List Int} {q2 : Int} {xs2 ts2 : List Int} (h : scfB g keys need ss q xs ts ss2 q2 xs2 ts2 = true) : scfL g keys need ss q xs ts ss2 q2 xs2 ts2 = scfTo g keys ss xs ts ss2 xs2 ts2 keys.length := by unfold scfL; rw [h]; rfl
theorem scfL_len (g : Int) (keys : List Int) (need : Int) (ss : List Int) (q : Int) (xs ts ss2 : List Int) (q2 : Int) (xs2 ts2 : List Int) : (scfL g keys need ss q xs ts ss2 q2 xs2 ts2).length ≤ 4 := by
  cases h : scfB g keys need ss q xs ts ss2 q2 xs2 ts2
  · rw [scfL_no h]; simp
  · rw [scfL_yes h, scfTo_len]
    unfold scfB at h
    simp only [Bool.and_eq_true] at h
    exact (someB_true.1 h.1).k.m.n4

end Go.Proofs.YtljekapbcphdaabDoor
