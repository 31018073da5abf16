/- All orders, as the developers' closure yields them: exchanged, and exchanged back. -/
import Derived.Test.YtlcegpmhlnilfaaBGr
namespace Go.Proofs.Ytlcegpmhlnilfaa
open Go.RowKit

def exch (o : List Int) (i j : Nat) : List Int := (o.set i (nth o j)).set j (nth o i)
theorem exch_len {o : List Int} {i j : Nat} : (exch o i j).length = o.length := by simp [exch]
/-- The exchanges back, from i down to the one behind the place. -/
def exBack (place : Nat) : Nat → List Int → List Int
  | 0, o => o
  | i + 1, o => if place < i + 1 then exBack place i (exch o place (i + 1)) else o
def exLoop (g : List Int → List (List Int) × List Int) (place : Nat) : Nat → List Int → List (List Int) × List Int
  | 0, o => ([], o)
  | c + 1, o => ((exLoop g place c o).1 ++ (g (exch (exLoop g place c o).2 place (place + c))).1, (g (exch (exLoop g place c o).2 place (place + c))).2)
/-- What is yielded from a place on, f points being left; and the order behind it. -/
def exFrom : Nat → Nat → List Int → List (List Int) × List Int
  | 0, _, o => ([o], o)
  | f + 1, place, o => ((exLoop (exFrom f (place + 1)) place (f + 1) o).1, exBack place (place + f) (exLoop (exFrom f (place + 1)) place (f + 1) o).2)
theorem exBack_len {place : Nat} : ∀ {i : Nat} {o : List Int}, (exBack place i o).length = o.length
  | 0, _ => rfl
  | i + 1, o => by unfold exBack; split <;> simp [exBack_len, exch_len]
theorem exLoop_len {g : List Int → List (List Int) × List Int} (hg : ∀ o, (g o).2.length = o.length) {place : Nat} : ∀ {c : Nat} {o : List Int}, (exLoop g place c o).2.length = o.length
  | 0, _ => rfl
  | c + 1, o => by rw [exLoop]; rw [hg, exch_len, exLoop_len hg]
theorem exFrom_len : ∀ {f place : Nat} {o : List Int}, (exFrom f place o).2.length = o.length
  | 0, _, _ => rfl
  | f + 1, place, o => by rw [exFrom]; rw [exBack_len, exLoop_len (fun o => exFrom_len)]
theorem exLoop_pre {g : List Int → List (List Int) × List Int} {place : Nat} {o : List Int} : ∀ {c d : Nat}, c ≤ d → (exLoop g place c o).1 <+: (exLoop g place d o).1
  | c, 0, h => by obtain rfl : c = 0 := by omega
                  exact List.prefix_rfl
  | c, d + 1, h => by
    by_cases e : c = d + 1
    · subst e; exact List.prefix_rfl
    · exact (exLoop_pre (d := d) (by omega)).trans (by rw [exLoop]; exact List.prefix_append _ _)
theorem exLoop_in {g : List Int → List (List Int) × List Int} {place c d : Nat} {o : List Int} {q : List (List Int)} (h : c < d) (hq : q <+: (g (exch (exLoop g place c o).2 place (place + c))).1) : (exLoop g place c o).1 ++ q <+: (exLoop g place d o).1 := by
  refine List.IsPrefix.trans ?_ (exLoop_pre (show c + 1 ≤ d from h))
  rw [exLoop]
  exact (List.prefix_append_right_inj _).2 hq
theorem exBack_stop {p : Nat} {o : List Int} : exBack p p o = o := by
  cases p with
  | zero => rfl
  | succ p => rw [exBack, if_neg (by omega)]
theorem exBack_step {p i : Nat} {o : List Int} (h : p < i + 1) : exBack p (i + 1) o = exBack p i (exch o p (i + 1)) := by rw [exBack, if_pos h]
set_option maxRecDepth 100000 in
theorem exFrom_ords {m : Nat} (h1 : 1 ≤ m) (h5 : m ≤ 5) : (exFrom m 0 (idn m)).1 = ords m := by
  have : m = 1 ∨ m = 2 ∨ m = 3 ∨ m = 4 ∨ m = 5 := by omega
  rcases this with rfl | rfl | rfl | rfl | rfl <;> decide +kernel
end Go.Proofs.Ytlcegpmhlnilfaa
