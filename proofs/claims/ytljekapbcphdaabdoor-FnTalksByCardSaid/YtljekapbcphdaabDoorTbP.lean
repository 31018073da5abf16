/- Plain mathematics of TalksBy: the numbers of all talks of who knows some, in two orders, and sorted. -/
import Derived.Test.YtljekapbcphdaabDoorNumT
import Derived.Test.YtljekapbcphdaabDoorPolY
import Derived.Test.YtljekapbcphdaabDoorNumI
namespace Go.Proofs.YtljekapbcphdaabDoor

def sortI (xs : List Int) : List Int := xs.mergeSort fun x y => decide (x ≤ y)
theorem sortI_perm (xs : List Int) : (sortI xs).Perm xs := List.mergeSort_perm _ _
theorem sortI_len (xs : List Int) : (sortI xs).length = xs.length := (sortI_perm xs).length_eq
theorem sortI_pair (xs : List Int) : (sortI xs).Pairwise fun x y => x ≤ y := by
  have h := List.pairwise_mergeSort (le := fun x y : Int => decide (x ≤ y)) (fun a b c h1 h2 => by simp at *; omega) (fun a b => by simp; omega) xs
  exact h.imp fun h => by simpa using h
theorem sortI_only {xs ys : List Int} (h : ys.Perm xs) (hs : ys.Pairwise fun x y => x ≤ y) : ys = sortI xs :=
  (h.trans (sortI_perm xs).symm).eq_of_pairwise (fun a b _ _ h1 h2 => by omega) hs (sortI_pair xs)
theorem sortI_same {xs ys : List Int} (h : xs.Perm ys) : sortI xs = sortI ys := sortI_only ((sortI_perm xs).trans h) (sortI_pair xs)

/-- Of the first k numbers those that f gives. -/
def colTo (f : Nat → Option Int) : Nat → List Int
  | 0 => []
  | k + 1 => match f k with
    | some x => colTo f k ++ [x]
    | none => colTo f k
theorem colTo_yes {f : Nat → Option Int} {k : Nat} {x : Int} (h : f k = some x) : colTo f (k + 1) = colTo f k ++ [x] := by simp [colTo, h]
theorem colTo_no {f : Nat → Option Int} {k : Nat} (h : f k = none) : colTo f (k + 1) = colTo f k := by simp [colTo, h]
theorem colTo_len (f : Nat → Option Int) : ∀ k, (colTo f k).length ≤ k
  | 0 => by simp [colTo]
  | k + 1 => by
    have := colTo_len f k
    cases h : f k with
    | none => rw [colTo_no h]; omega
    | some x => rw [colTo_yes h, List.length_append]; simp; omega
theorem colTo_is (f : Nat → Option Int) : ∀ n, colTo f n = (List.range n).filterMap f
  | 0 => rfl
  | n + 1 => by
    rw [List.range_succ, List.filterMap_append, ← colTo_is f n]
    cases h : f n with
    | none => rw [colTo_no h]; simp [h]
    | some x => rw [colTo_yes h]; simp [h]
theorem colTo_none {f : Nat → Option Int} (h : ∀ k, f k = none) : ∀ n, colTo f n = []
  | 0 => rfl
  | n + 1 => by rw [colTo_no (h n)]; exact colTo_none h n

/-- The number of a talk. -/
def cdO (keys secrets first second : List Int) (ask : Int) : Int :=
  codeTo (mapTo (sofS 0 keys secrets first second) keys.length) (mapTo (sofX 0 secrets first ask keys.length) keys.length) (mapTo (sofT 0 secrets first second ask keys.length) keys.length) keys.length
def pkO (keys : List Int) (need : Int) (secrets : List Int) (ask : Int) (p : List Int × List Int) : Option Int := if sofB 0 keys need secrets p.1 p.2 ask then some (cdO keys secrets p.1 p.2 ask) else none
theorem pk_yes {keys : List Int} {need : Int} {secrets : List Int} {ask : Int} {p : List Int × List Int} (h : sofB 0 keys need secrets p.1 p.2 ask = true) : pkO keys need secrets ask p = some (cdO keys secrets p.1 p.2 ask) := by simp [pkO, h]
theorem pk_no {keys : List Int} {need : Int} {secrets : List Int} {ask : Int} {p : List Int × List Int} (h : sofB 0 keys need secrets p.1 p.2 ask = false) : pkO keys need secrets ask p = none := by simp [pkO, h]
def pI (n k : Nat) : List Int × List Int := ((row (lots 3 (2 * n)) k).take n, (row (lots 3 (2 * n)) k).drop n)
def fiS (n k : Nat) : List Int := mapTo (fun i => ((k / 9 ^ i % 3 : Nat) : Int)) n
def seS (n k : Nat) : List Int := mapTo (fun i => ((k / 9 ^ i / 3 % 3 : Nat) : Int)) n
def pS (n k : Nat) : List Int × List Int := (fiS n k, seS n k)
theorem perm_1 : ((List.range 9).map (pI 1)).isPerm ((List.range 9).map (pS 1)) = true := by decide +kernel
theorem perm_2 : ((List.range 81).map (pI 2)).isPerm ((List.range 81).map (pS 2)) = true := by decide +kernel
theorem perm_p {n : Nat} (h : n = 1 ∨ n = 2) : ((List.range (9 ^ n)).map (pI n)).Perm ((List.range (9 ^ n)).map (pS n)) := by
  rcases h with rfl | rfl
  · exact List.isPerm_iff.1 perm_1
  · exact List.isPerm_iff.1 perm_2
def fnI (keys : List Int) (need : Int) (secrets : List Int) (ask : Int) (k : Nat) : Option Int := pkO keys need secrets ask (pI keys.length k)
def fnS (keys : List Int) (need : Int) (secrets : List Int) (ask : Int) (k : Nat) : Option Int := pkO keys need secrets ask (pS keys.length k)
theorem col_perm {keys : List Int} (need : Int) (secrets : List Int) (ask : Int) (h : keys.length = 1 ∨ keys.length = 2) : (colTo (fnI keys need secrets ask) (9 ^ keys.length)).Perm (colTo (fnS keys need secrets ask) (9 ^ keys.length)) := by
  have := (perm_p h).filterMap (pkO keys need secrets ask)
  rw [List.filterMap_map, List.filterMap_map] at this
  rw [colTo_is, colTo_is]; exact this
/-- The answer. -/
def tby (keys : List Int) (need : Int) (secrets : List Int) (ask : Int) : List Int := if kysB 0 keys need then sortI (colTo (fnS keys need secrets ask) (9 ^ keys.length)) else []
theorem tby_no {keys : List Int} {need : Int} {secrets : List Int} {ask : Int} (h : kysB 0 keys need = false) : tby keys need secrets ask = [] := by simp [tby, h]
theorem tby_S {keys : List Int} {need : Int} {secrets : List Int} {ask : Int} (h : kysB 0 keys need = true) : tby keys need secrets ask = sortI (colTo (fnS keys need secrets ask) (9 ^ keys.length)) := by simp [tby, h]
theorem kys_two {keys : List Int} {need : Int} (h : kysB 0 keys need = true) : keys.length = 1 ∨ keys.length = 2 := by
  have m := (kysB_true.1 h).m
  have h1 := m.n1
  have h2 := m.lt
  have : ord 0 = 3 := rfl
  omega
theorem tby_I {keys : List Int} {need : Int} {secrets : List Int} {ask : Int} (h : kysB 0 keys need = true) : tby keys need secrets ask = sortI (colTo (fnI keys need secrets ask) (9 ^ keys.length)) := by
  rw [tby_S h]; exact (sortI_same (col_perm need secrets ask (kys_two h))).symm
theorem sortI_nil : sortI [] = [] := List.eq_nil_of_length_eq_zero (by rw [sortI_len]; rfl)
theorem tby_len_no {keys : List Int} {need : Int} {secrets : List Int} {ask : Int} (h : secrets.length ≠ keys.length) : tby keys need secrets ask = [] := by
  cases hk : kysB 0 keys need
  · exact tby_no hk
  · rw [tby_S hk, colTo_none (show ∀ k, fnS keys need secrets ask k = none from fun k => pk_no (sofB_false fun hs => h hs.l1)), sortI_nil]
theorem tby_le (keys : List Int) (need : Int) (secrets : List Int) (ask : Int) : (tby keys need secrets ask).length ≤ 81 := by
  cases h : kysB 0 keys need
  · rw [tby_no h]; simp
  · rw [tby_S h, sortI_len]
    refine Nat.le_trans (colTo_len _ _) ?_
    rcases kys_two h with e | e <;> rw [e] <;> decide
/-- The digits of a talk are such. -/
theorem sof_digs {keys : List Int} {need : Int} {secrets first second : List Int} {ask : Int} (h : sofB 0 keys need secrets first second ask = true) :
    Digs (mapTo (sofS 0 keys secrets first second) keys.length) (mapTo (sofX 0 secrets first ask keys.length) keys.length) (mapTo (sofT 0 secrets first second ask keys.length) keys.length) keys.length := by
  have hs := sofB_true.1 h
  have s := someB_true.1 hs.some
  refine ⟨mapTo_len _ _, mapTo_len _ _, mapTo_len _ _, by rcases kys_two (kysB_true.2 hs.k) with e | e <;> omega, fun k hk => ?_⟩
  have ht := toksB_true.1 s.tok k hk
  obtain ⟨_, e1, e2, e3, _⟩ := tok_yes.1 ht
  have b1 := elB_bound e1
  have b2 := (exB_true.1 e2).2
  have b3 := (exB_true.1 e3).2
  have : ord 0 = 3 := rfl
  omega

end Go.Proofs.YtljekapbcphdaabDoor
