/- Boards in the laws' walks: what is known; the keys of a board. -/
import Derived.Test.YtiinifcepcaonaaDoorBDrB
import Derived.Test.YtiinifcepcaonaaDoorBLek
import Derived.Test.YtiinifcepcaonaaDoorBLaw
namespace Go.Proofs.YtiinifcepcaonaaDoor
open Go.RowKit

/-- What a law's walk knows of its board: the box, the notes, a list of keys. -/
structure Kn (w : World) (N : Nat) (P : List Value) (v : Value) (ns : List Nt) (u : Value) (K : List Int) (w' : World) : Prop where
  be : Below w.heap.size w w'
  bx : Box w' N P
  nt : Nts w' v ns
  ks : Ints w' u K
theorem Kn.on {w w' w'' : World} {N : Nat} {P : List Value} {v u : Value} {ns : List Nt} {K : List Int} (h : Kn w N P v ns u K w') (hb : Below w'.heap.size w' w'') : Kn w N P v ns u K w'' := ⟨Below.on h.be hb, h.bx.on hb, h.nt.on hb, h.ks.below hb⟩
theorem Kn.keys {w w' : World} {N : Nat} {P : List Value} {v u u' : Value} {ns : List Nt} {K K' : List Int} (h : Kn w N P v ns u K w') (hk : Ints w' u' K') : Kn w N P v ns u' K' w' := ⟨h.be, h.bx, h.nt, hk⟩
theorem kon_el {g : Int} {ns : List Nt} {k : Nat} (hk : k < (konL g ns).length) : elB g (nth (konL g ns) k) = true := by
  cases h : brdB g ns
  · rw [konL_no h] at hk; simp at hk
  · rw [konL_yes h] at hk ⊢; exact brd_keys h _ (nth_mem hk)
theorem nth_takeB {xs : List Int} {k j : Nat} (h : j < k) : nth (xs.take k) j = nth xs j := by
  unfold nth
  rw [List.getD_eq_getElem?_getD, List.getD_eq_getElem?_getD, List.getElem?_take_of_lt h]
theorem kon_new {g : Int} {ns : List Nt} {k : Nat} (hk : k < (konL g ns).length) : hasB ((konL g ns).take k) (nth (konL g ns) k) = false := by
  cases h : brdB g ns
  · rw [konL_no h] at hk; simp at hk
  · rw [konL_yes h] at hk ⊢
    refine has_no fun j hj => ?_
    rw [List.length_take] at hj
    rw [nth_takeB (by omega), nth_get (by omega), nth_get hk]
    exact List.pairwise_iff_getElem.1 (brd_nodup h) j k (by omega) hk (by omega)
theorem Ints.preB {w : World} {a : Option Addr} {n c k : Nat} {xs : List Int} (h : Ints w (.slice a n c) xs) (hn : xs.length = n) (h0 : 0 < n) (hk : k ≤ n) : Ints w (.slice a k c) (xs.take k) := by
  rcases h with ⟨e, _⟩ | ⟨g, cap, e, h2, h3, h4⟩
  · cases e; omega
  · cases e
    refine .inr ⟨g, c, by rw [List.length_take, Nat.min_eq_left hk], by rw [List.length_take]; omega, h3, fun j hj => ?_⟩
    rw [List.length_take] at hj
    rw [nth_takeB (by omega)]
    exact h4 j (by omega)
end Go.Proofs.YtiinifcepcaonaaDoor
