/- Plain mathematics of the promise of ElementsOf: the powers of an element but 1. -/
import Derived.Test.YtjifldaohdddhaaDoorPureB
namespace Go.Proofs.YtjifldaohdddhaaDoor

/-- The first j powers of x. -/
def powsTo (g x : Int) : Nat → List Int
  | 0 => []
  | j + 1 => powsTo g x j ++ [gpow g x j]
theorem powsTo_len (g x : Int) : ∀ j, (powsTo g x j).length = j
  | 0 => rfl
  | j + 1 => by unfold powsTo; rw [List.length_append, powsTo_len g x j]; rfl
theorem els_first_all : ∀ g ∈ [(0 : Int), 1, 2, 3], nth (els g) 0 = 1 := by decide
theorem els_first {g : Int} (h0 : 0 ≤ g) (h4 : g < 4) : nth (els g) 0 = 1 := els_first_all g (g_mem h0 h4)
theorem els_rest_all : ∀ g ∈ [(0 : Int), 1, 2, 3], ∀ k ∈ List.range 23, 1 ≤ k → k < (els g).length → nth (els g) k ≠ 1 := by decide +kernel
theorem els_rest {g : Int} (h0 : 0 ≤ g) (h4 : g < 4) {k : Nat} (h1 : 1 ≤ k) (h2 : k < (els g).length) : nth (els g) k ≠ 1 :=
  els_rest_all g (g_mem h0 h4) k (List.mem_range.2 (by have := @els_len g; omega)) h1 h2
theorem powsTo_mem {g x y : Int} : ∀ j, y ∈ powsTo g x j → ∃ i, i < j ∧ y = gpow g x (i : Nat)
  | 0, h => by cases h
  | j + 1, h => by
    unfold powsTo at h
    rcases List.mem_append.1 h with h | h
    · obtain ⟨i, hi, e⟩ := powsTo_mem j h
      exact ⟨i, by omega, e⟩
    · exact ⟨j, by omega, by simpa using h⟩
theorem powers_ok {g : Int} (h0 : 0 ≤ g) (h4 : g < 4) {k n : Nat} (h1 : 1 ≤ k) (h2 : k < (els g).length) (h3 : n < (els g).length) :
    hasB (powsTo g (nth (els g) k) n) (gpow g (nth (els g) k) (n : Nat)) = false ∧ hasB (els g) (gpow g (nth (els g) k) (n : Nat)) = true ∧ powsTo g (nth (els g) k) (n + 1) = powsTo g (nth (els g) k) n ++ [gpow g (nth (els g) k) (n : Nat)] := by
  have hx : elB g (nth (els g) k) = true := elB_mem.2 (nth_mem h2)
  have hx1 := els_rest h0 h4 h1 h2
  have hl := els_ord h0 h4
  have ho := ord_bd h0 h4
  have hp : ∀ i : Nat, i < (els g).length → gpow g (nth (els g) k) (i : Nat) = pw (prm g) (nth (els g) k) i := fun i hi => by
    rw [gpow_gp hx (by omega) (by omega), gp_nat hx]
  refine ⟨?_, ?_, rfl⟩
  · cases hb : hasB (powsTo g (nth (els g) k) n) (gpow g (nth (els g) k) (n : Nat))
    · rfl
    · unfold hasB at hb
      rw [List.contains_iff_mem] at hb
      obtain ⟨i, hi, e⟩ := powsTo_mem n hb
      rw [hp n h3, hp i (by omega)] at e
      have a1 := glog_pow hx hx1 (k := n) (by omega)
      have a2 := glog_pow hx hx1 (k := i) (by omega)
      rw [e, a2] at a1
      omega
  · rw [hasB_els, gpow_gp hx (by omega) (by omega)]
    exact gp_el hx _

end Go.Proofs.YtjifldaohdddhaaDoor
