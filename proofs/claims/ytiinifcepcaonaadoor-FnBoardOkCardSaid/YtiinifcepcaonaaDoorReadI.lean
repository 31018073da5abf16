/- Numbers read, texts cut at a comma: impl's. -/
import Derived.Test.YtiinifcepcaonaaDoorTextT
import Derived.Lib.AtoiAll
import Derived.Lib.CutLaws
import Derived.Lib.AtoiErrMem
import Derived.Lib.IndexBytes
namespace Go.Proofs.YtiinifcepcaonaaDoor
open Go.RowKit

theorem atoi_one : ∀ d ∈ List.range 10, Lib.atoiAll [UInt8.ofNat (48 + d)] = .ok (d : Int) := by decide +kernel
theorem atoi_two : ∀ q ∈ List.range 10, ∀ r ∈ List.range 10, Lib.atoiAll [UInt8.ofNat (48 + q), UInt8.ofNat (48 + r)] = .ok ((10 * q + r : Nat) : Int) := by decide +kernel
theorem digit_ne : ∀ d ∈ List.range 10, UInt8.ofNat (48 + d) ≠ 44 := by decide +kernel
theorem atoi_num {n : Nat} (h : n < 100) : Lib.atoiAll (numT n).data.toList = .ok (n : Int) := by
  unfold numT
  by_cases h1 : n < 10
  · rw [Lib.decDigits_one h1]; exact atoi_one n (List.mem_range.2 h1)
  · rw [Lib.decDigits_two h1 h]
    have := atoi_two (n / 10) (List.mem_range.2 (by omega)) (n % 10) (List.mem_range.2 (by omega))
    rwa [show 10 * (n / 10) + n % 10 = n by omega] at this
theorem num_ne {n : Nat} (h : n < 100) : ∀ c ∈ Lib.decDigits n, c ≠ 44 := by
  by_cases h1 : n < 10
  · rw [Lib.decDigits_one h1]; intro c hc
    rw [List.mem_singleton] at hc; rw [hc]; exact digit_ne n (List.mem_range.2 h1)
  · rw [Lib.decDigits_two h1 h]; intro c hc
    rcases List.mem_cons.1 hc with rfl | hc
    · exact digit_ne _ (List.mem_range.2 (by omega))
    · rw [List.mem_singleton] at hc; rw [hc]; exact digit_ne _ (List.mem_range.2 (by omega))
theorem idx_comma : ∀ (l r : List UInt8), (∀ c ∈ l, c ≠ 44) → Lib.indexByte (l ++ 44 :: r) 44 = l.length
  | [], r, _ => by simp [Lib.indexByte]
  | b :: l, r, h => by
    have hb : (b == 44) = false := by simpa using h b (by simp)
    have ih := idx_comma l r (fun c hc => h c (List.mem_cons_of_mem _ hc))
    simp only [List.cons_append, Lib.indexByte, hb, ih]
    have : ((l.length : Int) == -1) = false := by simp
    simp [this]
theorem cut_comma (l r : List UInt8) (h : ∀ c ∈ l, c ≠ 44) : Lib.cut (l ++ 44 :: r) [44] = (l, r, true) := by
  unfold Lib.cut
  rw [Lib.index_one, idx_comma l r h, if_pos (by omega)]
  simp

def cutA (s : ByteArray) : ByteArray := ⟨(Lib.cut s.data.toList [44]).1.toArray⟩
def cutZ (s : ByteArray) : ByteArray := ⟨(Lib.cut s.data.toList [44]).2.1.toArray⟩
def cutF (s : ByteArray) : Bool := (Lib.cut s.data.toList [44]).2.2
theorem cut_num (n : Nat) (h : n < 100) (r : ByteArray) : cutA (numT n ++ ⟨#[44]⟩ ++ r) = numT n ∧ cutZ (numT n ++ ⟨#[44]⟩ ++ r) = r := by
  have e : (numT n ++ (⟨#[44]⟩ : ByteArray) ++ r).data.toList = Lib.decDigits n ++ 44 :: r.data.toList := by
    simp [numT, ByteArray.data_append]
  unfold cutA cutZ
  rw [e, cut_comma _ _ (num_ne h)]
  exact ⟨rfl, rfl⟩
end Go.Proofs.YtiinifcepcaonaaDoor
