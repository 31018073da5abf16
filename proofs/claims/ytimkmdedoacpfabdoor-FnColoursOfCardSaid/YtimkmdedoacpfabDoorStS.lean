/- What an exact law's walk knows of an answer that is a list of lists. -/
import Derived.Test.YtimkmdedoacpfabDoorGrC
import Derived.Test.YtimkmdedoacpfabDoorColP
namespace Go.Proofs.YtimkmdedoacpfabDoor
open Go.RowKit

/-- Few rows, and none long. -/
structure FewSS (xss : List (List Int)) : Prop where
  len : xss.length ≤ 1000
  row : ∀ j, j < xss.length → (row xss j).length ≤ 1000
theorem cnt_few (xss : List (List Int)) : ∀ n, (∀ j, j < n → (row xss j).length ≤ 1000) → cnt xss n ≤ 1000 * n
  | 0, _ => by simp [cnt]
  | n + 1, h => by
    have h1 := cnt_few xss n fun j hj => h j (by omega)
    have h2 := h n (by omega)
    rw [cnt_succ]; omega
theorem FewSS.cnt {xss : List (List Int)} (h : FewSS xss) : cnt xss xss.length ≤ 1000000 := by
  have := cnt_few xss _ h.row
  have := h.len
  omega
theorem FewSS.ints {w : World} {lo hi : Nat} {v : Value} {us : List Value} {xss : List (List Int)} (f : FewSS xss) (h : OwnSS w lo hi v us xss) : IntSS w v xss :=
  h.ints (by have := f.len; unfold maxLen; omega) fun j hj => by have := f.row j hj; unfold maxLen; omega
theorem markF_rowlen {xss : List (List Int)} {m : Int} {j : Nat} (hj : j < xss.length) : (row (markS xss m xss.length) j).length = (row xss j).length := by
  rw [markS_row xss m _ (Nat.le_refl _) j hj, markTo_len]
theorem markF_cnt (xss : List (List Int)) (m : Int) : ∀ n, n ≤ xss.length → cnt (markS xss m xss.length) n = cnt xss n
  | 0, _ => rfl
  | n + 1, h => by rw [cnt_succ, cnt_succ, markF_cnt xss m n (by omega), markF_rowlen (by omega)]
theorem FewSS.mark {xss : List (List Int)} (f : FewSS xss) (m : Int) : FewSS (markS xss m xss.length) :=
  ⟨by rw [markS_len]; exact f.len, fun j hj => by rw [markS_len] at hj; rw [markF_rowlen hj]; exact f.row j hj⟩
theorem colsB_few (p : Int) (es : List Int) : FewSS (colsB p es) := by
  cases h : gkB p es
  · rw [colsB_no h]; exact ⟨by simp, fun j hj => by simp at hj⟩
  · have hg := gkB_true.1 h
    have h5 := hg.p5
    have h1 := hg.p1
    rw [colsB_yes h]
    refine ⟨?_, fun j hj => ?_⟩
    · have := solTo_len (okC es) (lots 3 p.toNat) (3 ^ p.toNat)
      have h3 : 3 ^ p.toNat ≤ 3 ^ 5 := Nat.pow_le_pow_right (by omega) (by omega)
      unfold cols
      have : (3 : Nat) ^ 5 = 243 := by decide
      omega
    · have := ((cols_mem hg).1 (row_mem hj)).1.len
      omega
end Go.Proofs.YtimkmdedoacpfabDoor
