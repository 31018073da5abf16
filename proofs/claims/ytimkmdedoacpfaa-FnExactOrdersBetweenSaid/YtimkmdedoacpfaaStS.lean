/- What an exact law's walk knows of an answer that is a list of lists. -/
import Derived.Test.YtimkmdedoacpfaaGrC
import Derived.Test.YtimkmdedoacpfaaColP
namespace Go.Proofs.Ytimkmdedoacpfaa
open Go.RowKit

/-- Few rows, and none long. -/
structure FewSS (xss : List (List Int)) : Prop where
  len : xss.length ≤ 1000
  row : ∀ j, j < xss.length → (row xss j).length ≤ 1000
theorem cnt_few (xss : List (List Int)) : ∀ n, (∀ j, j < n → (row xss j).length ≤ 1000) → cnt xss n ≤ 1000 * n
  | 0, _ => by simp [cnt]
  | n + 1, h => by
    have h1 := cnt_few xss n fun j hj => h j (by omega)
    have h2 := h n (by omega)
    rw [cnt_succ]; omega
theorem FewSS.cnt {xss : List (List Int)} (h : FewSS xss) : cnt xss xss.length ≤ 1000000 := by
  have := cnt_few xss _ h.row
  have := h.len
  omega
theorem FewSS.ints {w : World} {lo hi : Nat} {v : Value} {us : List Value} {xss : List (List Int)} (f : FewSS xss) (h : OwnSS w lo hi v us xss) : IntSS w v xss :=
  h.ints (by have := f.len; unfold maxLen; omega) fun j hj => by have := f.row j hj; unfold maxLen; omega
theorem eqSS_b (v u : Value) (xss : List (List Int)) (w : World) (h : IntSS w v xss) (h' : IntSS w u xss) : Calls Try.prog 29 #[v, u] w fun e w' => e = .returned (.bool true) ∧ Below w.heap.size w w' :=
  (eqss_any v u xss w h h').mono fun _ _ ⟨he, _, hw⟩ => ⟨he, below_of_drew hw⟩
theorem markF_rowlen {xss : List (List Int)} {m : Int} {j : Nat} (hj : j < xss.length) : (row (markS xss m xss.length) j).length = (row xss j).length := by
  rw [markS_row xss m _ (Nat.le_refl _) j hj, markTo_len]
theorem markF_cnt (xss : List (List Int)) (m : Int) : ∀ n, n ≤ xss.length → cnt (markS xss m xss.length) n = cnt xss n
  | 0, _ => rfl
  | n + 1, h => by rw [cnt_succ, cnt_succ, markF_cnt xss m n (by omega), markF_rowlen (by omega)]
theorem FewSS.mark {xss : List (List Int)} (f : FewSS xss) (m : Int) : FewSS (markS xss m xss.length) :=
  ⟨by rw [markS_len]; exact f.len, fun j hj => by rw [markS_len] at hj; rw [markF_rowlen hj]; exact f.row j hj⟩
theorem mkSS_any (lo hi : Nat) (v : Value) (us : List Value) (xss : List (List Int)) (w : World) (h : Hl w (.s lo hi v us xss)) (f : FewSS xss) :
    Calls Try.prog 30 #[v, .int .i64 1] w fun e w' => e = .returned (.int .i64 (1 + (cnt xss xss.length : Int))) ∧ Hl w' (.s lo hi v us (markS xss 1 xss.length)) ∧ Outside lo hi w w' := by
  have hc := f.cnt
  have hl := f.len
  refine (markSS_any v us xss 1 lo hi w h.1 (by omega) (fun j hj => by have := f.row j hj; omega) (by omega) (by omega)).mono ?_
  rintro e w' ⟨he, ho, hout⟩
  exact ⟨he, ⟨ho, Nat.le_trans h.2 hout.size⟩, hout⟩
theorem hdSS_any (lo hi : Nat) (v : Value) (us : List Value) (xss : List (List Int)) (w : World) (h : Hl w (.s lo hi v us (markS xss 1 xss.length))) (f : FewSS xss) :
    Calls Try.prog 31 #[v, .int .i64 1] w fun e w' => e = .returned (.int .i64 (1 + (cnt xss xss.length : Int))) ∧ Below w.heap.size w w' := by
  have hc := f.cnt
  have hl := f.len
  have g := f.mark 1
  have hlen := markS_len xss 1 xss.length
  have hcnt := markF_cnt xss 1 xss.length (Nat.le_refl _)
  have := heldSS_any v (markS xss 1 xss.length) 1 w (g.ints h.1) (by rw [hlen]; omega) (fun j hj => by have := g.row j hj; omega) (by rw [hlen, hcnt]; omega) (by omega)
    (fun j hj i hi => by
      rw [hlen] at hj
      rw [markF_rowlen hj] at hi
      rw [markS_row xss 1 _ (Nat.le_refl _) j hj, markTo_nth _ _ _ (Nat.le_refl _) i hi, markF_cnt xss 1 j (by omega)])
  rw [hlen, hcnt] at this
  refine this.mono ?_
  rintro e w' ⟨he, rfl⟩
  exact ⟨he, Below.refl _ _⟩
theorem colsB_few (p : Int) (es : List Int) : FewSS (colsB p es) := by
  cases h : gkB p es
  · rw [colsB_no h]; exact ⟨by simp, fun j hj => by simp at hj⟩
  · have hg := gkB_true.1 h
    have h5 := hg.p5
    have h1 := hg.p1
    rw [colsB_yes h]
    refine ⟨?_, fun j hj => ?_⟩
    · have := solTo_len (okC es) (lots 3 p.toNat) (3 ^ p.toNat)
      have h3 : 3 ^ p.toNat ≤ 3 ^ 5 := Nat.pow_le_pow_right (by omega) (by omega)
      unfold cols
      have : (3 : Nat) ^ 5 = 243 := by decide
      omega
    · have := ((cols_mem hg).1 (row_mem hj)).1.len
      omega
end Go.Proofs.Ytimkmdedoacpfaa
