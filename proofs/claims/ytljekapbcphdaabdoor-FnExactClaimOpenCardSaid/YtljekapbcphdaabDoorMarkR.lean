/- A list of solutions: how long; compared, marked, looked at. -/
import Derived.Test.YtljekapbcphdaabDoorMark
import Derived.Test.YtljekapbcphdaabDoorSlnS
namespace Go.Proofs.YtljekapbcphdaabDoor
open Go.RowKit

theorem solTo_from {c : List Int → Bool} {xss : List (List Int)} : ∀ {k : Nat} {y : List Int}, y ∈ solTo c xss k → ∃ i, i < k ∧ y = row xss i
  | 0, y, h => by simp [solTo] at h
  | k + 1, y, h => by
    cases hc : c (row xss k)
    · rw [solTo_no hc] at h
      obtain ⟨i, hi, e⟩ := solTo_from h
      exact ⟨i, by omega, e⟩
    · rw [solTo_yes hc, List.mem_append] at h
      rcases h with h | h
      · obtain ⟨i, hi, e⟩ := solTo_from h
        exact ⟨i, by omega, e⟩
      · exact ⟨k, by omega, by simpa using h⟩
theorem sols_len (g : Int) (rows : List (List Int)) (makes : List Int) : (sols g rows makes).length ≤ 600 := by
  cases hb : clB g rows makes
  · rw [sols_no hb]; simp
  · rw [sols_yes hb]
    exact Nat.le_trans (solTo_len _ _ _) (lots_le (clB_true.1 hb))
theorem sols_row (g : Int) (rows : List (List Int)) (makes : List Int) (j : Nat) (hj : j < (sols g rows makes).length) : (row (sols g rows makes) j).length ≤ 2 := by
  have hm := row_mem hj
  cases hb : clB g rows makes
  · rw [sols_no hb] at hj; simp at hj
  · rw [sols_yes hb] at hm ⊢
    obtain ⟨i, hi, e⟩ := solTo_from hm
    rw [e]; exact lots_has (clB_true.1 hb) hi
theorem cnt_le2 (xss : List (List Int)) : ∀ n, (∀ j, j < n → (row xss j).length ≤ 2) → cnt xss n ≤ 2 * n
  | 0, _ => by simp [cnt]
  | n + 1, h => by
    have h1 := cnt_le2 xss n fun j hj => h j (by omega)
    have h2 := h n (by omega)
    rw [cnt_succ]; omega
theorem ssOf {w : World} {lo hi : Nat} {v : Value} {us : List Value} {xss : List (List Int)} (hl : xss.length ≤ 600) (hr : ∀ j, j < xss.length → (row xss j).length ≤ 2) (h : OwnSS w lo hi v us xss) : IntSS w v xss :=
  h.ints (by unfold maxLen; omega) fun j hj => by have := hr j hj; unfold maxLen; omega
theorem OwnSS.lowSS {w w' : World} {lo hi a b : Nat} {v : Value} {us : List Value} {xss : List (List Int)} (h : OwnSS w a b v us xss) (ho : Outside lo hi w w') (h1 : b ≤ lo) (h2 : b ≤ w.heap.size) : OwnSS w' a b v us xss :=
  h.heap fun k _ hk => ho.block k (by omega) (.inl (by omega))
theorem markS_rowlen {xss : List (List Int)} {m : Int} {j : Nat} (hj : j < xss.length) : (row (markS xss m xss.length) j).length = (row xss j).length := by
  rw [markS_row xss m _ (Nat.le_refl _) j hj, markTo_len]
theorem markS_cnt (xss : List (List Int)) (m : Int) : ∀ k, k ≤ xss.length → cnt (markS xss m xss.length) k = cnt xss k
  | 0, _ => rfl
  | k + 1, hk => by rw [cnt_succ, cnt_succ, markS_cnt xss m k (by omega), markS_rowlen (by omega)]
theorem held_marked {lo hi : Nat} {v : Value} {us : List Value} {xss : List (List Int)} {w : World} (hl : xss.length ≤ 600) (hr : ∀ j, j < xss.length → (row xss j).length ≤ 2) (h : OwnSS w lo hi v us (markS xss 1 xss.length)) :
    Calls Tryd.prog 57 #[v, .int .i64 1] w fun e w' => e = .returned (.int .i64 (1 + cnt xss xss.length)) ∧ w = w' := by
  have hc := cnt_le2 xss _ hr
  have hr' : ∀ j, j < (markS xss 1 xss.length).length → (row (markS xss 1 xss.length) j).length ≤ 2 := fun j hj => by
    rw [markS_len] at hj
    rw [markS_rowlen hj]; exact hr j hj
  have hlen := markS_len xss 1 xss.length
  have hcnt := markS_cnt xss 1 xss.length (Nat.le_refl _)
  have := heldSS_any v (markS xss 1 xss.length) 1 w (ssOf (by rw [hlen]; exact hl) hr' h) (by rw [hlen]; omega) (fun j hj => by have := hr' j hj; omega) (by rw [hlen, hcnt]; omega) (by omega)
    (fun j hj i hi => by
      rw [hlen] at hj
      rw [markS_rowlen hj] at hi
      rw [markS_row xss 1 _ (Nat.le_refl _) j hj, markTo_nth _ _ _ (Nat.le_refl _) i hi, markS_cnt xss 1 j (by omega)])
  rwa [hlen, hcnt] at this
end Go.Proofs.YtljekapbcphdaabDoor
