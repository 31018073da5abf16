/- impl.AnswersMany. -/
import Derived.Test.YtclihkcigppgjaaDoorIdxI
import Derived.Test.YtclihkcigppgjaaDoorMkI
import Derived.Test.YtclihkcigppgjaaDoorSlnI
namespace Go.Proofs.YtclihkcigppgjaaDoor
open Go.RowKit

def ansTo (h : Nat → Bool) : Nat → Nat
  | 0 => 0
  | k + 1 => if h k then ansTo h k + 1 else ansTo h k
theorem ansTo_yes {h : Nat → Bool} {k : Nat} (e : h k = true) : ansTo h (k + 1) = ansTo h k + 1 := by simp [ansTo, e]
theorem ansTo_no {h : Nat → Bool} {k : Nat} (e : h k = false) : ansTo h (k + 1) = ansTo h k := by simp [ansTo, e]
theorem ansTo_le (h : Nat → Bool) : ∀ k, ansTo h k ≤ k
  | 0 => Nat.le_refl _
  | k + 1 => by
    have := ansTo_le h k
    unfold ansTo; split <;> omega
theorem ansTo_congr {h h' : Nat → Bool} : ∀ {n : Nat}, (∀ k, k < n → h k = h' k) → ansTo h n = ansTo h' n
  | 0, _ => rfl
  | n + 1, e => by unfold ansTo; rw [ansTo_congr fun k hk => e k (by omega), e n (by omega)]
/-- What all lots make. -/
def mkRows (g : Int) (rows L : List (List Int)) : Nat → List (List Int)
  | 0 => []
  | k + 1 => mkRows g rows L k ++ [mkAll g rows (row L k)]
theorem mkRows_len (g : Int) (rows L : List (List Int)) : ∀ k, (mkRows g rows L k).length = k
  | 0 => rfl
  | k + 1 => by unfold mkRows; rw [List.length_append, mkRows_len g rows L k]; rfl
theorem mkRows_row (g : Int) (rows L : List (List Int)) : ∀ n k, k < n → row (mkRows g rows L n) k = mkAll g rows (row L k)
  | 0, k, h => by omega
  | n + 1, k, h => by
    unfold mkRows
    by_cases e : k < n
    · rw [row_app (by rw [mkRows_len]; exact e)]; exact mkRows_row g rows L n k e
    · obtain rfl : k = n := by omega
      have := row_last (xss := mkRows g rows L k) (ys := mkAll g rows (row L k))
      rwa [mkRows_len] at this
/-- To how many questions there are answers. -/
def ansM (g : Int) (rows : List (List Int)) (makes says : List Int) : Int :=
  if saysB g rows makes says then (ansTo (fun a => anyTo (fun k => wokB g rows makes says a (row (lots (ord g).toNat (unk rows)) k)) (lots (ord g).toNat (unk rows)).length) (ord g).toNat : Int) else -1
theorem ansM_no {g : Int} {rows : List (List Int)} {makes says : List Int} (h : saysB g rows makes says = false) : ansM g rows makes says = -1 := by simp [ansM, h]
theorem ansM_yes {g : Int} {rows : List (List Int)} {makes says : List Int} (h : saysB g rows makes says = true) :
    ansM g rows makes says = (ansTo (fun a => anyTo (fun k => sameB (row (mkRows g rows (lots (ord g).toNat (unk rows)) (lots (ord g).toNat (unk rows)).length) k) (timesAll g says makes a)) (lots (ord g).toNat (unk rows)).length) (ord g).toNat : Int) := by
  obtain ⟨hcl, _, _⟩ := saysB_true.1 h
  unfold ansM
  rw [if_pos h]
  congr 1
  refine ansTo_congr fun a ha => anyTo_congr fun k hk => ?_
  have hl : lotB g rows makes (row (lots (ord g).toNat (unk rows)) k) = true := lotB_true.2 ((ex_lots hcl).1 (row_mem hk))
  have hx : exB g (a : Int) = true := exB_true.2 ⟨⟨hcl.g0, hcl.g4⟩, by omega, by omega⟩
  rw [wok_parts, h, hl, hx, mkRows_row g rows _ _ k hk]
  rfl
theorem lots_lot {g : Int} {rows : List (List Int)} {makes : List Int} (h : Cl g rows makes) {k : Nat} (hk : k < (lots (ord g).toNat (unk rows)).length) : lotB g rows makes (row (lots (ord g).toNat (unk rows)) k) = true := lotB_true.2 ((ex_lots h).1 (row_mem hk))

end Go.Proofs.YtclihkcigppgjaaDoor
