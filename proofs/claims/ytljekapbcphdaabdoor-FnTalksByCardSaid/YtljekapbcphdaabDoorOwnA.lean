/- Lists of questions at places, in memory: two cells each. -/
import Derived.Test.YtljekapbcphdaabDoorBPurV
import Derived.Test.YtljekapbcphdaabDoorImplT
import Derived.Test.YtljekapbcphdaabDoorBRd
namespace Go.Proofs.YtljekapbcphdaabDoor
open Go.RowKit

def encA (x : Int × Int) : List Value := [.int .i64 x.1, .int .i64 x.2]
abbrev OwnA (w : World) (B : Nat) (v : Value) (d : List (Int × Int)) : Prop := w.ownsRow B 91 2 v d.length (d.flatMap encA)
theorem ownA_below {w w' : World} {B : Nat} {v : Value} {d : List (Int × Int)} (h : OwnA w B v d) (hb : Below w.heap.size w w') : OwnA w' B v d := by
  have hg : w.grownBy w' none := ⟨hb.os, hb.tape, hb.output, hb.size, fun k hk _ => hb.block k hk⟩
  exact h.kept hg (by cases hv : v.ownBlock <;> simp)
theorem infoAt : (Tryd.prog.info? 91).map (fun i => (i.zero, i.size, i.bytes)) = some (some (.agg #[.int .i64 0, .int .i64 0]), 2, 16) := by kernel_rfl
theorem flatA_get : ∀ (d : List (Int × Int)) (t : Nat), t < d.length * 2 → (d.flatMap encA)[t]? = some ((encA (d[t / 2]!))[t % 2]!)
  | [], t, h => by simp at h
  | x :: d, t, h => by
    rw [List.flatMap_cons]
    by_cases ht : t < 2
    · rw [List.getElem?_append_left (by simp [encA]; omega)]
      rw [show t / 2 = 0 by omega, show t % 2 = t by omega]
      match t, ht with
      | 0, _ => rfl
      | 1, _ => rfl
    · obtain ⟨s, rfl⟩ : ∃ s, t = s + 2 := ⟨t - 2, by omega⟩
      rw [List.getElem?_append_right (by simp [encA])]
      have e : s + 2 - (encA x).length = s := by simp [encA]
      rw [e, flatA_get d s (by simp at h; omega), show (s + 2) / 2 = s / 2 + 1 by omega, show (s + 2) % 2 = s % 2 by omega]
      simp
theorem ownA_at {w : World} {B g n cap : Nat} {d : List (Int × Int)} (h : OwnA w B (.slice (some ⟨g, 0, none⟩) n cap) d) (hn : d.length = n) {i : Nat} (hi : i < n) :
    w.cell? ⟨g, i * 2, none⟩ = some (.int .i64 (d[i]!).1) ∧ w.cell? ⟨g, i * 2 + 1, none⟩ = some (.int .i64 (d[i]!).2) := by
  subst hn
  have c : ∀ j, j < 2 → w.cell? ⟨g, i * 2 + j, none⟩ = some ((encA (d[i]!))[j]!) := fun j hj => by
    rw [h.cellAt (i * 2 + j) (by omega), flatA_get d (i * 2 + j) (by omega), show (i * 2 + j) / 2 = i by omega, show (i * 2 + j) % 2 = j by omega]
  exact ⟨c 0 (by omega), c 1 (by omega)⟩
theorem ownA_form {w : World} {B : Nat} {v : Value} {d : List (Int × Int)} (h : OwnA w B v d) (hp : 0 < d.length) : ∃ g cap, v = .slice (some ⟨g, 0, none⟩) d.length cap := by
  rcases id h.2 with ⟨rfl, h0⟩ | ⟨g, cap, cur, rfl, _⟩
  · omega
  · exact ⟨_, _, rfl⟩
/-- The places and the values of such a list. -/
def plD (d : List (Int × Int)) : List Int := d.map (·.1)
def vlD (d : List (Int × Int)) : List Int := d.map (·.2)
theorem plD_len (d : List (Int × Int)) : (plD d).length = d.length := by unfold plD; simp
theorem plD_nth (d : List (Int × Int)) {k : Nat} (hk : k < d.length) : nth (plD d) k = (d[k]!).1 := by
  unfold plD nth; simp [List.getD_eq_getElem?_getD, hk]
theorem vlD_nth (d : List (Int × Int)) {k : Nat} (hk : k < d.length) : nth (vlD d) k = (d[k]!).2 := by
  unfold vlD nth; simp [List.getD_eq_getElem?_getD, hk]
theorem lagF_sec (g one place other : Int) : secretOf g one place other other = lagF g place other one := by
  unfold secretOf lagF
  rw [modmul]
/-- What a list of questions at places must keep. -/
structure AtOk (g : Int) (d : List (Int × Int)) : Prop where
  pos : 0 < d.length
  len : d.length ≤ 5
  pl : ∀ k, k < d.length → exB g (d[k]!).1 = true
  vl : ∀ k, k < d.length → exB g (d[k]!).2 = true
  ne : ∀ i j, i < d.length → j < d.length → j ≠ i → (d[i]!).1 ≠ (d[j]!).1
theorem lag_fit {g : Int} (h0 : 0 ≤ g) (h4 : g < 4) {ps : List Int} {x v : Int} {i j : Nat} (v0 : 0 ≤ v) (v1 : v ≤ 22) (hj : j < 5) (p r : Int) : 0 ≤ lagP g ps x v i j ∧ lagP g ps x v i j ≤ 113379904 ∧ 0 ≤ lagF g x p r ∧ lagF g x p r ≤ 22 ∧ 0 ≤ lagP g ps x v i j * lagF g x p r ∧ lagP g ps x v i j * lagF g x p r ≤ 2494357888 := by
  obtain ⟨a, b⟩ := lagP_bd h0 h4 (ps := ps) (x := x) (i := i) v0 v1 j
  obtain ⟨c, d⟩ := lagF_bd h0 h4 x p r
  have ho := ord_bd h0 h4
  have hb : (22 : Int) * 22 ^ j ≤ 113379904 := by
    rcases (show j = 0 ∨ j = 1 ∨ j = 2 ∨ j = 3 ∨ j = 4 by omega) with rfl | rfl | rfl | rfl | rfl <;> decide
  have hp : lagP g ps x v i j ≤ 113379904 := Int.le_trans b hb
  refine ⟨a, hp, c, by omega, Int.mul_nonneg a c, ?_⟩
  exact Int.le_trans (Int.mul_le_mul hp (show lagF g x p r ≤ 22 by omega) c (by omega)) (by decide)
theorem lag_fit5 {g : Int} (h0 : 0 ≤ g) (h4 : g < 4) {ps : List Int} {x v : Int} {i j : Nat} (v0 : 0 ≤ v) (v1 : v ≤ 22) (hj : j ≤ 5) : 0 ≤ lagP g ps x v i j ∧ lagP g ps x v i j ≤ 113379904 := by
  obtain ⟨a, b⟩ := lagP_bd h0 h4 (ps := ps) (x := x) (i := i) v0 v1 j
  refine ⟨a, Int.le_trans b ?_⟩
  rcases (show j = 0 ∨ j = 1 ∨ j = 2 ∨ j = 3 ∨ j = 4 ∨ j = 5 by omega) with rfl | rfl | rfl | rfl | rfl | rfl <;> decide
theorem ownA_mono {w : World} {B B' : Nat} {v : Value} {d : List (Int × Int)} (h : OwnA w B v d) (hB : B' ≤ B) : OwnA w B' v d := by
  obtain ⟨h1, h2⟩ := h
  refine ⟨h1, ?_⟩
  rcases h2 with h2 | ⟨g, cap, cur, hv, hg, r⟩
  · exact .inl h2
  · exact .inr ⟨g, cap, cur, hv, Nat.le_trans hB hg, r⟩
theorem ownA_one (w : World) (p v : Int) : OwnA (w.alloc (.cells #[.int .i64 p, .int .i64 v] 91)) w.heap.size (.slice (some ⟨w.heap.size, 0, none⟩) 1 1) [(p, v)] :=
  ⟨rfl, .inr ⟨w.heap.size, 1, #[.int .i64 p, .int .i64 v], rfl, Nat.le_refl _, heap_alloc_new w _, Nat.le_refl _, by unfold maxLen; omega, rfl, rfl⟩⟩
theorem ownA_step {w w3 w4 : World} {B : Nat} {v v' : Value} {a b : Int} {d : List (Int × Int)} {o : Obj} (hown : OwnA w3 B v d) (hB : w.heap.size ≤ B) (hb : Below w.heap.size w w3)
    (hown' : w4.ownsRow B 91 2 v' (d.length + 1) (d.flatMap encA ++ [.int .i64 a, .int .i64 b])) (hg : (w3.alloc o).grownBy w4 v.ownBlock) :
    OwnA w4 B v' (d ++ [(a, b)]) ∧ Below w.heap.size w w4 :=
  ⟨by unfold OwnA; rw [List.length_append, List.flatMap_append]; simpa [encA] using hown', (hb.alloc hb.size o).grown hg (by simp; have := hb.size; omega) (fun j hj => Nat.le_trans hB (hown.lt j hj).1)⟩
/-- The whole question at 0, and the first m others at their places. -/
def frP (ask : Int) (asks : List Int) : Nat → List (Int × Int)
  | 0 => [(0, ask)]
  | m + 1 => frP ask asks m ++ [((m : Int) + 1, nth asks m)]
theorem frP_succ (ask : Int) (asks : List Int) (m : Nat) : frP ask asks (m + 1) = frP ask asks m ++ [((m : Int) + 1, nth asks m)] := rfl
theorem frP_len (ask : Int) (asks : List Int) : ∀ m, (frP ask asks m).length = m + 1
  | 0 => rfl
  | m + 1 => by rw [frP_succ, List.length_append, frP_len ask asks m]; rfl
theorem plD_frP (ask : Int) (asks : List Int) : ∀ m, plD (frP ask asks m) = nodes m
  | 0 => rfl
  | m + 1 => by rw [frP_succ]; unfold plD nodes; rw [List.map_append]; rw [show List.map (·.1) (frP ask asks m) = nodes m from plD_frP ask asks m]; rfl
theorem vlD_frP (ask : Int) (asks : List Int) : ∀ m, vlD (frP ask asks m) = frees ask asks m
  | 0 => rfl
  | m + 1 => by rw [frP_succ]; unfold vlD frees; rw [List.map_append]; rw [show List.map (·.2) (frP ask asks m) = frees ask asks m from vlD_frP ask asks m]; rfl
theorem frP_ok {g ask : Int} {asks : List Int} {m : Nat} (h0 : 0 ≤ g) (h4 : g < 4) (hm : m ≤ 4) (hl : (m : Int) < ord g) (ha : exB g ask = true) (hx : ∀ k, k < m → exB g (nth asks k) = true) : AtOk g (frP ask asks m) := by
  have hp : ∀ k, k < (frP ask asks m).length → ((frP ask asks m)[k]!).1 = (k : Int) := fun k hk => by
    rw [← plD_nth _ hk, plD_frP, nodes_nth m k (by rw [frP_len] at hk; omega)]
  have hv : ∀ k, k < (frP ask asks m).length → ((frP ask asks m)[k]!).2 = if k = 0 then ask else nth asks (k - 1) := fun k hk => by
    rw [← vlD_nth _ hk, vlD_frP, frees_nth ask asks m k (by rw [frP_len] at hk; omega)]
  refine ⟨by rw [frP_len]; omega, by rw [frP_len]; omega, fun k hk => ?_, fun k hk => ?_, fun i j hi hj hne => ?_⟩
  · rw [hp k hk]; rw [frP_len] at hk; exact exB_true.2 ⟨⟨h0, h4⟩, by omega, by omega⟩
  · rw [hv k hk]; rw [frP_len] at hk
    by_cases e : k = 0
    · rw [if_pos e]; exact ha
    · rw [if_neg e]; exact hx (k - 1) (by omega)
  · rw [hp i hi, hp j hj]; omega
end Go.Proofs.YtljekapbcphdaabDoor
