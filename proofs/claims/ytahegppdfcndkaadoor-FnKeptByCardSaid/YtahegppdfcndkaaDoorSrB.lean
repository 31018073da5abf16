/- spec.l2Sorted: an insertion sort with swaps, over a copy. -/
import Derived.Test.YtahegppdfcndkaaDoorBTalk
import Derived.Test.YtahegppdfcndkaaDoorSrA
import Derived.Laws.AppendOwnNone
import Derived.Laws.OwnMore
namespace Go.Proofs.YtahegppdfcndkaaDoor
open Go.RowKit

/-- What is asked of spec.l2Sorted. -/
def SortS : Prop := ∀ (w : World) (B : Nat) (v : Value) (ask : Int → Int) (d : List (Int × Int)), d.length ≤ 23 → OwnT w B v ask d →
  Calls Tryd.prog 32 #[v] w fun e w' => ∃ v', e = .returned v' ∧ OwnT w' w.heap.size v' ask (sortP d) ∧ Below w.heap.size w w'
theorem ownT_made (w : World) (T : TypeId) (hT : T = 37) (ask : Int → Int) : OwnT (w.alloc (.cells #[] T)) w.heap.size (.slice (some ⟨w.heap.size, 0, none⟩) 0 0) ask [] := by
  subst hT
  exact World.ownsRow_made w #[] 0 (Nat.le_refl _) (Nat.zero_le _) rfl
theorem sless_raw (s a t s' a' t' : Int) (ha : s = s' → a = a') (w : World) : Calls Tryd.prog 56 #[.agg #[.int .i64 s, .int .i64 a, .int .i64 t], .agg #[.int .i64 s', .int .i64 a', .int .i64 t']] w fun e w' => e = .returned (.bool (ltP (s, t) (s', t'))) ∧ Below w.heap.size w w' := by
  have HB0 := B2x.start w s a t s' a' t'
  obtain ⟨⟨c0, c1, c2⟩, d0, d1, d2⟩ := B2x.cells HB0
  by_cases h1 : s = s'
  · have HX := Lib.hid (show ltP (s, t) (s', t') = decide (t < t') by unfold ltP; simp [h1])
    have e1 : (s != s') = false := by simpa using h1
    have e2 : (a != a') = false := by simpa using ha h1
    clear h1 ha
    go_enter Tryd.func56, Tryd.ntmps56
    go_wp2
    go_ret
    exact ⟨ret_bool HX.out.symm, B2x.fin HB0⟩
  · have HX := Lib.hid (show ltP (s, t) (s', t') = decide (s < s') by unfold ltP; simp [h1])
    have e1 : (s != s') = true := by simpa using h1
    clear h1 ha
    go_enter Tryd.func56, Tryd.ntmps56
    go_wp2
    go_ret
    exact ⟨ret_bool HX.out.symm, B2x.fin HB0⟩
theorem sless_any (x y : Int × Int) (ask : Int → Int) (w : World) : Calls Tryd.prog 56 #[.agg #[.int .i64 x.1, .int .i64 (ask x.1), .int .i64 x.2], .agg #[.int .i64 y.1, .int .i64 (ask y.1), .int .i64 y.2]] w fun e w' => e = .returned (.bool (ltP x y)) ∧ Below w.heap.size w w' :=
  sless_raw x.1 (ask x.1) x.2 y.1 (ask y.1) y.2 (fun e => by rw [e]) w

/-- Element i of an owned list, as its three cells. -/
theorem ownT_at {w : World} {B g n cap : Nat} {ask : Int → Int} {d : List (Int × Int)} (h : OwnT w B (.slice (some ⟨g, 0, none⟩) n cap) ask d) (hn : d.length = n) {i : Nat} (hi : i < n) :
    w.cell? ⟨g, i * 3, none⟩ = some (.int .i64 (d[i]!).1) ∧ w.cell? ⟨g, i * 3 + 1, none⟩ = some (.int .i64 (ask (d[i]!).1)) ∧ w.cell? ⟨g, i * 3 + 2, none⟩ = some (.int .i64 (d[i]!).2) := by
  subst hn
  have c : ∀ j, j < 3 → w.cell? ⟨g, i * 3 + j, none⟩ = some ((encT ask (d[i]!))[j]!) := fun j hj => by
    rw [h.cellAt (i * 3 + j) (by omega), flat_get ask d (i * 3 + j) (by omega), show (i * 3 + j) / 3 = i by omega, show (i * 3 + j) % 3 = j by omega]
  exact ⟨c 0 (by omega), c 1 (by omega), c 2 (by omega)⟩
theorem set_flat (ask : Int → Int) (x : Int × Int) : ∀ (d : List (Int × Int)) (i : Nat), i < d.length →
    (((d.flatMap (encT ask)).set (i * 3) (.int .i64 x.1)).set (i * 3 + 1) (.int .i64 (ask x.1))).set (i * 3 + 2) (.int .i64 x.2) = (d.set i x).flatMap (encT ask)
  | [], _, h => by simp at h
  | y :: d, 0, _ => by simp [encT]
  | y :: d, i + 1, h => by
    have ih := set_flat ask x d i (by simpa using h)
    rw [List.set_cons_succ, List.flatMap_cons, List.flatMap_cons, ← ih]
    have e : ∀ (m : Nat) (l : List Value) (v : Value), (encT ask y ++ l).set (m + 3) v = encT ask y ++ l.set m v := fun m l v => by
      rw [List.set_append_right _ _ (by simp [encT])]; simp [encT]
    rw [show (i + 1) * 3 = i * 3 + 3 by omega, show i * 3 + 3 + 1 = i * 3 + 1 + 3 by omega, show i * 3 + 3 + 2 = i * 3 + 2 + 3 by omega, e, e, e]
/-- A talk stored into an owned list. -/
theorem ownT_set {w : World} {B g n cap : Nat} {ask : Int → Int} {d : List (Int × Int)} (h : OwnT w B (.slice (some ⟨g, 0, none⟩) n cap) ask d) (hn : d.length = n) {i : Nat} (hi : i < n) (x : Int × Int) :
    OwnT (((w.setCell ⟨g, i * 3, none⟩ (.int .i64 x.1)).setCell ⟨g, i * 3 + 1, none⟩ (.int .i64 (ask x.1))).setCell ⟨g, i * 3 + 2, none⟩ (.int .i64 x.2)) B (.slice (some ⟨g, 0, none⟩) n cap) ask (d.set i x) := by
  subst hn
  unfold OwnT
  rw [List.length_set, ← set_flat ask x d i hi]
  exact (((h.stored (i * 3) (.int .i64 x.1)).1.stored (i * 3 + 1) (.int .i64 (ask x.1))).1.stored (i * 3 + 2) (.int .i64 x.2)).1
end Go.Proofs.YtahegppdfcndkaaDoor
