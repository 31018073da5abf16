/- spec.l3All. -/
import Derived.Test.YtiinifcepcaonaaDoorBLot
import Derived.Test.YtiinifcepcaonaaDoorMkS
namespace Go.Proofs.YtiinifcepcaonaaDoor
open Go.RowKit

def Full (us : List Value) : Prop := ∀ j, j < us.length → ∃ g n c, val us j = .slice (some ⟨g, 0, none⟩) n c
theorem Full.nil : Full [] := fun j hj => by simp at hj
theorem Full.app {us : List Value} {g n c : Nat} (h : Full us) : Full (us ++ [.slice (some ⟨g, 0, none⟩) n c]) := fun j hj => by
  by_cases e : j < us.length
  · rw [val_app e]; exact h j e
  · obtain rfl : j = us.length := by simp at hj; omega
    exact ⟨g, n, c, val_last⟩
theorem own_slice {w : World} {B : Nat} {v : Value} {xs : List Int} (h : Own w B v xs) (hx : 0 < xs.length) : ∃ g c, v = .slice (some ⟨g, 0, none⟩) xs.length c := by
  rcases id h.2 with ⟨rfl, hn⟩ | ⟨g, cap, cur, rfl, _⟩
  · omega
  · exact ⟨_, _, rfl⟩
theorem own_cell {w : World} {B g n c : Nat} {xs : List Int} (h : Own w B (.slice (some ⟨g, 0, none⟩) n c) xs) (hm : xs.length ≤ maxLen) {j : Nat} (hj : j < xs.length) : g < w.heap.size ∧ w.cell? ⟨g, j, none⟩ = some (.int .i64 (nth xs j)) := by
  obtain ⟨a, c', e, h1⟩ := (Ints.of_own h hm).opened
  obtain ⟨g', e', h2, h3⟩ := h1.get j hj
  subst e'
  cases e
  exact ⟨h2, h3⟩

theorem ownSS_one' (w : World) : OwnSS ((w.alloc (.cells #[] 3)).alloc (.cells #[.slice (some ⟨w.heap.size, 0, none⟩) 0 0] 33)) w.heap.size ((w.alloc (.cells #[] 3)).alloc (.cells #[.slice (some ⟨w.heap.size, 0, none⟩) 0 0] 33)).heap.size (.slice (some ⟨w.heap.size + 1, 0, none⟩) 1 1) [.slice (some ⟨w.heap.size, 0, none⟩) 0 0] [[]] := by
  have h := World.ownsRow_lit (base := w.heap.size) (e := 33) (size := 1) (w.alloc (.cells #[] 3)) #[.slice (some ⟨w.heap.size, 0, none⟩) 0 0] 1 (by simp) (by decide) rfl
  have hs : (w.alloc (.cells #[] 3)).heap.size = w.heap.size + 1 := by simp
  rw [hs] at h
  have e0 : ∀ j, j < [Value.slice (some ⟨w.heap.size, 0, none⟩) 0 0].length → j = 0 := fun j hj => by simpa using hj
  refine ⟨h, rfl, fun k hk => (h.lt k hk).2, fun j hj => ?_, fun j hj k hk => ?_, fun i j hij hj k hk _ => ?_, fun j hj k hk hk' => ?_⟩
  · rw [e0 j hj]; exact own_below (own_made' w) (below_grow _ _)
  · rw [e0 j hj] at hk
    have : k = w.heap.size := by simpa [val, Value.ownBlock] using hk.symm
    subst this; simp; omega
  · have := e0 j hj; omega
  · rw [e0 j hj] at hk
    have h1 : k = w.heap.size := by simpa [val, Value.ownBlock] using hk.symm
    have h2 : k = w.heap.size + 1 := by simpa [Value.ownBlock] using hk'.symm
    omega
theorem ownSS_none (w : World) : OwnSS (w.alloc (.cells #[] 33)) w.heap.size (w.alloc (.cells #[] 33)).heap.size (.slice (some ⟨w.heap.size, 0, none⟩) 0 0) [] [] := by
  have h := World.ownsRow_lit (base := w.heap.size) (e := 33) (size := 1) w #[] 0 (Nat.le_refl _) (by decide) rfl
  exact ⟨h, rfl, fun k hk => (h.lt k hk).2, fun j hj => by simp at hj, fun j hj => by simp at hj, fun i j _ hj => by simp at hj, fun j hj => by simp at hj⟩

end Go.Proofs.YtiinifcepcaonaaDoor
