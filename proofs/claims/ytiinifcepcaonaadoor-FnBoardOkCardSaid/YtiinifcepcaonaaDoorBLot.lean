/- NumI, LotI, SlnI, in one text. -/
import Derived.Test.YtiinifcepcaonaaDoorBSol
/- impl.numberRows. -/
namespace Go.Proofs.YtiinifcepcaonaaDoor
open Go.RowKit

/-- The list of one empty list, as it is laid. -/
theorem ownSS_one (w : World) : OwnSS (w.alloc (.cells #[.slice none 0 0] 33)) w.heap.size (w.alloc (.cells #[.slice none 0 0] 33)).heap.size (.slice (some ⟨w.heap.size, 0, none⟩) 1 1) [.slice none 0 0] [[]] := by
  have h := World.ownsRow_lit (base := w.heap.size) (e := 33) (size := 1) w #[.slice none 0 0] 1 (Nat.le_refl _) (by decide) rfl
  have e0 : ∀ j, j < [Value.slice none 0 0].length → val [Value.slice none 0 0] j = .slice none 0 0 := fun j hj => by
    have : j = 0 := by simpa using hj
    subst this; rfl
  refine ⟨h, rfl, fun k hk => (h.lt k hk).2, fun j hj => ?_, fun j hj k hk => ?_, fun i j hij hj k hk _ => ?_, fun j hj k hk _ => ?_⟩
  · rw [e0 j hj]
    have : j = 0 := by simpa using hj
    subst this; exact World.ownsRow_nil _ _ _ _
  · rw [e0 j hj] at hk; simp [Value.ownBlock] at hk
  · rw [e0 i (by omega)] at hk; simp [Value.ownBlock] at hk
  · rw [e0 j hj] at hk; simp [Value.ownBlock] at hk

/-- Rows behind rows: one row more, in blocks behind all. -/
theorem OwnSS.next {wr w2 w4 : World} {lo : Nat} {v v' u : Value} {us : List Value} {xss : List (List Int)} {ys : List Int} (h : OwnSS wr lo wr.heap.size v us xss) (hlo : lo ≤ wr.heap.size) (hb : Below wr.heap.size wr w2) (hu : Own w2 wr.heap.size u ys)
    (ho : w4.ownsRow lo 33 1 v' (us ++ [u]).length (us ++ [u])) (hg : w2.grownBy w4 v.ownBlock) (hk : v'.ownBlock = v.ownBlock ∨ ∃ k, v'.ownBlock = some k ∧ w2.heap.size ≤ k) : OwnSS w4 lo w4.heap.size v' (us ++ [u]) (xss ++ [ys]) :=
  OwnSS.app (h.on hb) (Nat.le_trans hb.size hg.size) hg.size (Nat.le_refl _) (own_mono hu hlo) (fun j hj k h1 h2 => by have := h.his j hj k h1; have := (hu.lt k h2).1; omega)
    (fun k h1 h2 => by have := h.hi0 k h2; have := (hu.lt k h1).1; omega) ho hg hk
theorem OwnSS.intsAt {w : World} {lo hi : Nat} {v : Value} {us : List Value} {xss : List (List Int)} (h : OwnSS w lo hi v us xss) {j : Nat} (hj : j < xss.length) (hr : (row xss j).length ≤ maxLen) : ∃ g c, v = .slice (some ⟨g, 0, none⟩) xss.length c ∧ g < w.heap.size ∧ w.cell? ⟨g, j, none⟩ = some (val us j) ∧ Ints w (val us j) (row xss j) := by
  obtain ⟨a, c, e, h1⟩ := outer_cell h.outer
  rw [← h.len] at hj ⊢
  obtain ⟨g, rfl, e2, e3⟩ := h1 j hj
  exact ⟨g, c, e, e2, e3, Ints.of_own (h.rows j hj) hr⟩
theorem lots_row {q m j : Nat} (hj : j < (lots q m).length) : (row (lots q m) j).length = m := (lots_mem.1 (row_mem hj)).1

end Go.Proofs.YtiinifcepcaonaaDoor

/- impl.lotsOf, impl.SolutionsOf. -/
namespace Go.Proofs.YtiinifcepcaonaaDoor
open Go.RowKit

/-- A box, and perhaps a list of lists of the call's own. -/
def Kl (w : World) (P : List Value) (T : TypeId) (L : List (List Int)) (z : Option (Value × List Value)) (w' : World) : Prop := InB w P T w' ∧ ∀ v us, z = some (v, us) → OwnSS w' (w.heap.size + 1) w'.heap.size v us L
theorem OwnSS.onAll {w w' : World} {lo : Nat} {v : Value} {us : List Value} {xss : List (List Int)} (h : OwnSS w lo w.heap.size v us xss) (hb : Below w.heap.size w w') : OwnSS w' lo w'.heap.size v us xss := (h.on hb).wider hb.size
theorem Kl.on {w : World} {P : List Value} {T : TypeId} {L : List (List Int)} {z : Option (Value × List Value)} {w1 w2 : World} (h : Kl w P T L z w1) (hb : Below w1.heap.size w1 w2) : Kl w P T L z w2 := ⟨h.1.on hb, fun v us hv => (h.2 v us hv).onAll hb⟩

end Go.Proofs.YtiinifcepcaonaaDoor

/- impl.SolutionsOf. -/
namespace Go.Proofs.YtiinifcepcaonaaDoor
open Go.RowKit

/-- Of the lists in a list those that are taken, so far: in memory the same lists, in a list of its own. -/
structure SolAt (w2 wr : World) (lo : Nat) (us : List Value) (L : List (List Int)) (c : List Int → Bool) (v : Value) (us' : List Value) (k : Nat) : Prop where
  own : OwnSS wr lo wr.heap.size v us' (solTo c L k)
  new : ∀ b, v.ownBlock = some b → w2.heap.size ≤ b
  src : ∀ j, j < us'.length → ∃ i, i < k ∧ val us' j = val us i
  low : Below w2.heap.size w2 wr
theorem SolAt.start (w2 : World) (lo : Nat) (us : List Value) (L : List (List Int)) (c : List Int → Bool) : SolAt w2 w2 lo us L c (.slice none 0 0) [] 0 :=
  ⟨OwnSS.nil _ _ _, fun b hb => by simp [Value.ownBlock] at hb, fun j hj => by simp at hj, Below.refl _ _⟩
theorem SolAt.on {w2 wr w3 : World} {lo : Nat} {us : List Value} {L : List (List Int)} {c : List Int → Bool} {v : Value} {us' : List Value} {k : Nat} (h : SolAt w2 wr lo us L c v us' k) (hb : Below wr.heap.size wr w3) : SolAt w2 w3 lo us L c v us' k :=
  ⟨h.own.onAll hb, h.new, h.src, Below.on h.low hb⟩
theorem SolAt.pass {w2 wr : World} {lo : Nat} {us : List Value} {L : List (List Int)} {c : List Int → Bool} {v : Value} {us' : List Value} {k : Nat} (h : SolAt w2 wr lo us L c v us' k) (hc : c (row L k) = false) : SolAt w2 wr lo us L c v us' (k + 1) :=
  ⟨by rw [solTo_no hc]; exact h.own, h.new, fun j hj => by obtain ⟨i, hi, e⟩ := h.src j hj; exact ⟨i, by omega, e⟩, h.low⟩
theorem SolAt.take {w2 wr w4 : World} {lo : Nat} {lv : Value} {us : List Value} {L : List (List Int)} {c : List Int → Bool} {v v' : Value} {us' : List Value} {k : Nat} (h : SolAt w2 wr lo us L c v us' k) (hl : OwnSS w2 lo w2.heap.size lv us L) (hk : k < us.length) (hc : c (row L k) = true)
    (ho : w4.ownsRow lo 33 1 v' (us' ++ [val us k]).length (us' ++ [val us k])) (hg : wr.grownBy w4 v.ownBlock) (hv : v'.ownBlock = v.ownBlock ∨ ∃ b, v'.ownBlock = some b ∧ wr.heap.size ≤ b) : SolAt w2 w4 lo us L c v' (us' ++ [val us k]) (k + 1) := by
  have hr : Own wr lo (val us k) (row L k) := (hl.on h.low).rows k hk
  refine ⟨?_, fun b hb => ?_, fun j hj => ?_, h.low.grown hg h.low.size h.new⟩
  · rw [solTo_yes hc]
    refine OwnSS.app h.own hg.size hg.size (Nat.le_refl _) hr (fun j hj q h1 h2 => ?_) (fun q h1 h2 => ?_) ho hg hv
    · obtain ⟨i, hi, e⟩ := h.src j hj
      rw [e] at h1
      exact hl.apart i k hi hk q h1 h2
    · have := hl.his k hk q h1
      have := h.new q h2
      omega
  · rcases hv with hv | ⟨b', hv, hb'⟩
    · exact h.new b (by rw [← hv]; exact hb)
    · rw [hv] at hb; cases hb
      exact Nat.le_trans h.low.size hb'
  · simp at hj
    by_cases e : j < us'.length
    · obtain ⟨i, hi, e2⟩ := h.src j e
      exact ⟨i, by omega, by rw [val_app e]; exact e2⟩
    · obtain rfl : j = us'.length := by omega
      exact ⟨k, by omega, val_last⟩

theorem sols_yes {g : Int} {rows : List (List Int)} {makes : List Int} (h : clB g rows makes = true) : sols g rows makes = solTo (solvB g rows makes) (lots (ord g).toNat (unk rows)) (lots (ord g).toNat (unk rows)).length := by
  unfold sols; rw [if_pos h, lots_len]
theorem sols_no {g : Int} {rows : List (List Int)} {makes : List Int} (h : clB g rows makes = false) : sols g rows makes = [] := by
  unfold sols; rw [h]; rfl
theorem lots_le {g : Int} {rows : List (List Int)} {makes : List Int} (h : Cl g rows makes) : (lots (ord g).toNat (unk rows)).length ≤ 600 := by
  obtain ⟨o1, o2⟩ := ord_bd h.g0 h.g4
  rw [lots_len]
  have : unk rows = 1 ∨ unk rows = 2 := by have := h.u1; have := h.u2; omega
  have hq : (ord g).toNat ≤ 23 := by omega
  rcases this with e | e <;> rw [e]
  · simp; omega
  · rw [Nat.pow_two]
    exact Nat.le_trans (Nat.mul_le_mul hq hq) (by decide)
theorem lots_has {g : Int} {rows : List (List Int)} {makes : List Int} (h : Cl g rows makes) {k : Nat} (hk : k < (lots (ord g).toNat (unk rows)).length) : (row (lots (ord g).toNat (unk rows)) k).length ≤ 2 := by
  rw [lots_row hk]; exact h.u2

end Go.Proofs.YtiinifcepcaonaaDoor
