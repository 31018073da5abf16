/- sameBoard of two boards of the same notes. -/
import Derived.Test.YtiinifcepcaonaaDoorBrdI
import Derived.Test.YtiinifcepcaonaaDoorNtC
namespace Go.Proofs.YtiinifcepcaonaaDoor
open Go.RowKit

structure Sb (W : World) (P R : List Value) (v u : Value) (ns : List Nt) (w' : World) : Prop where
  b0 : Box w' W.heap.size P
  b1 : Box w' (W.heap.size + 1) R
  tn : Tn W v u ns w'
theorem Sb.on {W w w' : World} {P R : List Value} {v u : Value} {ns : List Nt} (h : Sb W P R v u ns w) (hb : Below w.heap.size w w') : Sb W P R v u ns w' := ⟨h.b0.on hb, h.b1.on hb, (Tn.on (Lib.hid h.tn) hb).out⟩
set_option maxHeartbeats 3200000 in
theorem sbd_any (p : Int) (v u : Value) (ns : List Nt) (w : World) (h : Nts w v ns) (h' : Nts w u ns) :
    Calls Tryd.prog 28 #[.agg #[.int .i64 p, v], .agg #[.int .i64 p, u]] w fun e w' => e = .returned (.bool true) ∧ Below w.heap.size w w' := by
  obtain ⟨n, hn⟩ : ∃ n, ns.length = n := ⟨_, rfl⟩
  obtain ⟨a, c, rfl, k1⟩ := h.opened
  obtain ⟨a', c', rfl, k2⟩ := h'.opened
  have hmax := k1.max
  rw [hn] at h h' hmax ⊢
  unfold maxLen at hmax
  have hb : ((n : Int) != (n : Int)) = false := by simp
  have hp : (p != p) = false := by simp
  have HA : Hid (∀ k, k < n → ∃ g g', a = some ⟨g, 0, none⟩ ∧ a' = some ⟨g', 0, none⟩ ∧ ∀ w', Tn w (.slice a n c) (.slice a' n c') ns w' → NtAt w' g k (nthN ns k) ∧ NtAt w' g' k (nthN ns k)) := Lib.hid (fun k hk => by
    obtain ⟨g, e, _, _⟩ := k1.get k (by rw [hn]; exact hk)
    obtain ⟨g', e', _, _⟩ := k2.get k (by rw [hn]; exact hk)
    refine ⟨g, g', e, e', fun w' M => ?_⟩
    obtain ⟨a1, c1, q1, m1⟩ := M.o1.opened
    obtain ⟨a2, c2, q2, m2⟩ := M.o2.opened
    obtain ⟨G, E, _, A1⟩ := m1.get k (by rw [hn]; exact hk)
    obtain ⟨G', E', _, A2⟩ := m2.get k (by rw [hn]; exact hk)
    cases q1; cases q2
    rw [e] at E; rw [e'] at E'
    cases E; cases E'
    exact ⟨A1, A2⟩)
  obtain ⟨p0, p1, pl⟩ := boxes2 (P := [.int .i64 p, .slice a n c]) (R := [.int .i64 p, .slice a' n c']) (Below.refl ((w.alloc (.cells #[.int .i64 p, .slice a n c] 29)).alloc (.cells #[.int .i64 p, .slice a' n c'] 29)).heap.size _)
  have M0 : Hid (Sb w [.int .i64 p, .slice a n c] [.int .i64 p, .slice a' n c'] (.slice a n c) (.slice a' n c') ns ((w.alloc (.cells #[.int .i64 p, .slice a n c] 29)).alloc (.cells #[.int .i64 p, .slice a' n c'] 29))) := Lib.hid ⟨p0, p1, h.on pl, h'.on pl, pl⟩
  have tg := noteGuard
  have te := run_equal_note
  have tr := ntB_refl
  clear h h' hn k1 k2 p0 p1 pl
  go_enter Tryd.func28, Tryd.ntmps28
  go_wp2
  go_loopw [5] (fun i wr => ∃ k : Nat, k ≤ n ∧ i = .int .i64 k ∧ Hid (Sb w [.int .i64 p, .slice a n c] [.int .i64 p, .slice a' n c'] (.slice a n c) (.slice a' n c') ns wr)) (fun i _ => n - (intOf i).toNat)
  case atStart => exact ⟨0, by omega, rfl, M0⟩
  case round =>
    obtain ⟨k, hk, rfl, M⟩ := hrel
    obtain ⟨wo, rfl⟩ : ∃ wo : World, wo = wr := ⟨_, rfl⟩
    have a0 := M.out.b0.cell 1
    have a1 := M.out.b1.cell 1
    simp at a0 a1
    by_cases hlt : k < n
    · obtain ⟨g, g', rfl, rfl, hat⟩ := HA.out k hlt
      obtain ⟨⟨c0, c1, c2, c3, c4⟩, ⟨d0, d1, d2, d3, d4⟩⟩ := hat _ M.out.tn
      clear hat
      generalize nthN ns k = x at *
      have hlt1 : (k : Int) < (n : Int) := by omega
      go_wp2_with fail
      go_quiet (fail)
      clear c0 c1 c2 c3 c4 d0 d1 d2 d3 d4 a0 a1
      go_wp2
      go_roundw
      case rel => exact ⟨k + 1, by omega, by go_num, Lib.hid (M.out.on (below_drewN (Below.refl _ _) _))⟩
      case measure => simp [intOf]; omega
    · obtain rfl : k = n := by omega
      go_wp2
      go_ret
      exact ⟨rfl, M.out.tn.below⟩
end Go.Proofs.YtiinifcepcaonaaDoor
