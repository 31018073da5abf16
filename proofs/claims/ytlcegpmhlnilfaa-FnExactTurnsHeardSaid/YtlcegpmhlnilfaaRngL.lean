/- impl.ordersOf: its contract for a range over it. -/
import Derived.Test.YtlcegpmhlnilfaaRngK
namespace Go.Proofs.Ytlcegpmhlnilfaa
open Go.RowKit

theorem solTo_filter {c : List Int → Bool} {xss : List (List Int)} : ∀ {k : Nat}, k ≤ xss.length → solTo c xss k = (xss.take k).filter c
  | 0, _ => by simp [solTo]
  | k + 1, h => by
    have e : xss.take (k + 1) = xss.take k ++ [row xss k] := by
      rw [List.take_add_one, List.getElem?_eq_getElem (by omega), row_get (by omega)]; rfl
    rw [e, List.filter_append]
    cases hc : c (row xss k)
    · rw [solTo_no hc, solTo_filter (by omega)]; simp [hc]
    · rw [solTo_yes hc, solTo_filter (by omega)]; simp [hc]
theorem btwL_filter (p : Int) (g h : List Int) : btwL p g h = (ords p.toNat).filter (leads g h) := by
  unfold btwL; rw [solTo_filter (Nat.le_refl _), List.take_length]
theorem iof_any' (m : Nat) (w : World) : Calls Try.prog 47 #[.int .i64 m] w fun e w' => e = .returned (.func (.func 70) #[] #[.pointer (some ⟨w.heap.size, 0, none⟩)]) ∧ w' = w.alloc (.cells #[.int .i64 m] 3) := by
  go_enter Try.func47, Try.ntmps47
  go_wp2
  go_ret
  exact ⟨rfl, rfl⟩
/-- What a round of a loop over all orders keeps. -/
def KpO (Bm : Nat) (n1 n2 : Nat) (W W' : World) : Prop := KpI Bm n1 n2 W W'
theorem kpO_t {Bm n1 n2 : Nat} {A B C : World} (h : KpO Bm n1 n2 A B) (k : KpO Bm n1 n2 B C) : KpO Bm n1 n2 A C := ⟨Nat.le_trans h.1 k.1, fun q o a c d => k.2 q o (h.2 q o a c d) c d⟩
theorem kpO_b {Bm n1 n2 : Nat} (W : World) (l : Nat) (o o' : Obj) (_ : l < n1) (ho : W.heap[l]? = some o) (hc : o.isCells = false) (_ : o.isWalk = false) : KpO Bm n1 n2 W (W.putObj l o') :=
  ⟨by simp, fun q ob a c _ => (World.putObj_heap_other (fun e => by subst e; rw [ho] at a; cases a; rw [hc] at c; cases c)).trans a⟩
theorem orders_stops (Bm m : Nat) (w : World) (hB : Bm < w.heap.size) (hm : w.cell? ⟨Bm, 0, none⟩ = some (.int .i64 m)) (h1 : 1 ≤ m) (h5 : m ≤ 5) :
    SeqStopsP Fence.wide 4 Try.prog 70 #[.pointer (some ⟨Bm, 0, none⟩)] (KpO Bm) (fun xs => xs = ords m) (fun pre => pre <+: ords m) (ords m) w := by
  intro l J Jx W hW hJ _ hY h0
  refine callsIn_wide.2 ((iall_any Bm l m (ords m) J Jx W (Nat.lt_of_lt_of_le hB hW.size) ((hW.cell (p := ⟨Bm, 0, none⟩) hB).trans hm) h1 h5 List.prefix_rfl hJ (fun n2 hn pre v xs W0 W1 a b c d e => YieldAt.anyDepth' (hY n2 pre v xs W0 W1 a hn b c d e) 3) h0).mono ?_)
  rintro e W' ⟨hv, n2, hn, (hj | ⟨pre, hp, hj⟩)⟩
  · exact ⟨hv, n2, hn, .inl ⟨_, rfl, hj⟩⟩
  · exact ⟨hv, n2, hn, .inr ⟨pre, hp, hj⟩⟩
end Go.Proofs.Ytlcegpmhlnilfaa
