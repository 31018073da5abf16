/- Two answers of a talk: helpers of the exact laws. -/
import Derived.Test.YtopjlbihhbjhnaaDoorZs
import Derived.Test.YtopjlbihhbjhnaaDoorMadS
namespace Go.Proofs.YtopjlbihhbjhnaaDoor
open Go.RowKit

theorem eqs_sameb (v u : Value) (xs : List Int) (w : World) (h : Ints w v xs) (h' : Ints w u xs) : Calls Tryd.prog 24 #[v, u] w fun e w' => e = .returned (.bool true) ∧ Below w.heap.size w w' := (eqs_same v u xs w h h').mono fun _ _ ⟨he, _, hw⟩ => ⟨he, below_of_drew hw⟩
theorem OwnW.near {w w' : World} {lo hi lo' hi' : Nat} {sv tv : Value} {ss ts : List Int} (h : Outside lo hi w w') (ho : OwnW w lo' hi' sv tv ss ts) (h1 : ∀ k, sv.ownBlock = some k → k < lo) (h2 : ∀ k, tv.ownBlock = some k → k < lo) : OwnW w' lo' hi' sv tv ss ts := ⟨h.low ho.s h1, h.low ho.t h2, ho.apart, ho.his, ho.hit⟩
theorem heldw_is (q : Int) (sv tv : Value) (ss ts : List Int) (w : World) {lo hi : Nat} (h : OwnW w lo hi sv tv (markTo ss 1 ss.length) (markTo ts (1 + ss.length) ts.length)) (hl : ss.length ≤ 1000) (hm : ts.length ≤ 1000) :
    Calls Tryd.prog 39 #[.agg #[sv, .int .i64 q, tv], .int .i64 1] w fun e w' => e = .returned (.int .i64 (1 + ss.length + ts.length)) ∧ Below w.heap.size w w' := by
  have c := heldw_any q sv tv (markTo ss 1 ss.length) (markTo ts (1 + ss.length) ts.length) 1 w (Ints.of_own h.s (by rw [markTo_len]; exact small3 hl)) (Ints.of_own h.t (by rw [markTo_len]; exact small3 hm)) (by rw [markTo_len]; omega) (by rw [markTo_len]; omega) (by omega) (by omega)
    (fun j hj => markTo_nth _ _ _ (Nat.le_refl _) j (by rwa [markTo_len] at hj)) (fun j hj => by rw [markTo_len] at hj ⊢; exact markTo_nth _ _ _ (Nat.le_refl _) j hj)
  rwa [markTo_len, markTo_len] at c

end Go.Proofs.YtopjlbihhbjhnaaDoor
