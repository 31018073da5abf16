/- Lists of talks compared, marked and looked at. -/
import Derived.Test.YtahegppdfcndkaaDoorSrB
import Derived.Test.YtahegppdfcndkaaDoorBTalk
namespace Go.Proofs.YtahegppdfcndkaaDoor
open Go.RowKit

theorem ownT_form {w : World} {B : Nat} {v : Value} {ask : Int → Int} {d : List (Int × Int)} (h : OwnT w B v ask d) : (∃ a c, v = .slice a d.length c) ∧ (0 < d.length → ∃ g cap, v = .slice (some ⟨g, 0, none⟩) d.length cap) := by
  rcases id h.2 with ⟨rfl, h0⟩ | ⟨g, cap, cur, rfl, _⟩
  · exact ⟨⟨none, 0, by rw [h0]⟩, fun hp => by omega⟩
  · exact ⟨⟨_, _, rfl⟩, fun _ => ⟨_, _, rfl⟩⟩

theorem samet_any (v u : Value) (ask : Int → Int) (d : List (Int × Int)) (B B' : Nat) (w : World) (hl : d.length ≤ 23) (h : OwnT w B v ask d) (h' : OwnT w B' u ask d) :
    Calls Tryd.prog 7 #[v, u] w fun e w' => e = .returned (.bool true) ∧ ∃ m, w' = w.drewN m := by
  obtain ⟨n, hn⟩ : ∃ n, d.length = n := ⟨_, rfl⟩
  rcases Nat.eq_zero_or_pos n with hz | hp
  · obtain ⟨a, c, rfl⟩ := (ownT_form h).1
    obtain ⟨a', c', rfl⟩ := (ownT_form h').1
    rw [hn, hz]
    clear h h' hl hn hz
    go_enter Tryd.func7, Tryd.ntmps7
    go_wp2
    go_loop [5] (fun i => i = .int .i64 0) (fun _ => 0)
    case atStart => rfl
    case round =>
      subst hrel
      go_wp2
      go_ret
      exact ⟨rfl, 0, rfl⟩
  · obtain ⟨g, cap, rfl⟩ := (ownT_form h).2 (by omega)
    obtain ⟨g', cap', rfl⟩ := (ownT_form h').2 (by omega)
    rw [hn] at h h' hl ⊢
    have tg := talkGuard
    have te := run_equal_talk
    have HC := Lib.hid (fun k (hk : k < n) => ownT_at h hn hk)
    have HC' := Lib.hid (fun k (hk : k < n) => ownT_at h' hn hk)
    have hb : ((n : Int) != (n : Int)) = false := by simp
    clear h h' hn
    go_enter Tryd.func7, Tryd.ntmps7
    go_wp2
    go_loopw [5] (fun i wr => ∃ k : Nat, k ≤ n ∧ i = .int .i64 k ∧ ∃ m, wr = w.drewN m) (fun i _ => n - (intOf i).toNat)
    case atStart => exact ⟨0, by omega, rfl, 0, rfl⟩
    case round =>
      obtain ⟨k, hk, rfl, m, rfl⟩ := hrel
      by_cases hlt : k < n
      · obtain ⟨c0, c1, c2⟩ := HC.out k hlt
        obtain ⟨e0, e1, e2⟩ := HC'.out k hlt
        generalize d[k]! = x at c0 c1 c2 e0 e1 e2
        obtain ⟨s, t⟩ := x
        obtain ⟨p, hp⟩ : ∃ p, ask s = p := ⟨_, rfl⟩
        simp only [hp] at c1 e1
        clear hp
        have hq := talkB_refl s p t
        have hlt1 : (k : Int) < (n : Int) := by omega
        go_wp2_with fail
        go_quiet (fail)
        go_wp2
        go_roundw
        case rel => exact ⟨k + 1, by omega, by go_num, _, rfl⟩
        case measure => simp [intOf]; omega
      · obtain rfl : k = n := by omega
        go_wp2
        go_ret
        exact ⟨rfl, _, rfl⟩

/-- What a later world keeps of two lists. -/
structure Tw (W : World) (B B' : Nat) (v u : Value) (ask : Int → Int) (d : List (Int × Int)) (w : World) : Prop where
  o1 : OwnT w B v ask d
  o2 : OwnT w B' u ask d
  below : Below W.heap.size W w
theorem Tw.on {W w w' : World} {B B' : Nat} {v u : Value} {ask : Int → Int} {d : List (Int × Int)} (h : Hid (Tw W B B' v u ask d w)) (hb : Below w.heap.size w w') : Hid (Tw W B B' v u ask d w') :=
  Lib.hid ⟨ownT_below h.out.o1 hb, ownT_below h.out.o2 hb, h.out.below.trans (hb.mono h.out.below.size)⟩

/-- An owned list whose first k numbers are m, m + 1, .. -/
def OwnM (w : World) (B : Nat) (v : Value) (n : Nat) (m : Int) (k : Nat) : Prop :=
  ∃ F : List Value, F.length = n * 3 ∧ (∀ j : Nat, j < k → F[j]? = some (.int .i64 (m + j))) ∧ w.ownsRow B 37 3 v n F
theorem OwnM.start {w : World} {B : Nat} {v : Value} {ask : Int → Int} {d : List (Int × Int)} (h : OwnT w B v ask d) (m : Int) : OwnM w B v d.length m 0 := ⟨_, flat_len ask d, fun _ hj => by omega, h⟩
theorem OwnM.set {w : World} {B g n cap k : Nat} {m : Int} (h : OwnM w B (.slice (some ⟨g, 0, none⟩) n cap) n m k) (hk : k < n * 3) {x : Int} (hx : x = m + k) :
    (w.frozen? ⟨g, k, none⟩ = false ∧ ∃ u, w.cell? ⟨g, k, none⟩ = some u) ∧ OwnM (w.setCell ⟨g, k, none⟩ (.int .i64 x)) B (.slice (some ⟨g, 0, none⟩) n cap) n m (k + 1) ∧ w.grownBy (w.setCell ⟨g, k, none⟩ (.int .i64 x)) (some g) := by
  obtain ⟨F, hF, hm, ho⟩ := h
  refine ⟨⟨ho.frozenAt k, _, (ho.cellAt k hk).trans (List.getElem?_eq_getElem (by omega))⟩, ⟨F.set k (.int .i64 x), by rw [List.length_set]; exact hF, fun j hj => ?_, (ho.stored k (.int .i64 x)).1⟩, (ho.stored k (.int .i64 x)).2⟩
  by_cases e : k = j
  · subst e; rw [List.getElem?_set_self (by omega), hx]
  · rw [List.getElem?_set_ne e]; exact hm j (by omega)
theorem OwnM.at {w : World} {B g n cap k j : Nat} {m : Int} (h : OwnM w B (.slice (some ⟨g, 0, none⟩) n cap) n m k) (hk : k ≤ n * 3) (hj : j < k) {x : Int} (hx : x = m + j) : w.cell? ⟨g, j, none⟩ = some (.int .i64 x) := by
  obtain ⟨F, hF, hm, ho⟩ := h
  rw [ho.cellAt j (by omega), hm j hj, hx]
theorem grown_both {w w1 w2 : World} {g : Nat} (h : w.grownBy w1 (some g)) (k : w1.grownBy w2 (some g)) : w.grownBy w2 (some g) :=
  ⟨k.os.trans h.os, k.tape.trans h.tape, k.output.trans h.output, Nat.le_trans h.size k.size, fun i hi hr => (k.block i (Nat.lt_of_lt_of_le hi h.size) hr).trans (h.block i hi hr)⟩

end Go.Proofs.YtahegppdfcndkaaDoor
