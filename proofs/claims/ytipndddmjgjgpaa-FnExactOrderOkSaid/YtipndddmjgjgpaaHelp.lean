/- laws.szIntS, szIntSS, szClaim, szWords; eqIntSS, eqClaim, eqWords at equal ones. -/
import Derived.Test.YtipndddmjgjgpaaBRd
import Derived.Test.YtipndddmjgjgpaaBWalk
namespace Go.Proofs.Ytipndddmjgjgpaa
open Go.RowKit

/-- How many numbers the first k lists have. -/
def cnt (xss : List (List Int)) : Nat → Nat
  | 0 => 0
  | k + 1 => cnt xss k + (row xss k).length
theorem cnt_succ (xss : List (List Int)) (k : Nat) : cnt xss (k + 1) = cnt xss k + (row xss k).length := rfl
theorem cnt_mono (xss : List (List Int)) : ∀ {k n : Nat}, k ≤ n → cnt xss k ≤ cnt xss n
  | k, 0, h => by obtain rfl : k = 0 := by omega
                  exact Nat.le_refl _
  | k, n + 1, h => by
    by_cases e : k = n + 1
    · rw [e]; exact Nat.le_refl _
    · have := cnt_mono xss (show k ≤ n by omega)
      rw [cnt_succ]; omega
def szI (n : Nat) (left : Int) : Int := if left - n < 0 then -1 else left - n
theorem szi_any (a : Option Addr) (n c : Nat) (left : Int) (w : World) (hn : n ≤ maxLen) (h0 : 0 ≤ left) (h1 : left ≤ 1048576) : Calls Try.prog 57 #[.slice a n c, .int .i64 left] w fun e w' => e = .returned (.int .i64 (szI n left)) ∧ w = w' := by
  unfold maxLen at hn
  by_cases h : left - n < 0
  · have HX := Lib.hid (show szI n left = -1 by unfold szI; rw [if_pos h])
    go_enter Try.func57, Try.ntmps57
    go_wp2
    go_ret
    exact ⟨ret_int HX.out.symm, rfl⟩
  · have HX := Lib.hid (show szI n left = left - n by unfold szI; rw [if_neg h])
    go_enter Try.func57, Try.ntmps57
    go_wp2
    go_ret
    exact ⟨ret_int HX.out.symm, rfl⟩
theorem szI_cases (n : Nat) (left : Int) : (szI n left = -1 ∧ left < n) ∨ (szI n left = left - n ∧ (n : Int) ≤ left) := by
  unfold szI
  by_cases h : left - n < 0
  · rw [if_pos h]; exact .inl ⟨rfl, by omega⟩
  · rw [if_neg h]; exact .inr ⟨rfl, by omega⟩

theorem IntSSA.drewN {w : World} {a : Option Addr} {xss : List (List Int)} (h : IntSSA w a xss) (m : Nat) : IntSSA (w.drewN m) a xss := ⟨h.max, h.get⟩
theorem Ints.drewN {w : World} {v : Value} {xs : List Int} (h : Ints w v xs) (m : Nat) : Ints (w.drewN m) v xs := h
theorem eqs_same (v u : Value) (xs : List Int) (w : World) (h : Ints w v xs) (h' : Ints w u xs) : Calls Try.prog 22 #[v, u] w fun e w' => e = .returned (.bool true) ∧ ∃ m, w' = w.drewN m := by
  have c := eqs_any v u xs xs w h h'
  rwa [sameB_refl] at c
set_option maxHeartbeats 1600000 in
theorem eqss_any (v u : Value) (xss : List (List Int)) (w : World) (h : IntSS w v xss) (h' : IntSS w u xss) :
    Calls Try.prog 35 #[v, u] w fun e w' => e = .returned (.bool true) ∧ ∃ m, w' = w.drewN m := by
  obtain ⟨a, c, rfl, k1⟩ := h.opened
  obtain ⟨a', c', rfl, k2⟩ := h'.opened
  obtain ⟨n, hn⟩ : ∃ n, xss.length = n := ⟨_, rfl⟩
  have hmax := k1.max
  have HA := Lib.hid (fun k (hk : k < n) => k1.get k (by rw [hn]; exact hk))
  have HA' := Lib.hid (fun k (hk : k < n) => k2.get k (by rw [hn]; exact hk))
  have hb : ((n : Int) != (n : Int)) = false := by simp
  rw [hn] at hmax ⊢
  unfold maxLen at hmax
  clear h h' k1 k2 hn
  go_enter Try.func35, Try.ntmps35
  go_wp2
  go_loopw [5] (fun i wr => ∃ k : Nat, k ≤ n ∧ i = .int .i64 k ∧ ∃ m, wr = w.drewN m) (fun i _ => n - (intOf i).toNat)
  case atStart => exact ⟨0, by omega, rfl, 0, rfl⟩
  case round =>
    obtain ⟨k, hk, rfl, m, hwr⟩ := hrel
    by_cases hlt : k < n
    · obtain ⟨g, x, rfl, _, hc0, hx⟩ := HA.out k hlt
      obtain ⟨g', x', rfl, _, hc0', hx'⟩ := HA'.out k hlt
      have hc : wr.cell? ⟨g, k, none⟩ = some x := by rw [hwr]; exact hc0
      have hc' : wr.cell? ⟨g', k, none⟩ = some x' := by rw [hwr]; exact hc0'
      have HX : Hid (Ints wr x (row xss k)) := Lib.hid (by rw [hwr]; exact hx)
      have HX' : Hid (Ints wr x' (row xss k)) := Lib.hid (by rw [hwr]; exact hx')
      have hlt1 : (k : Int) < (n : Int) := by omega
      have HW := Lib.hid hwr
      clear hx hx' hc0 hc0' hwr
      go_wp2_with fail
      go_quiet ((go_at_call 22; exact Calls.quiet_of (eqs_same x x' (row xss k) _ (Ints.drewN HX.out _) (Ints.drewN HX'.out _))))
      go_wp2
      go_roundw
      case rel => exact ⟨k + 1, by omega, by go_num, _, by rw [HW.out]; exact World.drewN_drewN _ _ _⟩
      case measure => simp [intOf]; omega
    · obtain rfl : k = n := by omega
      have HW := Lib.hid hwr
      clear hwr
      go_wp2
      go_ret
      exact ⟨rfl, _, HW.out⟩

end Go.Proofs.Ytipndddmjgjgpaa
