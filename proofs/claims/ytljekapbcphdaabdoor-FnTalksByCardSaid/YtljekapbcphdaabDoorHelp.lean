/- laws.szIntS, szIntSS, szClaim, szWords; eqIntSS, eqClaim, eqWords at equal ones. -/
import Derived.Test.YtljekapbcphdaabDoorBRd
import Derived.Test.YtljekapbcphdaabDoorBWalk
namespace Go.Proofs.YtljekapbcphdaabDoor
open Go.RowKit

/-- How many numbers the first k lists have. -/
def cnt (xss : List (List Int)) : Nat → Nat
  | 0 => 0
  | k + 1 => cnt xss k + (row xss k).length
theorem cnt_succ (xss : List (List Int)) (k : Nat) : cnt xss (k + 1) = cnt xss k + (row xss k).length := rfl
theorem cnt_mono (xss : List (List Int)) : ∀ {k n : Nat}, k ≤ n → cnt xss k ≤ cnt xss n
  | k, 0, h => by obtain rfl : k = 0 := by omega
                  exact Nat.le_refl _
  | k, n + 1, h => by
    by_cases e : k = n + 1
    · rw [e]; exact Nat.le_refl _
    · have := cnt_mono xss (show k ≤ n by omega)
      rw [cnt_succ]; omega
def szI (n : Nat) (left : Int) : Int := if left - n < 0 then -1 else left - n
theorem szI_cases (n : Nat) (left : Int) : (szI n left = -1 ∧ left < n) ∨ (szI n left = left - n ∧ (n : Int) ≤ left) := by
  unfold szI
  by_cases h : left - n < 0
  · rw [if_pos h]; exact .inl ⟨rfl, by omega⟩
  · rw [if_neg h]; exact .inr ⟨rfl, by omega⟩

theorem IntSSA.drewN {w : World} {a : Option Addr} {xss : List (List Int)} (h : IntSSA w a xss) (m : Nat) : IntSSA (w.drewN m) a xss := ⟨h.max, h.get⟩
theorem Ints.drewN {w : World} {v : Value} {xs : List Int} (h : Ints w v xs) (m : Nat) : Ints (w.drewN m) v xs := h
theorem eqs_same (v u : Value) (xs : List Int) (w : World) (h : Ints w v xs) (h' : Ints w u xs) : Calls Tryd.prog 41 #[v, u] w fun e w' => e = .returned (.bool true) ∧ ∃ m, w' = w.drewN m := by
  have c := eqs_any v u xs xs w h h'
  rwa [sameB_refl] at c
set_option maxHeartbeats 1600000 in
theorem eqss_any (v u : Value) (xss : List (List Int)) (w : World) (h : IntSS w v xss) (h' : IntSS w u xss) :
    Calls Tryd.prog 55 #[v, u] w fun e w' => e = .returned (.bool true) ∧ ∃ m, w' = w.drewN m := by
  obtain ⟨a, c, rfl, k1⟩ := h.opened
  obtain ⟨a', c', rfl, k2⟩ := h'.opened
  obtain ⟨n, hn⟩ : ∃ n, xss.length = n := ⟨_, rfl⟩
  have hmax := k1.max
  have HA := Lib.hid (fun k (hk : k < n) => k1.get k (by rw [hn]; exact hk))
  have HA' := Lib.hid (fun k (hk : k < n) => k2.get k (by rw [hn]; exact hk))
  have hb : ((n : Int) != (n : Int)) = false := by simp
  rw [hn] at hmax ⊢
  unfold maxLen at hmax
  clear h h' k1 k2 hn
  go_enter Tryd.func55, Tryd.ntmps55
  go_wp2
  go_loopw [5] (fun i wr => ∃ k : Nat, k ≤ n ∧ i = .int .i64 k ∧ ∃ m, wr = w.drewN m) (fun i _ => n - (intOf i).toNat)
  case atStart => exact ⟨0, by omega, rfl, 0, rfl⟩
  case round =>
    obtain ⟨k, hk, rfl, m, hwr⟩ := hrel
    by_cases hlt : k < n
    · obtain ⟨g, x, rfl, _, hc0, hx⟩ := HA.out k hlt
      obtain ⟨g', x', rfl, _, hc0', hx'⟩ := HA'.out k hlt
      have hc : wr.cell? ⟨g, k, none⟩ = some x := by rw [hwr]; exact hc0
      have hc' : wr.cell? ⟨g', k, none⟩ = some x' := by rw [hwr]; exact hc0'
      have HX : Hid (Ints wr x (row xss k)) := Lib.hid (by rw [hwr]; exact hx)
      have HX' : Hid (Ints wr x' (row xss k)) := Lib.hid (by rw [hwr]; exact hx')
      have hlt1 : (k : Int) < (n : Int) := by omega
      have HW := Lib.hid hwr
      clear hx hx' hc0 hc0' hwr
      go_wp2_with fail
      go_quiet ((go_at_call 41; exact Calls.quiet_of (eqs_same x x' (row xss k) _ (Ints.drewN HX.out _) (Ints.drewN HX'.out _))))
      go_wp2
      go_roundw
      case rel => exact ⟨k + 1, by omega, by go_num, _, by rw [HW.out]; exact World.drewN_drewN _ _ _⟩
      case measure => simp [intOf]; omega
    · obtain rfl : k = n := by omega
      have HW := Lib.hid hwr
      clear hwr
      go_wp2
      go_ret
      exact ⟨rfl, _, HW.out⟩

theorem eqcl_any (g : Int) (rv mv rv' mv' : Value) (xss : List (List Int)) (ms : List Int) (w : World) (h1 : IntSS w rv xss) (h2 : Ints w mv ms) (h3 : IntSS w rv' xss) (h4 : Ints w mv' ms) :
    Calls Tryd.prog 17 #[.agg #[.int .i64 g, rv, mv], .agg #[.int .i64 g, rv', mv']] w fun e w' => e = .returned (.bool true) ∧ Below w.heap.size w w' := by
  have H1 := Lib.hid h1
  have H2 := Lib.hid h2
  have H3 := Lib.hid h3
  have H4 := Lib.hid h4
  clear h1 h2 h3 h4
  go_enter Tryd.func17, Tryd.ntmps17
  go_wp2_with fail
  refine (eqss_any rv rv' xss _ ((H1.out.on (below_grow _ _)).on (below_grow _ _)) ((H3.out.on (below_grow _ _)).on (below_grow _ _))).mono ?_
  rintro e w1 ⟨rfl, m, hw1⟩
  have hb1 := below_of_drew hw1
  obtain ⟨P1, R1, L1⟩ := boxes2 hb1
  have HB := Lib.hid L1
  have c0 := P1.cell 2
  have c1 := R1.cell 2
  simp at c0 c1
  clear P1 R1 L1 hb1 hw1
  go_wp2_with fail
  refine (eqs_same mv mv' ms _ (H2.out.below HB.out) (H4.out.below HB.out)).mono ?_
  rintro e w2 ⟨rfl, m2, hw2⟩
  have HB2 : Hid (Below w.heap.size w w2) := Lib.hid (by rw [hw2]; exact below_drewN HB.out m2)
  clear hw2
  go_wp2
  go_ret
  exact ⟨rfl, HB2.out⟩

end Go.Proofs.YtljekapbcphdaabDoor
