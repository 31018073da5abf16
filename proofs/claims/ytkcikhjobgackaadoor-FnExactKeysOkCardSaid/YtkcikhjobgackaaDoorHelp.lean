/- laws.szIntS, szIntSS, szClaim, szWords; eqIntSS, eqClaim, eqWords at equal ones. -/
import Derived.Test.YtkcikhjobgackaaDoorBRd
import Derived.Test.YtkcikhjobgackaaDoorBWalk
namespace Go.Proofs.YtkcikhjobgackaaDoor
open Go.RowKit

/-- How many numbers the first k lists have. -/
def cnt (xss : List (List Int)) : Nat → Nat
  | 0 => 0
  | k + 1 => cnt xss k + (row xss k).length
theorem cnt_succ (xss : List (List Int)) (k : Nat) : cnt xss (k + 1) = cnt xss k + (row xss k).length := rfl
theorem cnt_mono (xss : List (List Int)) : ∀ {k n : Nat}, k ≤ n → cnt xss k ≤ cnt xss n
  | k, 0, h => by obtain rfl : k = 0 := by omega
                  exact Nat.le_refl _
  | k, n + 1, h => by
    by_cases e : k = n + 1
    · rw [e]; exact Nat.le_refl _
    · have := cnt_mono xss (show k ≤ n by omega)
      rw [cnt_succ]; omega
def szI (n : Nat) (left : Int) : Int := if left - n < 0 then -1 else left - n
theorem szi_any (a : Option Addr) (n c : Nat) (left : Int) (w : World) (hn : n ≤ maxLen) (h0 : 0 ≤ left) (h1 : left ≤ 1048576) : Calls Tryd.prog 49 #[.slice a n c, .int .i64 left] w fun e w' => e = .returned (.int .i64 (szI n left)) ∧ w = w' := by
  unfold maxLen at hn
  by_cases h : left - n < 0
  · have HX := Lib.hid (show szI n left = -1 by unfold szI; rw [if_pos h])
    go_enter Tryd.func49, Tryd.ntmps49
    go_wp2
    go_ret
    exact ⟨ret_int HX.out.symm, rfl⟩
  · have HX := Lib.hid (show szI n left = left - n by unfold szI; rw [if_neg h])
    go_enter Tryd.func49, Tryd.ntmps49
    go_wp2
    go_ret
    exact ⟨ret_int HX.out.symm, rfl⟩
theorem szI_cases (n : Nat) (left : Int) : (szI n left = -1 ∧ left < n) ∨ (szI n left = left - n ∧ (n : Int) ≤ left) := by
  unfold szI
  by_cases h : left - n < 0
  · rw [if_pos h]; exact .inl ⟨rfl, by omega⟩
  · rw [if_neg h]; exact .inr ⟨rfl, by omega⟩

theorem szss_any (a : Option Addr) (c : Nat) (xss : List (List Int)) (left : Int) (w : World) (h : ArgSS w a xss) (hn : xss.length ≤ maxLen) (hr : ∀ j, j < xss.length → (row xss j).length ≤ maxLen) (h0 : 0 ≤ left) (h1 : left ≤ 1048576) :
    Calls Tryd.prog 68 #[.slice a xss.length c, .int .i64 left] w fun e w' => ∃ r, e = .returned (.int .i64 r) ∧ w = w' ∧ (r = -1 ∨ (0 ≤ r ∧ r ≤ left ∧ (xss.length : Int) ≤ left ∧ (∀ j, j < xss.length → ((row xss j).length : Int) ≤ left) ∧ r + xss.length + cnt xss xss.length = left)) := by
  obtain ⟨n, hnn⟩ : ∃ n, xss.length = n := ⟨_, rfl⟩
  have HA := Lib.hid (fun k (hk : k < n) => h.get k (by rw [hnn]; exact hk))
  have HR := Lib.hid (fun k (hk : k < n) => hr k (by rw [hnn]; exact hk))
  rw [hnn] at hn ⊢
  clear h hnn hr
  unfold maxLen at hn
  by_cases hl : left - n < 0
  · go_enter Tryd.func68, Tryd.ntmps68
    go_wp2
    go_ret
    exact ⟨_, rfl, rfl, .inl rfl⟩
  · go_enter Tryd.func68, Tryd.ntmps68
    go_wp2
    go_loop [1, 5] (fun l i => ∃ (k : Nat) (r : Int), k ≤ n ∧ i = .int .i64 k ∧ l = .int .i64 r ∧ 0 ≤ r ∧ r ≤ left ∧ Hid (r + n + cnt xss k = left) ∧ Hid (∀ j, j < k → ((row xss j).length : Int) ≤ left)) (fun _ i => n - (intOf i).toNat)
    case atStart => exact ⟨0, _, by omega, rfl, rfl, by omega, by omega, Lib.hid (by simp [cnt]), Lib.hid (fun j hj => by omega)⟩
    case round =>
      obtain ⟨k, r, hk, rfl, rfl, r0, r1, hcn, hj⟩ := hrel
      by_cases hlt : k < n
      · obtain ⟨ad, A, cc, rfl, hc, _⟩ := HA.out k hlt
        have hm := HR.out k hlt
        obtain ⟨len, hlen⟩ : ∃ len, (row xss k).length = len := ⟨_, rfl⟩
        have HLEN := Lib.hid hlen
        rw [hlen] at hc hm
        clear hlen
        go_wp2_with fail
        refine (szi_any A len cc r _ hm r0 (by omega)).mono ?_
        rintro e w2 ⟨rfl, rfl⟩
        rcases szI_cases len r with ⟨e1, e2⟩ | ⟨e1, e2⟩
        · rw [e1]
          go_wp2
          go_ret
          exact ⟨_, rfl, rfl, .inl rfl⟩
        · rw [e1]
          have HJ : Hid (∀ j, j < k + 1 → ((row xss j).length : Int) ≤ left) := Lib.hid (fun j hj' => by
            by_cases e : j < k
            · exact hj.out j e
            · obtain rfl : j = k := by omega
              rw [HLEN.out]; omega)
          have HCN : Hid (r - len + n + cnt xss (k + 1) = left) := Lib.hid (by rw [cnt_succ, HLEN.out]; have := hcn.out; omega)
          clear hj e1 hcn
          go_wp2
          go_round
          case rel => exact ⟨k + 1, _, by omega, by go_num, rfl, by omega, by omega, HCN, HJ⟩
          case measure => simp [intOf]; omega
      · obtain rfl : k = n := by omega
        go_wp2
        go_ret
        exact ⟨_, rfl, rfl, .inr ⟨r0, r1, by omega, hj.out, hcn.out⟩⟩

theorem szcl_any (g : Int) (a b : Option Addr) (c d : Nat) (xss : List (List Int)) (ms : List Int) (left : Int) (w : World) (h : ArgSS w a xss) (hn : xss.length ≤ maxLen) (hr : ∀ j, j < xss.length → (row xss j).length ≤ maxLen) (hm : ms.length ≤ maxLen) (h0 : 0 ≤ left) (h1 : left ≤ 1048576) :
    Calls Tryd.prog 34 #[.agg #[.int .i64 g, .slice a xss.length c, .slice b ms.length d], .int .i64 left] w fun e w' => ∃ r, e = .returned (.int .i64 r) ∧ Below w.heap.size w w' ∧ (r = -1 ∨ (0 ≤ r ∧ r ≤ left ∧ xss.length ≤ 1048576 ∧ (∀ j, j < xss.length → (row xss j).length ≤ 1048576) ∧ ms.length ≤ 1048576 ∧ cnt xss xss.length ≤ 1048576)) := by
  have HA := Lib.hid h
  have HR := Lib.hid hr
  clear h hr
  go_enter Tryd.func34, Tryd.ntmps34
  go_wp2_with fail
  refine (szss_any a c xss left _ (HA.out.on (below_grow _ _)) hn HR.out h0 h1).mono ?_
  rintro e w1 ⟨r, rfl, rfl, hres⟩
  rcases hres with rfl | ⟨r0, r1, r2, r3, r4⟩
  · go_wp2
    go_ret
    exact ⟨_, rfl, below_grow _ _, .inl rfl⟩
  · have R4 := Lib.hid r4
    clear r4
    have R3 := Lib.hid r3
    clear r3
    go_wp2_with fail
    refine (szi_any b ms.length d r _ hm r0 (by omega)).mono ?_
    rintro e w2 ⟨rfl, rfl⟩
    rcases szI_cases ms.length r with ⟨e1, e2⟩ | ⟨e1, e2⟩
    · rw [e1]
      go_wp2
      go_ret
      exact ⟨_, rfl, below_grow _ _, .inl rfl⟩
    · rw [e1]
      clear e1
      go_wp2
      go_ret
      exact ⟨_, rfl, below_grow _ _, .inr ⟨by omega, by omega, by omega, fun j hj => by have := R3.out j hj; omega, by omega, by have := R4.out; omega⟩⟩

theorem IntSSA.drewN {w : World} {a : Option Addr} {xss : List (List Int)} (h : IntSSA w a xss) (m : Nat) : IntSSA (w.drewN m) a xss := ⟨h.max, h.get⟩
theorem Ints.drewN {w : World} {v : Value} {xs : List Int} (h : Ints w v xs) (m : Nat) : Ints (w.drewN m) v xs := h
theorem eqs_same (v u : Value) (xs : List Int) (w : World) (h : Ints w v xs) (h' : Ints w u xs) : Calls Tryd.prog 14 #[v, u] w fun e w' => e = .returned (.bool true) ∧ ∃ m, w' = w.drewN m := by
  have c := eqs_any v u xs xs w h h'
  rwa [sameB_refl] at c
set_option maxHeartbeats 1600000 in
theorem eqss_any (v u : Value) (xss : List (List Int)) (w : World) (h : IntSS w v xss) (h' : IntSS w u xss) :
    Calls Tryd.prog 70 #[v, u] w fun e w' => e = .returned (.bool true) ∧ ∃ m, w' = w.drewN m := by
  obtain ⟨a, c, rfl, k1⟩ := h.opened
  obtain ⟨a', c', rfl, k2⟩ := h'.opened
  obtain ⟨n, hn⟩ : ∃ n, xss.length = n := ⟨_, rfl⟩
  have hmax := k1.max
  have HA := Lib.hid (fun k (hk : k < n) => k1.get k (by rw [hn]; exact hk))
  have HA' := Lib.hid (fun k (hk : k < n) => k2.get k (by rw [hn]; exact hk))
  have hb : ((n : Int) != (n : Int)) = false := by simp
  rw [hn] at hmax ⊢
  unfold maxLen at hmax
  clear h h' k1 k2 hn
  go_enter Tryd.func70, Tryd.ntmps70
  go_wp2
  go_loopw [5] (fun i wr => ∃ k : Nat, k ≤ n ∧ i = .int .i64 k ∧ ∃ m, wr = w.drewN m) (fun i _ => n - (intOf i).toNat)
  case atStart => exact ⟨0, by omega, rfl, 0, rfl⟩
  case round =>
    obtain ⟨k, hk, rfl, m, hwr⟩ := hrel
    by_cases hlt : k < n
    · obtain ⟨g, x, rfl, _, hc0, hx⟩ := HA.out k hlt
      obtain ⟨g', x', rfl, _, hc0', hx'⟩ := HA'.out k hlt
      have hc : wr.cell? ⟨g, k, none⟩ = some x := by rw [hwr]; exact hc0
      have hc' : wr.cell? ⟨g', k, none⟩ = some x' := by rw [hwr]; exact hc0'
      have HX : Hid (Ints wr x (row xss k)) := Lib.hid (by rw [hwr]; exact hx)
      have HX' : Hid (Ints wr x' (row xss k)) := Lib.hid (by rw [hwr]; exact hx')
      have hlt1 : (k : Int) < (n : Int) := by omega
      have HW := Lib.hid hwr
      clear hx hx' hc0 hc0' hwr
      go_wp2_with fail
      go_quiet ((go_at_call 14; exact Calls.quiet_of (eqs_same x x' (row xss k) _ (Ints.drewN HX.out _) (Ints.drewN HX'.out _))))
      go_wp2
      go_roundw
      case rel => exact ⟨k + 1, by omega, by go_num, _, by rw [HW.out]; exact World.drewN_drewN _ _ _⟩
      case measure => simp [intOf]; omega
    · obtain rfl : k = n := by omega
      have HW := Lib.hid hwr
      clear hwr
      go_wp2
      go_ret
      exact ⟨rfl, _, HW.out⟩

theorem eqcl_any (g : Int) (rv mv rv' mv' : Value) (xss : List (List Int)) (ms : List Int) (w : World) (h1 : IntSS w rv xss) (h2 : Ints w mv ms) (h3 : IntSS w rv' xss) (h4 : Ints w mv' ms) :
    Calls Tryd.prog 38 #[.agg #[.int .i64 g, rv, mv], .agg #[.int .i64 g, rv', mv']] w fun e w' => e = .returned (.bool true) ∧ Below w.heap.size w w' := by
  have H1 := Lib.hid h1
  have H2 := Lib.hid h2
  have H3 := Lib.hid h3
  have H4 := Lib.hid h4
  clear h1 h2 h3 h4
  go_enter Tryd.func38, Tryd.ntmps38
  go_wp2_with fail
  refine (eqss_any rv rv' xss _ ((H1.out.on (below_grow _ _)).on (below_grow _ _)) ((H3.out.on (below_grow _ _)).on (below_grow _ _))).mono ?_
  rintro e w1 ⟨rfl, m, hw1⟩
  have hb1 := below_of_drew hw1
  obtain ⟨P1, R1, L1⟩ := boxes2 hb1
  have HB := Lib.hid L1
  have c0 := P1.cell 2
  have c1 := R1.cell 2
  simp at c0 c1
  clear P1 R1 L1 hb1 hw1
  go_wp2_with fail
  refine (eqs_same mv mv' ms _ (H2.out.below HB.out) (H4.out.below HB.out)).mono ?_
  rintro e w2 ⟨rfl, m2, hw2⟩
  have HB2 : Hid (Below w.heap.size w w2) := Lib.hid (by rw [hw2]; exact below_drewN HB.out m2)
  clear hw2
  go_wp2
  go_ret
  exact ⟨rfl, HB2.out⟩

end Go.Proofs.YtkcikhjobgackaaDoor
