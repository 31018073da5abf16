/- spec: l3Exps, l3Make, l3Same, RowsMake, Solves. -/
import Derived.Test.YtlcegpmhlnilfaaClS
import Derived.Test.YtlcegpmhlnilfaaBSol
namespace Go.Proofs.Ytlcegpmhlnilfaa
open Go.RowKit

/-- What spec.l3Make is asked only of. -/
structure Mk (g : Int) (rows : List (List Int)) (es : List Int) : Prop where
  g0 : 0 ≤ g
  g4 : g < 4
  r3 : rows.length ≤ 3
  u2 : es.length ≤ 2
  row : ∀ j, j < rows.length → (row rows j).length = es.length ∧ allEl g (row rows j) = true
  ex : allEx g es = true
theorem Lot.mkd {g : Int} {rows : List (List Int)} {makes es : List Int} (h : Lot g rows makes es) : Mk g rows es :=
  ⟨h.cl.g0, h.cl.g4, h.cl.r3, by rw [h.len]; exact h.cl.u2, fun j hj => by rw [h.len]; exact h.cl.row j hj, h.ex⟩

theorem ssame_any (v u : Value) (xs ys : List Int) (w : World) (h : Ints w v xs) (h' : Ints w u ys) : Calls Try.prog 82 #[v, u] w fun e w' => e = .returned (.bool (sameB xs ys)) ∧ Below w.heap.size w w' := by
  obtain ⟨a, c, rfl, k1⟩ := h.opened
  obtain ⟨a', c', rfl, k2⟩ := h'.opened
  have m1 := k1.max
  have m2 := k2.max
  obtain ⟨n, hn⟩ : ∃ n, xs.length = n := ⟨_, rfl⟩
  obtain ⟨m, hm⟩ : ∃ m, ys.length = m := ⟨_, rfl⟩
  have HC := Lib.hid (show ∀ k, k < n → _ from fun k hk => k1.get k (by rw [hn]; exact hk))
  have HC' := Lib.hid (show ∀ k, k < m → _ from fun k hk => k2.get k (by rw [hm]; exact hk))
  have HY := Lib.hid (show n = m → SameTo xs ys n → sameB xs ys = true from fun e h => same_yes (by rw [hn, hm, e]) (by rw [hn]; exact h))
  have HL := Lib.hid (show n ≠ m → sameB xs ys = false from fun e => same_len (by rw [hn, hm]; exact e))
  rw [hn] at m1 ⊢
  rw [hm] at m2 ⊢
  unfold maxLen at m1 m2
  clear h h' k1 k2 hn hm
  go_enter Try.func82, Try.ntmps82
  go_wp2
  go_loopw [5] (fun i wr => ∃ k : Nat, k ≤ n ∧ k ≤ m ∧ i = .int .i64 k ∧ Hid (SameTo xs ys k) ∧ ∃ q, wr = w.drewN q) (fun i _ => n - (intOf i).toNat)
  case atStart => exact ⟨0, by omega, by omega, rfl, Lib.hid (SameTo.zero _ _), 0, rfl⟩
  case round =>
    obtain ⟨k, hk, hk', rfl, hs, q, rfl⟩ := hrel
    by_cases hlt : k < n
    · by_cases hlt' : k < m
      · obtain ⟨A, rfl, _, hc⟩ := HC.out k hlt
        obtain ⟨A', rfl, _, hc'⟩ := HC'.out k hlt'
        have hlt1 : (k : Int) < (n : Int) := by omega
        have hlt2 : (k : Int) < (m : Int) := by omega
        by_cases he : nth xs k = nth ys k
        · have HS := Lib.hid (hs.out.succ he)
          have hq : (nth xs k != nth ys k) = false := by simpa using he
          clear he hs
          go_wp2_with fail
          go_quiet (fail)
          go_wp2
          go_roundw
          case rel => exact ⟨k + 1, by omega, by omega, by go_num, HS, _, rfl⟩
          case measure => simp [intOf]; omega
        · have HT := Lib.hid (same_no he)
          have hq : (nth xs k != nth ys k) = true := by simpa using he
          clear he hs
          go_wp2_with fail
          go_quiet (fail)
          go_wp2
          go_ret
          exact ⟨by rw [HT.out]; rfl, below_of_drew (World.drewN_drewN _ _ _)⟩
      · obtain rfl : k = m := by omega
        have HX := Lib.hid (HL.out (by omega))
        have hq : ((n : Int) == (k : Int)) = false := by rw [beq_eq_false_iff_ne]; omega
        go_wp2
        go_ret
        exact ⟨by rw [HX.out]; rfl, below_of_drew rfl⟩
    · obtain rfl : k = n := by omega
      by_cases hkm : k = m
      · subst hkm
        have HX := Lib.hid (HY.out (by simp) hs.out)
        have hq : ((k : Int) == (k : Int)) = true := by simp
        go_wp2
        go_ret
        exact ⟨by rw [HX.out]; rfl, below_of_drew rfl⟩
      · have HX := Lib.hid (HL.out hkm)
        have hq : ((k : Int) == (m : Int)) = false := by rw [beq_eq_false_iff_ne]; omega
        go_wp2
        go_ret
        exact ⟨by rw [HX.out]; rfl, below_of_drew rfl⟩

end Go.Proofs.Ytlcegpmhlnilfaa
