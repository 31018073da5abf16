/- ClI, ClJ, MkI, in one text. -/
import Derived.Test.YtlcegpmhlnilfaaBRd
import Derived.Test.YtlcegpmhlnilfaaBTalk
/- impl: elementsOk, exponentsOk, ClaimOk, lotOk, slices.Equal. -/
namespace Go.Proofs.Ytlcegpmhlnilfaa
open Go.RowKit

/-- The lists of a relation in memory. -/
structure Cw (w : World) (rv mv : Value) (rows : List (List Int)) (makes : List Int) : Prop where
  rows : IntSS w rv rows
  makes : Ints w mv makes
theorem Cw.on {w w' : World} {rv mv : Value} {rows : List (List Int)} {makes : List Int} (h : Cw w rv mv rows makes) (hb : Below w.heap.size w w') : Cw w' rv mv rows makes := ⟨h.rows.on hb, h.makes.below hb⟩
abbrev clV (g : Int) (rv mv : Value) : Value := .agg #[.int .i64 g, rv, mv]

/-- Rows of the same length as the first one, of elements, so far. -/
def RowsTo (g : Int) (rows : List (List Int)) (k : Nat) : Prop := ∀ j, j < k → (row rows j).length = unk rows ∧ allEl g (row rows j) = true

end Go.Proofs.Ytlcegpmhlnilfaa

/- impl: lotOk, slices.Equal, RowsMake, Solves. -/
namespace Go.Proofs.Ytlcegpmhlnilfaa
open Go.RowKit

theorem Cw.row0 {w : World} {rv mv : Value} {g : Int} {rows : List (List Int)} {makes : List Int} (h : Cw w rv mv rows makes) (hc : Cl g rows makes) :
    ∃ G c a0 c0, rv = .slice (some ⟨G, 0, none⟩) rows.length c ∧ ∀ w', Below w.heap.size w w' → w'.cell? ⟨G, 0, none⟩ = some (.slice a0 (unk rows) c0) := by
  obtain ⟨a, c, rfl, k1⟩ := h.rows.opened
  obtain ⟨G, u, rfl, hl, hcell, hi⟩ := k1.get 0 hc.r1
  obtain ⟨a0, c0, rfl, _⟩ := hi.opened
  exact ⟨G, c, a0, c0, rfl, fun w' hb => (hb.cell (p := ⟨G, 0, none⟩) hl).trans hcell⟩

theorem slEq_any (v u : Value) (xs ys : List Int) (w : World) (h : Ints w v xs) (h' : Ints w u ys) : Calls Try.prog 83 #[v, u] w fun e w' => e = .returned (.bool (sameB xs ys)) ∧ Below w.heap.size w w' := by
  obtain ⟨a, c, rfl, k1⟩ := h.opened
  obtain ⟨a', c', rfl, k2⟩ := h'.opened
  have m1 := k1.max
  have m2 := k2.max
  obtain ⟨n, hn⟩ : ∃ n, xs.length = n := ⟨_, rfl⟩
  obtain ⟨m, hm⟩ : ∃ m, ys.length = m := ⟨_, rfl⟩
  have HC := Lib.hid (show ∀ k, k < n → _ from fun k hk => k1.get k (by rw [hn]; exact hk))
  have HC' := Lib.hid (show ∀ k, k < m → _ from fun k hk => k2.get k (by rw [hm]; exact hk))
  have HY := Lib.hid (show n = m → SameTo xs ys n → sameB xs ys = true from fun e h => same_yes (by rw [hn, hm, e]) (by rw [hn]; exact h))
  have HL := Lib.hid (show n ≠ m → sameB xs ys = false from fun e => same_len (by rw [hn, hm]; exact e))
  rw [hn] at m1 ⊢
  rw [hm] at m2 ⊢
  unfold maxLen at m1 m2
  clear h h' k1 k2 hn hm
  by_cases hlen : n = m
  · subst hlen
    have hd : ((n : Int) != (n : Int)) = false := by simp
    go_enter Try.func83, Try.ntmps83
    go_wp2
    go_loopw [13] (fun i wr => ∃ k : Nat, k ≤ n ∧ i = .int .i64 k ∧ Hid (SameTo xs ys k) ∧ ∃ m, wr = w.drewN m) (fun i _ => n - (intOf i).toNat)
    case atStart => exact ⟨0, by omega, rfl, Lib.hid (SameTo.zero _ _), 0, rfl⟩
    case round =>
      obtain ⟨k, hk, rfl, hs, m, rfl⟩ := hrel
      by_cases hlt : k < n
      · obtain ⟨A, rfl, _, hc⟩ := HC.out k hlt
        obtain ⟨A', rfl, _, hc'⟩ := HC'.out k hlt
        have hlt1 : (k : Int) < (n : Int) := by omega
        by_cases he : nth xs k = nth ys k
        · have HS := Lib.hid (hs.out.succ he)
          have hq : (nth xs k != nth ys k) = false := by simpa using he
          clear he hs
          go_wp2_with fail
          go_quiet (fail)
          go_wp2
          go_roundw
          case rel => exact ⟨k + 1, by omega, by go_num, HS, _, rfl⟩
          case measure => simp [intOf]; omega
        · have HT := Lib.hid (same_no he)
          have hq : (nth xs k != nth ys k) = true := by simpa using he
          clear he hs
          go_wp2_with fail
          go_quiet (fail)
          go_wp2
          go_ret
          exact ⟨by rw [HT.out]; rfl, below_of_drew (World.drewN_drewN _ _ _)⟩
      · obtain rfl : k = n := by omega
        have HX := Lib.hid (HY.out (by simp) hs.out)
        go_wp2
        go_ret
        exact ⟨by rw [HX.out]; rfl, below_of_drew rfl⟩
  · have HX := Lib.hid (HL.out hlen)
    have hd : ((n : Int) != (m : Int)) = true := by rw [bne_iff_ne]; omega
    go_enter Try.func83, Try.ntmps83
    go_wp2
    go_ret
    exact ⟨by rw [HX.out]; rfl, Below.refl _ _⟩
end Go.Proofs.Ytlcegpmhlnilfaa

/- impl.RowsMake. -/
namespace Go.Proofs.Ytlcegpmhlnilfaa
open Go.RowKit

theorem Lot.row_len {g : Int} {rows : List (List Int)} {makes es : List Int} (h : Lot g rows makes es) {k : Nat} (hk : k < rows.length) : (row rows k).length = es.length := by rw [(h.cl.row k hk).1, h.len]

end Go.Proofs.Ytlcegpmhlnilfaa
