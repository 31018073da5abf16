/- spec: l7Orders. -/
import Derived.Test.YtimkmdedoacpfabDoorGphM
import Derived.Test.YtimkmdedoacpfabDoorAllS
namespace Go.Proofs.YtimkmdedoacpfabDoor
open Go.RowKit

def fitTo (xs : List Int) (p : Nat) : Nat → Bool
  | 0 => true
  | i + 1 => fitTo xs p i && decide (nth xs i ≠ p)
theorem fitTo_true {xs : List Int} {p : Nat} : ∀ {n : Nat}, fitTo xs p n = true ↔ ∀ i, i < n → nth xs i ≠ p
  | 0 => by simp [fitTo]
  | n + 1 => by
    rw [fitTo, Bool.and_eq_true, fitTo_true, decide_eq_true_eq]
    constructor
    · rintro ⟨h1, h2⟩ i hi
      by_cases e : i < n
      · exact h1 i e
      · obtain rfl : i = n := by omega
        exact h2
    · intro h; exact ⟨fun i hi => h i (by omega), h n (by omega)⟩
theorem fitTo_all {xs : List Int} {p k : Nat} (hk : xs.length = k) : fitTo xs p k = fits xs p := by
  have h : fitTo xs p k = true ↔ fits xs p = true := by
    rw [fitTo_true, fits_true]
    constructor
    · intro h hin
      obtain ⟨j, hj, e⟩ := nth_of hin
      exact h j (by omega) e
    · intro h i hi e
      exact h (by rw [← e]; exact nth_mem (by omega))
  cases h1 : fitTo xs p k <;> cases h2 : fits xs p <;> simp_all
theorem nxtIn_len (xs : List Int) : ∀ n, (nxtIn xs n).length ≤ n
  | 0 => Nat.le_refl _
  | n + 1 => by
    rw [nxtIn, List.length_append]
    have := nxtIn_len xs n
    split <;> simp <;> omega
theorem nxtTo_len (m : Nat) (xss : List (List Int)) : ∀ n, (nxtTo m xss n).length ≤ n * m
  | 0 => by simp [nxtTo]
  | n + 1 => by
    rw [nxtTo, List.length_append, Nat.succ_mul]
    have := nxtTo_len m xss n
    have := nxtIn_len (row xss n) m
    omega
theorem ordTo_len {m : Nat} (hm : m ≤ 5) : ∀ k, (ordTo m k).length ≤ 5 ^ k
  | 0 => by simp [ordTo]
  | k + 1 => by
    rw [ordTo, Nat.pow_succ]
    exact Nat.le_trans (nxtTo_len _ _ _) (Nat.mul_le_mul (ordTo_len hm k) hm)
theorem ordTo_few {m k : Nat} (hm : m ≤ 5) (hk : k ≤ 5) : (ordTo m k).length ≤ 3125 :=
  Nat.le_trans (ordTo_len hm k) (Nat.le_trans (Nat.pow_le_pow_right (by decide) hk) (by decide))
theorem ordTo_row {m k j : Nat} (hj : j < (ordTo m k).length) : (row (ordTo m k) j).length = k := (ordTo_mem.1 (row_mem hj)).1
theorem nxtIn_yes {xs : List Int} {p : Nat} (h : fits xs p = true) : nxtIn xs (p + 1) = nxtIn xs p ++ [xs ++ [(p : Int)]] := by rw [nxtIn, if_pos h]
theorem nxtIn_no {xs : List Int} {p : Nat} (h : fits xs p = false) : nxtIn xs (p + 1) = nxtIn xs p := by rw [nxtIn, if_neg (by simp [h]), List.append_nil]

set_option maxRecDepth 20000 in
set_option maxHeartbeats 6400000 in
theorem sords_any (m : Nat) (w : World) (hm : m ≤ 5) :
    Calls Tryd.prog 76 #[.int .i64 m] w fun e w' => ∃ v us, e = .returned v ∧ OwnSS w' w.heap.size w'.heap.size v us (ords m) ∧ Full us ∧ Below w.heap.size w w' := by
  have O1 : Hid (∃ us, Full us ∧ OwnSS ((w.alloc (.cells #[] 3)).alloc (.cells #[.slice (some ⟨w.heap.size, 0, none⟩) 0 0] 23)) w.heap.size ((w.alloc (.cells #[] 3)).alloc (.cells #[.slice (some ⟨w.heap.size, 0, none⟩) 0 0] 23)).heap.size (.slice (some ⟨w.heap.size + 1, 0, none⟩) 1 1) us (ordTo m 0)) := Lib.hid ⟨_, Full.nil.app, ownSS_one' w⟩
  have I1 := Lib.hid ((below_grow w (.cells #[] 3)).trans ((below_grow (w.alloc (.cells #[] 3)) (.cells #[.slice (some ⟨w.heap.size, 0, none⟩) 0 0] 23)).mono (by simp)))
  have HL := Lib.hid (show ∀ k, k < m → (ordTo m k).length ≤ 3125 from fun k hk => ordTo_few hm (by omega))
  have HS := Lib.hid (show ∀ k, ordTo m (k + 1) = nxtTo m (ordTo m k) (ordTo m k).length from fun _ => rfl)
  go_enter Tryd.func76, Tryd.ntmps76
  go_wp2
  go_loopw [3, 4] (fun v i wr => ∃ k : Nat, k ≤ m ∧ i = .int .i64 k ∧ Hid (∃ us, Full us ∧ OwnSS wr w.heap.size wr.heap.size v us (ordTo m k)) ∧ Hid (Below w.heap.size w wr)) (fun _ i _ => m - (intOf i).toNat)
  case atStart => exact ⟨0, by omega, rfl, Lib.hid (by have := O1.out; simpa using this), I1⟩
  case round =>
    obtain ⟨k, hk, rfl, hO, hI⟩ := hrel
    obtain ⟨wo, rfl⟩ : ∃ wo : World, wo = wr := ⟨_, rfl⟩
    clear O1 I1
    by_cases hlt : k < m
    · have hlt1 : (k : Int) < (m : Int) := by omega
      obtain ⟨us, hf, ho⟩ := hO.out
      obtain ⟨xss, hxs⟩ : ∃ xss, ordTo m k = xss := ⟨_, rfl⟩
      have hl40 : xss.length ≤ 3125 := by rw [← hxs]; exact HL.out k hlt
      have hrl : ∀ j, j < xss.length → (row xss j).length = k := fun j hj => by rw [← hxs] at hj ⊢; exact ordTo_row hj
      rw [hxs] at ho
      obtain ⟨a, c', rfl, hcell⟩ := outer_cell ho.outer
      obtain ⟨n, hn⟩ : ∃ n, xss.length = n := ⟨_, rfl⟩
      have hul : us.length = n := by rw [ho.len]; exact hn
      have HRL := Lib.hid (show ∀ j, j < n → (row xss j).length = k from fun j hj => hrl j (by rw [hn]; exact hj))
      have HR := Lib.hid (show ∀ j, j < n → ∃ G X cx, a = some ⟨G, 0, none⟩ ∧ ∀ w', Below wo.heap.size wo w' → w'.cell? ⟨G, j, none⟩ = some (.slice (some ⟨X, 0, none⟩) k cx) ∧ ∀ i, i < k → w'.cell? ⟨X, i, none⟩ = some (.int .i64 (nth (row xss j) i)) from fun j hj => by
        have hj' : j < us.length := by rw [hul]; exact hj
        obtain ⟨G, e1, h1, e2⟩ := hcell j hj'
        obtain ⟨X, n', cx, e3⟩ := hf j hj'
        have hr := ho.rows j hj'
        have hrk := HRL.out j hj
        obtain ⟨_, _, e4⟩ := Own.form hr
        rw [hrk] at e4
        rw [e3] at e4
        cases e4
        rw [e3] at e2 hr
        refine ⟨G, X, cx, e1, fun w' hb => ⟨(hb.cell (p := ⟨G, j, none⟩) h1).trans e2, fun i hi => ?_⟩⟩
        obtain ⟨h5, h6⟩ := own_cell hr (by rw [hrk]; unfold maxLen; omega) (j := i) (by rw [hrk]; exact hi)
        exact (hb.cell (p := ⟨X, i, none⟩) h5).trans h6)
      have HX : Hid (ordTo m (k + 1) = nxtTo m xss n) := Lib.hid (by rw [HS.out, hxs, hn])
      have hn40 : n ≤ 3125 := by rw [← hn]; exact hl40
      have ON : Hid (∃ us, Full us ∧ OwnSS (wo.alloc (.cells #[] 23)) wo.heap.size (wo.alloc (.cells #[] 23)).heap.size (.slice (some ⟨wo.heap.size, 0, none⟩) 0 0) us (nxtTo m xss 0)) := Lib.hid ⟨[], Full.nil, ownSS_none wo⟩
      have BN := Lib.hid (below_grow wo (.cells #[] 23))
      rw [hul]
      clear ho hl40 hrl hxs hn hul hO us hf hcell
      go_wp2
      go_loopw [5, 6] (fun v i wr => ∃ j : Nat, j ≤ n ∧ i = .int .i64 j ∧ Hid (∃ us, Full us ∧ OwnSS wr wo.heap.size wr.heap.size v us (nxtTo m xss j)) ∧ Hid (Below wo.heap.size wo wr)) (fun _ i _ => n - (intOf i).toNat)
      case atStart => exact ⟨0, by omega, rfl, ON, BN⟩
      case round =>
        obtain ⟨j, hj, rfl, hO, hB2⟩ := hrel
        obtain ⟨wj, rfl⟩ : ∃ wj : World, wj = wr := ⟨_, rfl⟩
        clear ON BN
        by_cases hjl : j < n
        · obtain ⟨G, X, cx, rfl, hcu⟩ := HR.out j hjl
          have HI := Lib.hid hcu
          have HRK := Lib.hid (HRL.out j hjl)
          have HXJ := Lib.hid (show nxtTo m xss (j + 1) = nxtTo m xss j ++ nxtIn (row xss j) m from rfl)
          have HXY := Lib.hid (show ∀ p, fits (row xss j) p = true → nxtTo m xss j ++ nxtIn (row xss j) (p + 1) = (nxtTo m xss j ++ nxtIn (row xss j) p) ++ [row xss j ++ [(p : Int)]] from fun p h => by rw [nxtIn_yes h, List.append_assoc])
          have HXN := Lib.hid (show ∀ p, fits (row xss j) p = false → nxtTo m xss j ++ nxtIn (row xss j) (p + 1) = nxtTo m xss j ++ nxtIn (row xss j) p from fun p h => by rw [nxtIn_no h])
          have HEL := Lib.hid (show ∀ p, p ≤ m → (nxtTo m xss j ++ nxtIn (row xss j) p).length ≤ 20000 from fun p hp => by
            rw [List.length_append]
            have h1 := nxtTo_len m xss j
            have h2 := nxtIn_len (row xss j) p
            have h3 := Nat.mul_le_mul (show j ≤ 3125 by omega) hm
            omega)
          have HFA := Lib.hid (show ∀ p, fitTo (row xss j) p k = fits (row xss j) p from fun p => fitTo_all HRK.out)
          have hjl1 : (j : Int) < (n : Int) := by omega
          clear hcu
          go_wp2
          go_loopw [5, 7] (fun v i wr => ∃ p : Nat, p ≤ m ∧ i = .int .i64 p ∧ Hid (∃ us, Full us ∧ OwnSS wr wo.heap.size wr.heap.size v us (nxtTo m xss j ++ nxtIn (row xss j) p)) ∧ Hid (Below wo.heap.size wo wr)) (fun _ i _ => m - (intOf i).toNat)
          case atStart => exact ⟨0, by omega, rfl, Lib.hid (by have := hO.out; simpa [nxtIn] using this), hB2⟩
          case round =>
            obtain ⟨p, hp, rfl, hO3, hB3⟩ := hrel
            obtain ⟨wp, rfl⟩ : ∃ wp : World, wp = wr := ⟨_, rfl⟩
            clear hO hB2
            by_cases hpl : p < m
            · have hpl1 : (p : Int) < (m : Int) := by omega
              have hcell := (HI.out _ hB3.out).1
              have HCI := Lib.hid (HI.out _ hB3.out).2
              go_wp2
              go_loop [8, 9] (fun f i => ∃ q : Nat, q ≤ k ∧ i = .int .i64 q ∧ f = .bool (fitTo (row xss j) p q)) (fun _ i => k - (intOf i).toNat)
              case atStart => exact ⟨0, by omega, rfl, rfl⟩
              case round =>
                obtain ⟨q, hq, rfl, rfl⟩ := hrel
                by_cases hql : q < k
                · have hql1 : (q : Int) < (k : Int) := by omega
                  have hcq := HCI.out q hql
                  obtain ⟨x, hx⟩ : ∃ x, nth (row xss j) q = x := ⟨_, rfl⟩
                  have HFS : Hid (fitTo (row xss j) p (q + 1) = (fitTo (row xss j) p q && decide (x ≠ (p : Int)))) := Lib.hid (by rw [← hx]; rfl)
                  rw [hx] at hcq
                  clear hx
                  cases hfq : fitTo (row xss j) p q
                  · have HF2 : Hid (fitTo (row xss j) p (q + 1) = false) := Lib.hid (by rw [HFS.out, hfq]; rfl)
                    clear hfq
                    go_wp2
                    go_round
                    case rel => exact ⟨q + 1, by omega, by go_num, by rw [HF2.out]⟩
                    case measure => simp [intOf]; omega
                  · by_cases hxp : x = (p : Int)
                    · have hd : (x != (p : Int)) = false := by simp [hxp]
                      have HF2 : Hid (fitTo (row xss j) p (q + 1) = false) := Lib.hid (by rw [HFS.out, hxp]; simp)
                      clear hfq hxp
                      go_wp2
                      go_round
                      case rel => exact ⟨q + 1, by omega, by go_num, by rw [HF2.out]⟩
                      case measure => simp [intOf]; omega
                    · have hd : (x != (p : Int)) = true := by simp [hxp]
                      have HF2 : Hid (fitTo (row xss j) p (q + 1) = true) := Lib.hid (by rw [HFS.out, hfq]; simp [hxp])
                      clear hfq hxp
                      go_wp2
                      go_round
                      case rel => exact ⟨q + 1, by omega, by go_num, by rw [HF2.out]⟩
                      case measure => simp [intOf]; omega
                · obtain rfl : q = k := by omega
                  rw [HFA.out]
                  cases hft : fits (row xss j) p
                  · have O4 : Hid (∃ us, Full us ∧ OwnSS wp wo.heap.size wp.heap.size u5 us (nxtTo m xss j ++ nxtIn (row xss j) (p + 1))) := Lib.hid (by rw [HXN.out p hft]; exact hO3.out)
                    clear hft hO3
                    go_wp2
                    go_roundw
                    case rel => exact ⟨p + 1, by omega, by go_num, O4, hB3⟩
                    case measure => simp [intOf]; omega
                  · have HFT := Lib.hid (HXY.out p hft)
                    obtain ⟨us, hf, ho⟩ := hO3.out
                    have HO := Lib.hid ho
                    have HF := Lib.hid hf
                    have hul : us.length ≤ 20000 := by have h1 := ho.len; have h2 := HEL.out p hp; omega
                    have hBA := Below.on hB3.out (below_grow wp (.cells #[] 3))
                    have hcell2 := (HI.out _ hBA).1
                    have HCI2 := Lib.hid (HI.out _ hBA).2
                    have hrk := HRK.out
                    clear hO3 ho hf hBA hft
                    go_wp2_with (at_builtin; refine wpAppInts (xs := []) (ys := row xss j) rfl _ _ rfl rfl (own_made' wp) HRK.out (by simp; omega) (by simp) rfl HCI2.out ?_)
                    intro v1 w1 o1 g1
                    have b1 : Below wp.heap.size wp w1 := (below_grow wp _).grown g1 (by simp) (fun k hk => ((own_made' wp).lt k hk).1)
                    have o1' : Own w1 wp.heap.size v1 (row xss j) := o1
                    clear hcell hcell2 o1 g1
                    go_wp2_with (at_builtin; refine wpAppInt rfl _ _ rfl rfl o1' (by omega) b1.size rfl ?_)
                    intro v2 w2 o2 g2 _
                    obtain ⟨X2, c2, rfl⟩ := own_slice o2 (by simp)
                    have b2 := b1.grown g2 b1.size (fun k hk => (o1'.lt k hk).1)
                    have O2 := Lib.hid o2
                    have B2 := Lib.hid b2
                    have hou : w2.ownsRow wo.heap.size 23 1 u5 us.length us := (HO.out.onAll b2).outer
                    clear o1' b1 o2 g2 b2 HCI HCI2 hrk
                    go_wp2_with (at_builtin; refine wpAppRow rfl _ _ rfl rfl hou (by omega) (Nat.le_trans hB3.out.size B2.out.size) rfl rfl ?_)
                    intro v4 w4 o4 g4 k4
                    have O4 : Hid (∃ us, Full us ∧ OwnSS w4 wo.heap.size w4.heap.size v4 us (nxtTo m xss j ++ nxtIn (row xss j) (p + 1))) := Lib.hid ⟨_, HF.out.app, by rw [HFT.out]; exact HO.out.next hB3.out.size B2.out O2.out (by simpa using o4) g4 k4⟩
                    have B4 := Lib.hid ((Below.on hB3.out B2.out).grown g4 (Nat.le_trans hB3.out.size B2.out.size) (fun k hk => (HO.out.outer.lt k hk).1))
                    clear o4 g4 k4 hou HO B2 O2 hB3
                    go_wp2
                    go_roundw
                    case rel => exact ⟨p + 1, by omega, by go_num, O4, B4⟩
                    case measure => simp [intOf]; omega
            · obtain rfl : p = m := by omega
              have O4 : Hid (∃ us, Full us ∧ OwnSS wp wo.heap.size wp.heap.size u5 us (nxtTo p xss (j + 1))) := Lib.hid (by rw [HXJ.out]; exact hO3.out)
              clear hO3
              go_wp2
              go_roundw
              case rel => exact ⟨j + 1, by omega, by go_num, O4, hB3⟩
              case measure => simp [intOf]; omega
        · obtain rfl : j = n := by omega
          have O5 : Hid (∃ us, Full us ∧ OwnSS wj w.heap.size wj.heap.size u5 us (ordTo m (k + 1))) := Lib.hid (by
            obtain ⟨us, hf, ho⟩ := hO.out
            exact ⟨us, hf, by rw [HX.out]; exact ho.lower hI.out.size⟩)
          have I5 := Lib.hid (Below.on hI.out hB2.out)
          clear hO hB2
          go_wp2
          go_roundw
          case rel => exact ⟨k + 1, by omega, by go_num, O5, I5⟩
          case measure => simp [intOf]; omega
    · obtain rfl : k = m := by omega
      obtain ⟨us, hf, ho⟩ := hO.out
      go_wp2
      go_ret
      exact ⟨_, us, rfl, ho, hf, hI.out⟩
end Go.Proofs.YtimkmdedoacpfabDoor
