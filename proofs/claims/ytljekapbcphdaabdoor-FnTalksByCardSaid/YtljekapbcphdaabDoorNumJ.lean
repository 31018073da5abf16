/- impl.numberRows: all rows of up to four numbers below 3. -/
import Derived.Test.YtljekapbcphdaabDoorNumI
namespace Go.Proofs.YtljekapbcphdaabDoor
open Go.RowKit

set_option maxHeartbeats 3200000 in
theorem inrow4_any (q m : Nat) (w : World) (hq3 : q = 3) (hm : m ≤ 4) :
    Calls Tryd.prog 85 #[.int .i64 q, .int .i64 m] w fun e w' => ∃ v us, e = .returned v ∧ OwnSS w' w.heap.size w'.heap.size v us (lots q m) ∧ Below w.heap.size w w' := by
  have O1 := Lib.hid (show OwnSS (w.alloc (.cells #[.slice none 0 0] 24)) w.heap.size (w.alloc (.cells #[.slice none 0 0] 24)).heap.size (.slice (some ⟨w.heap.size, 0, none⟩) 1 1) [.slice none 0 0] (lots q 0) from ownSS_one w)
  have B1 := Lib.hid (below_grow w (.cells #[.slice none 0 0] 24))
  have HL := Lib.hid (show ∀ k, k < m → (lots q k).length ≤ 40 from fun k hk => by
    rw [lots_len, hq3]
    have : k = 0 ∨ k = 1 ∨ k = 2 ∨ k = 3 := by omega
    rcases this with rfl | rfl | rfl | rfl <;> decide)
  have hq : q ≤ 40 := by omega
  clear hq3
  have HS := Lib.hid (show ∀ k, lots q (k + 1) = longTo q (lots q k) (lots q k).length from fun _ => rfl)
  go_enter Tryd.func85, Tryd.ntmps85
  go_wp2
  go_loopw [5, 12] (fun v i wr => ∃ k : Nat, k ≤ m ∧ i = .int .i64 k ∧ Hid (∃ us, OwnSS wr w.heap.size wr.heap.size v us (lots q k)) ∧ Hid (Below w.heap.size w wr)) (fun _ i _ => m - (intOf i).toNat)
  case atStart => exact ⟨0, by omega, rfl, Lib.hid ⟨_, O1.out⟩, B1⟩
  case round =>
    obtain ⟨k, hk, rfl, hO, hB⟩ := hrel
    obtain ⟨wo, rfl⟩ : ∃ wo : World, wo = wr := ⟨_, rfl⟩
    clear O1 B1
    by_cases hlt : k < m
    · obtain ⟨us, ho⟩ := hO.out
      obtain ⟨xss, hxs⟩ : ∃ xss, lots q k = xss := ⟨_, rfl⟩
      have hl40 : xss.length ≤ 40 := by rw [← hxs]; exact HL.out k hlt
      have hrl : ∀ j, j < xss.length → (row xss j).length = k := fun j hj => by rw [← hxs] at hj ⊢; exact lots_row hj
      rw [hxs] at ho
      obtain ⟨a, c, rfl, hrd⟩ := (ho.ints (by unfold maxLen; omega) (fun j hj => by rw [hrl j hj]; unfold maxLen; omega)).opened
      obtain ⟨n, hn⟩ : ∃ n, xss.length = n := ⟨_, rfl⟩
      have HRL := Lib.hid (show ∀ j, j < n → (row xss j).length ≤ 3 from fun j hj => by rw [hrl j (by rw [hn]; exact hj)]; omega)
      have HR := Lib.hid (show ∀ j, j < n → ∃ G u, a = some ⟨G, 0, none⟩ ∧ ∀ w', Below wo.heap.size wo w' → w'.cell? ⟨G, j, none⟩ = some u ∧ Ints w' u (row xss j) from fun j hj => by
        obtain ⟨G, u, e1, h1, e2, e3⟩ := hrd.get j (by rw [hn]; exact hj)
        exact ⟨G, u, e1, fun w' hb => ⟨(hb.cell (p := ⟨G, j, none⟩) h1).trans e2, e3.below hb⟩⟩)
      have HX : Hid (lots q (k + 1) = longTo q xss n) := Lib.hid (by rw [HS.out, hxs, hn])
      have hn40 : n ≤ 40 := by rw [← hn]; exact hl40
      rw [hn]
      clear ho hrd hl40 hrl hxs hn hO us
      go_wp2
      go_loopw [6, 16] (fun v i wr => ∃ j : Nat, j ≤ n ∧ i = .int .i64 j ∧ Hid (∃ us, OwnSS wr wo.heap.size wr.heap.size v us (longTo q xss j)) ∧ Hid (Below wo.heap.size wo wr)) (fun _ i _ => n - (intOf i).toNat)
      case atStart => exact ⟨0, by omega, rfl, Lib.hid ⟨[], OwnSS.nil _ _ _⟩, Lib.hid (Below.refl _ _)⟩
      case round =>
        obtain ⟨j, hj, rfl, hO, hB2⟩ := hrel
        obtain ⟨wj, rfl⟩ : ∃ wj : World, wj = wr := ⟨_, rfl⟩
        by_cases hjl : j < n
        · obtain ⟨G, u, rfl, hcu⟩ := HR.out j hjl
          have hc := (hcu _ hB2.out).1
          have HI := Lib.hid (fun w' hb => (hcu w' hb).2)
          have hrl := HRL.out j hjl
          have HLJ := Lib.hid (show (longTo q xss j).length ≤ 1600 from by
            rw [longTo_len]
            exact Nat.le_trans (Nat.mul_le_mul (show j ≤ 40 by omega) hq) (by decide))
          have HXJ := Lib.hid (show longTo q xss (j + 1) = longTo q xss j ++ extTo (row xss j) q from rfl)
          have HXE := Lib.hid (show ∀ i, longTo q xss j ++ extTo (row xss j) (i + 1) = (longTo q xss j ++ extTo (row xss j) i) ++ [row xss j ++ [(i : Int)]] from fun i => by rw [List.append_assoc]; rfl)
          have HEL := Lib.hid (show ∀ i, (longTo q xss j ++ extTo (row xss j) i).length = (longTo q xss j).length + i from fun i => by rw [List.length_append, extTo_len])
          clear hcu
          go_wp2
          clear hc
          go_loopw [6, 21] (fun v i wr => ∃ p : Nat, p ≤ q ∧ i = .int .i64 p ∧ Hid (∃ us, OwnSS wr wo.heap.size wr.heap.size v us (longTo q xss j ++ extTo (row xss j) p)) ∧ Hid (Below wo.heap.size wo wr)) (fun _ i _ => q - (intOf i).toNat)
          case atStart => exact ⟨0, by omega, rfl, Lib.hid (by have := hO.out; simpa [extTo] using this), hB2⟩
          case round =>
            obtain ⟨p, hp, rfl, hO3, hB3⟩ := hrel
            obtain ⟨wp, rfl⟩ : ∃ wp : World, wp = wr := ⟨_, rfl⟩
            clear hO hB2
            by_cases hpl : p < q
            · have I3 := Lib.hid (HI.out _ hB3.out)
              go_wp2_with fail
              refine (iclone_any u (row xss j) _ I3.out (by omega)).mono ?_
              rintro e w1 ⟨v1, rfl, o1, b1⟩
              go_wp2_with (at_builtin; refine wpAppInt rfl _ _ rfl rfl o1 (by omega) b1.size rfl ?_)
              intro v2 w2 o2 g2 _
              obtain ⟨a2, c2, rfl⟩ := o2.form
              have b2 := b1.grown g2 b1.size (fun k hk => (o1.lt k hk).1)
              obtain ⟨us, ho⟩ := hO3.out
              have hul : us.length ≤ 1640 := by have h1 := ho.len; have h2 := HEL.out p; have h3 := HLJ.out; omega
              have O2 := Lib.hid o2
              have B2 := Lib.hid b2
              have HO := Lib.hid ho
              have hou : w2.ownsRow wo.heap.size 24 1 u6 us.length us := (ho.on b2).outer
              clear o1 b1 o2 g2 b2 ho hO3 I3
              go_wp2_with (at_builtin; refine wpAppRow rfl _ _ rfl rfl hou (by omega) (Nat.le_trans hB3.out.size B2.out.size) rfl rfl ?_)
              intro v4 w4 o4 g4 k4
              have O4 : Hid (∃ us, OwnSS w4 wo.heap.size w4.heap.size v4 us (longTo q xss j ++ extTo (row xss j) (p + 1))) := Lib.hid ⟨_, by rw [HXE.out]; exact HO.out.next hB3.out.size B2.out O2.out (by simpa using o4) g4 k4⟩
              have B4 := Lib.hid ((Below.on hB3.out B2.out).grown g4 (Nat.le_trans hB3.out.size B2.out.size) (fun k hk => (HO.out.outer.lt k hk).1))
              clear o4 g4 k4 hou HO B2 O2
              go_wp2
              go_roundw
              case rel => exact ⟨p + 1, by omega, by go_num, O4, B4⟩
              case measure => simp [intOf]; omega
            · obtain rfl : p = q := by omega
              go_wp2
              go_roundw
              case rel => exact ⟨j + 1, by omega, by go_num, by rw [HXJ.out]; exact hO3, hB3⟩
              case measure => simp [intOf]; omega
        · obtain rfl : j = n := by omega
          have O5 : Hid (∃ us, OwnSS wj w.heap.size wj.heap.size u6 us (lots q (k + 1))) := Lib.hid (by
            obtain ⟨us, ho⟩ := hO.out
            exact ⟨us, by rw [HX.out]; exact ho.lower hB.out.size⟩)
          have B5 := Lib.hid (Below.on hB.out hB2.out)
          clear hO hB2
          go_wp2
          go_roundw
          case rel => exact ⟨k + 1, by omega, by go_num, O5, B5⟩
          case measure => simp [intOf]; omega
    · obtain rfl : k = m := by omega
      obtain ⟨us, ho⟩ := hO.out
      go_wp2
      go_ret
      exact ⟨_, _, rfl, ho, hB.out⟩
end Go.Proofs.YtljekapbcphdaabDoor
