/- spec: AskerOk, l9Place, AskedBy. -/
import Derived.Test.YtahegppdfcndkaaDoorBRd
import Derived.Test.YtahegppdfcndkaaDoorBTalk
import Derived.Test.YtahegppdfcndkaaDoorPureK
namespace Go.Proofs.YtahegppdfcndkaaDoor
open Go.RowKit

set_option maxHeartbeats 800000 in
theorem sask_any (g : Int) (v : Value) (l : List Int) (w : World) (h : Ints w v l) : Calls Tryd.prog 26 #[.int .i64 g, v] w fun e w' => e = .returned (.bool (askB g l)) ∧ Below w.heap.size w w' := by
  obtain ⟨a, c, rfl, k1⟩ := h.opened
  obtain ⟨n, hn⟩ : ∃ n, l.length = n := ⟨_, rfl⟩
  have hmax := k1.max
  have HC := Lib.hid (show ∀ w', Below w.heap.size w w' → ∀ k, k < n → _ from fun w' hb k hk => (k1.on hb).get k (by rw [hn]; exact hk))
  have HY := Lib.hid (show (∀ j, j < n → exB g (nth l j) = true) → askB g l = (gok g && decide ((n : Int) = ord g)) from fun h => by unfold askB; rw [allEx_yes fun j hj => h j (by rw [← hn]; exact hj), hn, Bool.and_true])
  have HN := Lib.hid (show ∀ k, k < n → exB g (nth l k) = false → askB g l = false from fun k hk h => by unfold askB; rw [allEx_no (by rw [hn]; exact hk) h, Bool.and_false, Bool.and_false])
  rw [hn] at hmax ⊢
  unfold maxLen at hmax
  clear h k1 hn
  go_enter Tryd.func26, Tryd.ntmps26
  go_wp2
  go_loopw [5] (fun i wr => ∃ k : Nat, k ≤ n ∧ i = .int .i64 k ∧ Hid (∀ j, j < k → exB g (nth l j) = true) ∧ Hid (Below w.heap.size w wr)) (fun i _ => n - (intOf i).toNat)
  case atStart => exact ⟨0, by omega, rfl, Lib.hid (fun j hj => by omega), Lib.hid (Below.refl _ _)⟩
  case round =>
    obtain ⟨k, hk, rfl, hj, hb⟩ := hrel
    obtain ⟨wo, rfl⟩ : ∃ wo : World, wo = wr := ⟨_, rfl⟩
    by_cases hlt : k < n
    · obtain ⟨A, rfl, _, hc⟩ := HC.out _ hb.out k hlt
      go_wp2_with fail
      refine (sex_any g (nth l k) _).mono ?_
      rintro e w2 ⟨rfl, hb2⟩
      have B2 := Lib.hid (Below.on hb.out hb2)
      clear hc hb hb2
      cases he : exB g (nth l k)
      · have HX := Lib.hid (HN.out k hlt he)
        go_wp2
        go_ret
        exact ⟨by rw [HX.out]; rfl, B2.out⟩
      · have HJ : Hid (∀ j, j < k + 1 → exB g (nth l j) = true) := Lib.hid (fun j hj' => by
          by_cases e : j < k
          · exact hj.out j e
          · obtain rfl : j = k := by omega
            exact he)
        clear hj
        go_wp2
        go_roundw
        case rel => exact ⟨k + 1, by omega, by go_num, HJ, B2⟩
        case measure => simp [intOf]; omega
    · obtain rfl : k = n := by omega
      have HX := Lib.hid (HY.out hj.out)
      have B1 := hb
      go_wp2_with fail
      refine (l1In_any g 0 3 _).mono ?_
      rintro e w2 ⟨rfl, rfl⟩
      by_cases hg : 0 ≤ g ∧ g < 4
      · have hb1 : (decide (0 ≤ g) && decide (g ≤ 3)) = true := by simp; omega
        have HX2 := Lib.hid (show askB g l = ((k : Int) == ord g) by rw [HX.out, gok_true.2 hg]; rfl)
        rw [hb1]
        clear hg hb1
        go_wp2_with fail
        refine (sord_any g _).mono ?_
        rintro e w3 ⟨rfl, hb3⟩
        have B3 := Lib.hid (Below.on B1.out hb3)
        clear hb3
        obtain ⟨o, ho⟩ : ∃ o, ord g = o := ⟨_, rfl⟩
        rw [ho] at HX2 ⊢
        clear ho
        go_wp2
        go_ret
        exact ⟨by rw [HX2.out]; rfl, B3.out⟩
      · have hb1 : (decide (0 ≤ g) && decide (g ≤ 3)) = false := by
          cases hc : (decide (0 ≤ g) && decide (g ≤ 3))
          · rfl
          · simp at hc; omega
        have HX2 := Lib.hid (show askB g l = false by rw [HX.out, gok_false.2 hg]; rfl)
        rw [hb1]
        clear hg hb1
        go_wp2
        go_ret
        exact ⟨by rw [HX2.out]; rfl, B1.out⟩

theorem own_slice8 {w : World} {B : Nat} {v : Value} {xs : List Int} (h : Own w B v xs) (hx : 0 < xs.length) : ∃ g c, v = .slice (some ⟨g, 0, none⟩) xs.length c := by
  rcases id h.2 with ⟨rfl, h0⟩ | ⟨g, cap, cur, rfl, _⟩
  · omega
  · exact ⟨_, _, rfl⟩
theorem plc_ne {g s : Int} (h0 : 0 ≤ g) (h4 : g < 4) {k : Nat} (hk : k < plc g s) (hs : elB g s = true) : nth (els g) k ≠ s := fun e => by
  have h1 := plc_lt hs
  have h2 := plc_nth h0 h4 (k := k) (by omega)
  rw [e] at h2
  omega
set_option maxHeartbeats 800000 in
theorem splc_any (g s : Int) (w : World) (hs : elB g s = true) : Calls Tryd.prog 55 #[.int .i64 g, .int .i64 s] w fun e w' => e = .returned (.int .i64 (plc g s)) ∧ Below w.heap.size w w' := by
  obtain ⟨h0, h4⟩ := elB_group hs
  have hpl := plc_lt hs
  have HNE := Lib.hid (show ∀ k, k < plc g s → nth (els g) k ≠ s from fun k hk => plc_ne h0 h4 hk hs)
  have HAT := Lib.hid (plc_at hs)
  have he23 : (els g).length ≤ 23 := els_len
  obtain ⟨n, hn⟩ : ∃ n, (els g).length = n := ⟨_, rfl⟩
  obtain ⟨m, hm⟩ : ∃ m, plc g s = m := ⟨_, rfl⟩
  rw [hn] at hpl he23
  rw [hm] at hpl HNE HAT ⊢
  have HN := Lib.hid hn
  clear hn hm hs h0 h4
  go_enter Tryd.func55, Tryd.ntmps55
  go_wp2_with fail
  refine (sels_any g _).mono ?_
  rintro e w1 ⟨v, rfl, o1, hb⟩
  obtain ⟨ea, ec, rfl⟩ := own_slice8 o1 (by rw [HN.out]; omega)
  rw [HN.out] at o1 ⊢
  have HC := Lib.hid (fun k (hk : k < n) => (Own.set o1 HN.out hk 0).1.2)
  have B1 := Lib.hid hb
  clear o1 hb
  go_wp2
  go_loopw [6] (fun i wr => ∃ k : Nat, k ≤ m ∧ i = .int .i64 k ∧ Hid (∃ j, wr = w1.drewN j)) (fun i _ => m - (intOf i).toNat)
  case atStart => exact ⟨0, by omega, rfl, Lib.hid ⟨0, rfl⟩⟩
  case round =>
    obtain ⟨k, hk, rfl, hw⟩ := hrel
    obtain ⟨wo, rfl⟩ : ∃ wo : World, wo = wr := ⟨_, rfl⟩
    obtain ⟨jj, rfl⟩ := hw.out
    have hc := HC.out k (by omega)
    have hlt1 : (k : Int) < (n : Int) := by omega
    by_cases hlt : k < m
    · have hne := HNE.out k hlt
      obtain ⟨x, hx⟩ : ∃ x, nth (els g) k = x := ⟨_, rfl⟩
      rw [hx] at hc hne
      clear hx hw
      have hq : (x != s) = true := bne_iff_ne.2 hne
      have hq2 : (x == s) = false := beq_eq_false_iff_ne.2 hne
      go_wp2
      go_roundw
      case rel => exact ⟨k + 1, by omega, by go_num, Lib.hid ⟨_, rfl⟩⟩
      case measure => simp [intOf]; omega
    · obtain rfl : k = m := by omega
      rw [HAT.out] at hc
      have hq : (s != s) = false := by simp
      have hq2 : (s == s) = true := by simp
      clear hw
      go_wp2
      go_ret
      exact ⟨rfl, Below.on B1.out (below_drewN (Below.refl _ _) _)⟩

set_option maxHeartbeats 800000 in
theorem sasb_any (g s : Int) (v : Value) (l : List Int) (w : World) (h : Ints w v l) : Calls Tryd.prog 31 #[.int .i64 g, v, .int .i64 s] w fun e w' => e = .returned (.int .i64 (askedB g l s)) ∧ Below w.heap.size w w' := by
  have HH := Lib.hid h
  obtain ⟨a, c, rfl, k1⟩ := h.opened
  have HK := Lib.hid k1
  have B0 := Lib.hid (Below.refl w.heap.size w)
  clear h k1
  cases ha : askB g l
  · have HX := Lib.hid (asked_no1 (s := s) ha)
    have HA := Lib.hid ha
    clear ha
    go_enter Tryd.func31, Tryd.ntmps31
    go_wp2_with fail
    refine (sask_any g _ l _ HH.out).mono ?_
    rintro e w1 ⟨rfl, hb⟩
    rw [HA.out]
    have B1 := Lib.hid (Below.on B0.out hb)
    clear hb
    go_wp2
    go_ret
    exact ⟨by rw [HX.out]; rfl, B1.out⟩
  cases hs : elB g s
  · have HX := Lib.hid (asked_no2 (l := l) hs)
    have HA := Lib.hid ha
    have HS := Lib.hid hs
    clear ha hs
    go_enter Tryd.func31, Tryd.ntmps31
    go_wp2_with fail
    refine (sask_any g _ l _ HH.out).mono ?_
    rintro e w1 ⟨rfl, hb⟩
    rw [HA.out]
    have B1 := Lib.hid (Below.on B0.out hb)
    clear hb
    go_wp2_with fail
    refine (sel_any g s _).mono ?_
    rintro e w2 ⟨rfl, hb⟩
    rw [HS.out]
    have B2 := Lib.hid (Below.on B1.out hb)
    clear hb
    go_wp2
    go_ret
    exact ⟨by rw [HX.out]; rfl, B2.out⟩
  have HX := Lib.hid (show askedB g l s = nth l (plc g s) from asked_yes ha hs)
  have HP := Lib.hid (show plc g s < l.length by rw [(askB_len ha).1]; exact plc_lt hs)
  have HA := Lib.hid ha
  have HS := Lib.hid hs
  clear ha hs
  go_enter Tryd.func31, Tryd.ntmps31
  go_wp2_with fail
  refine (sask_any g _ l _ HH.out).mono ?_
  rintro e w1 ⟨rfl, hb⟩
  rw [HA.out]
  have B1 := Lib.hid (Below.on B0.out hb)
  clear hb
  go_wp2_with fail
  refine (sel_any g s _).mono ?_
  rintro e w2 ⟨rfl, hb⟩
  rw [HS.out]
  have B2 := Lib.hid (Below.on B1.out hb)
  clear hb
  go_wp2_with fail
  refine (splc_any g s _ HS.out).mono ?_
  rintro e w3 ⟨rfl, hb⟩
  have B3 := Lib.hid (Below.on B2.out hb)
  clear hb
  obtain ⟨A, rfl, _, hc⟩ := (HK.out.on B3.out).get _ HP.out
  have hlt1 : (plc g s : Int) < (l.length : Int) := by have := HP.out; omega
  obtain ⟨m, hm⟩ : ∃ m, plc g s = m := ⟨_, rfl⟩
  rw [hm] at hc hlt1 HX ⊢
  clear hm
  go_wp2
  go_ret
  exact ⟨by rw [HX.out]; rfl, B3.out⟩
end Go.Proofs.YtahegppdfcndkaaDoor
