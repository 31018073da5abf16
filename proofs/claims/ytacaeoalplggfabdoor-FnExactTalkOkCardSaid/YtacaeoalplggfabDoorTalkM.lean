/- spec.TalksMany. -/
import Derived.Test.YtacaeoalplggfabDoorTalkS3
import Derived.Test.YtacaeoalplggfabDoorPureT2
namespace Go.Proofs.YtacaeoalplggfabDoor
open Go.RowKit

theorem ord_of2 {g : Int} (h0 : 0 ≤ g) (h4 : g < 4) : ∃ q : Nat, ord g = q ∧ 3 ≤ q ∧ q ≤ 23 := by
  obtain ⟨o1, o2⟩ := ord_bd h0 h4
  exact ⟨(ord g).toNat, by omega, by omega, by omega⟩

set_option maxHeartbeats 800000 in
theorem smany_any (g key say ask : Int) (w : World) : Calls Tryd.prog 21 #[.int .i64 g, .int .i64 key, .int .i64 say, .int .i64 ask] w fun e w' => e = .returned (.int .i64 (manyOf g key say ask)) ∧ Below w.heap.size w w' := by
  have B0 := Lib.hid (Below.refl w.heap.size w)
  by_cases hx : elB g key = true ∧ elB g say = true ∧ exB g ask = true
  · obtain ⟨h1, h2, h3⟩ := hx
    have HX := Lib.hid (many_yes h1 h2 h3)
    obtain ⟨g0, g4⟩ := elB_group h1
    obtain ⟨q, hq, q3, q23⟩ := ord_of2 g0 g4
    obtain ⟨Tb, hT⟩ : ∃ Tb : Int → Bool, ∀ t, tokB g key say ask t = Tb t := ⟨_, fun _ => rfl⟩
    obtain ⟨C, hC⟩ : ∃ C : Nat → Int, C = cntT g key say ask := ⟨_, rfl⟩
    have HT := Lib.hid hT
    have HN := Lib.hid (show ∀ k : Nat, Tb k = false → C (k + 1) = C k from fun k h => by rw [hC]; exact cntT_no ((hT _).trans h))
    have HY := Lib.hid (show ∀ k : Nat, Tb k = true → C (k + 1) = C k + 1 from fun k h => by rw [hC]; exact cntT_yes ((hT _).trans h))
    have HC := Lib.hid (show ∀ k : Nat, 0 ≤ C k ∧ C k ≤ k from fun k => by rw [hC]; exact cntT_bd _ _ _ _ k)
    have H0 := Lib.hid (show C 0 = 0 by rw [hC]; rfl)
    have HA := Lib.hid (show C q = 1 by rw [hC]; exact cntT_all h1 h2 h3 hq)
    have HQ := Lib.hid hq
    clear hq hT hC
    go_enter Tryd.func21, Tryd.ntmps21
    go_wp2_with fail
    refine (sel_any _ _ _).mono ?_
    rintro e w1 ⟨rfl, hb⟩
    have B1 : Hid (Below w.heap.size w w1) := Lib.hid (B0.out.trans (hb.mono B0.out.size))
    clear hb
    go_wp2_with fail
    refine (sel_any _ _ _).mono ?_
    rintro e w2 ⟨rfl, hb⟩
    have B2 : Hid (Below w.heap.size w w2) := Lib.hid (B1.out.trans (hb.mono B1.out.size))
    clear hb
    go_wp2_with fail
    refine (sex_any _ _ _).mono ?_
    rintro e w3 ⟨rfl, hb⟩
    have B3 : Hid (Below w.heap.size w w3) := Lib.hid (B2.out.trans (hb.mono B2.out.size))
    clear hb
    go_wp2
    go_loopw [9, 10] (fun m x wr => ∃ k : Nat, k ≤ q ∧ m = .int .i64 (C k) ∧ x = .int .i64 k ∧ Below w.heap.size w wr) (fun _ x _ => q - (intOf x).toNat)
    case atStart => exact ⟨0, by omega, by rw [H0.out], rfl, B3.out⟩
    case round =>
      obtain ⟨k, hk, rfl, rfl, hbr⟩ := hrel
      obtain ⟨m1, m2⟩ := HC.out k
      go_wp2_with fail
      refine (sord_any _ _).mono ?_
      rintro e wo ⟨rfl, hb⟩
      have hbo := hbr.trans (hb.mono hbr.size)
      clear hb hbr
      rw [HQ.out]
      by_cases hlt : k < q
      · go_wp2_with fail
        refine (stok_any _ _ _ _ _ _).mono ?_
        rintro e wt ⟨rfl, hb⟩
        have hbt := hbo.trans (hb.mono hbo.size)
        clear hb hbo
        rw [HT.out]
        cases ht : Tb k
        · have hc := Lib.hid (HN.out k ht)
          go_wp2
          go_roundw
          case rel => exact ⟨k + 1, by omega, by rw [hc.out], by go_num, hbt⟩
          case measure => simp [intOf]; omega
        · have hc := Lib.hid (HY.out k ht)
          go_wp2
          go_roundw
          case rel => exact ⟨k + 1, by omega, by rw [hc.out], by go_num, hbt⟩
          case measure => simp [intOf]; omega
      · obtain rfl : k = q := by omega
        go_wp2
        go_ret
        exact ⟨ret_int (by rw [HX.out, HA.out]), hbo⟩
  · have HX := Lib.hid (many_no hx)
    cases h1 : elB g key
    · clear hx
      go_enter Tryd.func21, Tryd.ntmps21
      go_wp2_with fail
      refine (sel_any _ _ _).mono ?_
      rintro e w1 ⟨rfl, hb⟩
      have B1 : Hid (Below w.heap.size w w1) := Lib.hid (B0.out.trans (hb.mono B0.out.size))
      clear hb
      go_wp2
      go_ret
      exact ⟨by rw [HX.out]; rfl, B1.out⟩
    · cases h2 : elB g say
      · clear hx
        go_enter Tryd.func21, Tryd.ntmps21
        go_wp2_with fail
        refine (sel_any _ _ _).mono ?_
        rintro e w1 ⟨rfl, hb⟩
        have B1 : Hid (Below w.heap.size w w1) := Lib.hid (B0.out.trans (hb.mono B0.out.size))
        clear hb
        go_wp2_with fail
        refine (sel_any _ _ _).mono ?_
        rintro e w2 ⟨rfl, hb⟩
        have B2 : Hid (Below w.heap.size w w2) := Lib.hid (B1.out.trans (hb.mono B1.out.size))
        clear hb
        go_wp2
        go_ret
        exact ⟨by rw [HX.out]; rfl, B2.out⟩
      · have h3 : exB g ask = false := by
          cases h3 : exB g ask
          · rfl
          · exact absurd ⟨h1, h2, h3⟩ hx
        clear hx
        go_enter Tryd.func21, Tryd.ntmps21
        go_wp2_with fail
        refine (sel_any _ _ _).mono ?_
        rintro e w1 ⟨rfl, hb⟩
        have B1 : Hid (Below w.heap.size w w1) := Lib.hid (B0.out.trans (hb.mono B0.out.size))
        clear hb
        go_wp2_with fail
        refine (sel_any _ _ _).mono ?_
        rintro e w2 ⟨rfl, hb⟩
        have B2 : Hid (Below w.heap.size w w2) := Lib.hid (B1.out.trans (hb.mono B1.out.size))
        clear hb
        go_wp2_with fail
        refine (sex_any _ _ _).mono ?_
        rintro e w3 ⟨rfl, hb⟩
        have B3 : Hid (Below w.heap.size w w3) := Lib.hid (B2.out.trans (hb.mono B2.out.size))
        clear hb
        go_wp2
        go_ret
        exact ⟨by rw [HX.out]; rfl, B3.out⟩

end Go.Proofs.YtacaeoalplggfabDoor
