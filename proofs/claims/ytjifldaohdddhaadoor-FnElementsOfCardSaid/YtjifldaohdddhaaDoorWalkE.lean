/- Contracts of spec's products, powers, logarithms and inverses. -/
import Derived.Test.YtjifldaohdddhaaDoorWalkD
namespace Go.Proofs.YtjifldaohdddhaaDoor
open Go.RowKit

theorem stim_any (g a b : Int) (w : World) : Calls Tryd.prog 33 #[.int .i64 g, .int .i64 a, .int .i64 b] w fun e w' => e = .returned (.int .i64 (tim g a b)) ∧ Below w.heap.size w w' := by
  cases ha : elB g a
  · have HX := Lib.hid (tim_no1 (b := b) ha)
    go_enter Tryd.func33, Tryd.ntmps33
    go_wp2_with fail
    refine (sel_any _ _ _).mono ?_
    rintro e w1 ⟨rfl, hb1⟩
    go_wp2
    go_ret
    exact ⟨by rw [HX.out]; rfl, hb1⟩
  · cases hb : elB g b
    · have HX := Lib.hid (tim_no2 (a := a) hb)
      go_enter Tryd.func33, Tryd.ntmps33
      go_wp2_with fail
      refine (sel_any _ _ _).mono ?_
      rintro e w1 ⟨rfl, hb1⟩
      go_wp2_with fail
      refine (sel_any _ _ _).mono ?_
      rintro e w2 ⟨rfl, hb2⟩
      go_wp2
      go_ret
      exact ⟨by rw [HX.out]; rfl, Below.on hb1 hb2⟩
    · have HX := Lib.hid (tim_yes ha hb)
      obtain ⟨h0, h4⟩ := elB_group ha
      obtain ⟨a1, _, a2⟩ := elB_bound ha
      obtain ⟨b1, _, b2⟩ := elB_bound hb
      go_enter Tryd.func33, Tryd.ntmps33
      go_wp2_with fail
      refine (sel_any _ _ _).mono ?_
      rintro e w1 ⟨rfl, hb1⟩
      go_wp2_with fail
      refine (sel_any _ _ _).mono ?_
      rintro e w2 ⟨rfl, hb2⟩
      go_wp2_with fail
      refine (stms_any _ _ _ _ (by omega) (by omega) (by omega) (by omega) (by omega) (by omega)).mono ?_
      rintro e w3 ⟨rfl, hb3⟩
      go_wp2
      go_ret
      exact ⟨ret_int HX.out.symm, Below.on hb1 (Below.on hb2 hb3)⟩

theorem spower_any (g a n : Int) (w : World) : Calls Tryd.prog 37 #[.int .i64 g, .int .i64 a, .int .i64 n] w fun e w' => e = .returned (.int .i64 (gpow g a n)) ∧ Below w.heap.size w w' := by
  cases ha : elB g a
  · have HX := Lib.hid (gpow_no1 (n := n) ha)
    go_enter Tryd.func37, Tryd.ntmps37
    go_wp2_with fail
    refine (sel_any _ _ _).mono ?_
    rintro e w1 ⟨rfl, hb1⟩
    go_wp2
    go_ret
    exact ⟨by rw [HX.out]; rfl, hb1⟩
  · by_cases hn : -9999 ≤ n ∧ n ≤ 9999
    · obtain ⟨n1, n2⟩ := hn
      have HX := Lib.hid (gpow_yes ha n1 n2)
      have hd : (decide (-9999 ≤ n) && decide (n ≤ 9999)) = true := by simp; omega
      have hd1 : decide (-9999 ≤ n) = true := by simp; omega
      have hd2 : decide (n ≤ 9999) = true := by simp; omega
      obtain ⟨h0, h4⟩ := elB_group ha
      obtain ⟨a1, _, a2⟩ := elB_bound ha
      go_enter Tryd.func37, Tryd.ntmps37
      go_wp2_with fail
      refine (sel_any _ _ _).mono ?_
      rintro e w1 ⟨rfl, hb1⟩
      go_wp2_with fail
      refine (l1In_any _ _ _ _).mono ?_
      rintro e w2 ⟨rfl, rfl⟩
      go_wp2_with fail
      refine (spow_any _ _ _ _ (by omega) (by omega) (by omega) (by omega) (by omega) (by omega)).mono ?_
      rintro e w3 ⟨rfl, hb3⟩
      go_wp2
      go_ret
      exact ⟨ret_int HX.out.symm, Below.on hb1 hb3⟩
    · have HX := Lib.hid (gpow_no2 (g := g) (a := a) hn)
      have hd : (decide (-9999 ≤ n) && decide (n ≤ 9999)) = false := by simp; omega
      go_enter Tryd.func37, Tryd.ntmps37
      go_wp2_with fail
      refine (sel_any _ _ _).mono ?_
      rintro e w1 ⟨rfl, hb1⟩
      go_wp2_with fail
      refine (l1In_any _ _ _ _).mono ?_
      rintro e w2 ⟨rfl, rfl⟩
      go_wp2
      go_ret
      exact ⟨by rw [HX.out]; rfl, hb1⟩

theorem sback_any (g n : Int) (w : World) : Calls Tryd.prog 45 #[.int .i64 g, .int .i64 n] w fun e w' => e = .returned (.int .i64 (gback g n)) ∧ Below w.heap.size w w' := by
  cases hx : exB g n
  · have HX := Lib.hid (gback_no hx)
    go_enter Tryd.func45, Tryd.ntmps45
    go_wp2_with fail
    refine (sex_any _ _ _).mono ?_
    rintro e w1 ⟨rfl, hb1⟩
    go_wp2
    go_ret
    exact ⟨by rw [HX.out]; rfl, hb1⟩
  · by_cases h1 : n = 0
    · subst h1
      have HX := Lib.hid (back_zero g)
      go_enter Tryd.func45, Tryd.ntmps45
      go_wp2_with fail
      refine (sex_any _ _ _).mono ?_
      rintro e w1 ⟨rfl, hb1⟩
      go_wp2
      go_ret
      exact ⟨by rw [HX.out]; rfl, hb1⟩
    · have HX := Lib.hid (gback_pow hx h1)
      obtain ⟨⟨h0, h4⟩, n0, n1⟩ := exB_true.1 hx
      obtain ⟨q1, q2⟩ := ord_bd h0 h4
      have hz : (n == 0) = false := by simpa using h1
      go_enter Tryd.func45, Tryd.ntmps45
      go_wp2_with fail
      refine (sex_any _ _ _).mono ?_
      rintro e w1 ⟨rfl, hb1⟩
      go_wp2_with fail
      refine (sord_any _ _).mono ?_
      rintro e w2 ⟨rfl, hb2⟩
      go_wp2_with fail
      refine (sord_any _ _).mono ?_
      rintro e w3 ⟨rfl, hb3⟩
      go_wp2_with fail
      refine (spw_any _ _ _ _ (by omega) (by omega) (by omega) (by omega) (by omega) (by omega)).mono ?_
      rintro e w4 ⟨rfl, rfl⟩
      go_wp2
      go_ret
      exact ⟨ret_int HX.out.symm, Below.on hb1 (Below.on hb2 hb3)⟩

theorem slog_any (g b a : Int) (w : World) : Calls Tryd.prog 42 #[.int .i64 g, .int .i64 b, .int .i64 a] w fun e w' => e = .returned (.int .i64 (glog g b a)) ∧ Below w.heap.size w w' := by
  cases hb : elB g b
  · have HX := Lib.hid (glog_no1 (a := a) hb)
    go_enter Tryd.func42, Tryd.ntmps42
    go_wp2_with fail
    refine (sel_any _ _ _).mono ?_
    rintro e w1 ⟨rfl, hb1⟩
    go_wp2
    go_ret
    exact ⟨by rw [HX.out]; rfl, hb1⟩
  · cases ha : elB g a
    · have HX := Lib.hid (glog_no2 (b := b) ha)
      go_enter Tryd.func42, Tryd.ntmps42
      go_wp2_with fail
      refine (sel_any _ _ _).mono ?_
      rintro e w1 ⟨rfl, hb1⟩
      go_wp2_with fail
      refine (sel_any _ _ _).mono ?_
      rintro e w2 ⟨rfl, hb2⟩
      go_wp2
      go_ret
      exact ⟨by rw [HX.out]; rfl, Below.on hb1 hb2⟩
    · by_cases h1 : b = 1
      · subst h1
        have HX := Lib.hid (glog_no3 (g := g) (a := a))
        go_enter Tryd.func42, Tryd.ntmps42
        go_wp2_with fail
        refine (sel_any _ _ _).mono ?_
        rintro e w1 ⟨rfl, hb1⟩
        go_wp2_with fail
        refine (sel_any _ _ _).mono ?_
        rintro e w2 ⟨rfl, hb2⟩
        go_wp2
        go_ret
        exact ⟨by rw [HX.out]; rfl, Below.on hb1 hb2⟩
      · have h1b : (b == 1) = false := by simpa using h1
        have HH := Lib.hid (fun (k : Nat) => glog_hit (k := k) hb ha h1)
        have HF := Lib.hid (fun (k : Nat) => glog_first (k := k) hb ha h1)
        obtain ⟨l0, l1, l2⟩ := glog_spec hb ha h1
        have HL := Lib.hid l2; clear l2 h1
        obtain ⟨q, hq⟩ : ∃ q : Nat, glog g b a = q := ⟨(glog g b a).toNat, by omega⟩
        have hq1 : (q : Int) < ord g := by omega
        have HQ := Lib.hid hq; clear hq l0 l1
        obtain ⟨h0, h4⟩ := elB_group hb
        obtain ⟨q1, q2⟩ := ord_bd h0 h4
        obtain ⟨b1, _, b2⟩ := elB_bound hb
        go_enter Tryd.func42, Tryd.ntmps42
        go_wp2_with fail
        refine (sel_any _ _ _).mono ?_
        rintro e w1 ⟨rfl, hb1⟩
        go_wp2_with fail
        refine (sel_any _ _ _).mono ?_
        rintro e w2 ⟨rfl, hb2⟩
        go_wp2
        go_loopw [7] (fun x wr => ∃ k : Nat, k ≤ q ∧ x = .int .i64 k ∧ NoneB (prm g) b a k ∧ Below w.heap.size w wr) (fun x _ => q - (intOf x).toNat)
        case atStart => exact ⟨0, by omega, rfl, NoneB.zero _ _ _, Below.on hb1 hb2⟩
        case round =>
          obtain ⟨k, hk, rfl, hn, hbr⟩ := hrel
          have HK := Lib.hid (show ((k : Int) % ord g).toNat = k by rw [Int.emod_eq_of_lt (by omega) (by omega)]; rfl)
          go_wp2_with fail
          refine (spow_any _ _ _ _ (by omega) (by omega) (by omega) (by omega) (by omega) (by omega)).mono ?_
          rintro e w3 ⟨rfl, hb3⟩
          rw [HK.out]
          by_cases he : pw (prm g) b k = a
          · have HT := Lib.hid (HH.out k (by omega) hn he)
            have he' : (pw (prm g) b k != a) = false := by simpa using he
            clear he hn
            go_wp2
            go_ret
            exact ⟨ret_int HT.out.symm, hbr.trans (hb3.mono hbr.size)⟩
          · have hne : (pw (prm g) b k != a) = true := by simpa using he
            have hn' := hn.succ he
            have hlt : ((k : Int) + 1 ≤ q) := by have := HF.out (k + 1) hn'; rw [HQ.out] at this; omega
            clear hn he
            go_wp2
            go_roundw
            case rel => exact ⟨k + 1, by omega, by go_num, hn', hbr.trans (hb3.mono hbr.size)⟩
            case measure => simp [intOf]; omega

end Go.Proofs.YtjifldaohdddhaaDoor
