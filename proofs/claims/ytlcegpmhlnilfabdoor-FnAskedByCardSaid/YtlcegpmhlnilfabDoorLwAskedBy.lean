/- The law FnAskedBy, walked. -/
import Derived.Test.YtlcegpmhlnilfabDoorAsI
import Derived.Test.YtlcegpmhlnilfabDoorAsS
import Derived.Test.YtlcegpmhlnilfabDoorDrA
import Derived.Test.YtlcegpmhlnilfabDoorBLaw
namespace Go.Proofs.YtlcegpmhlnilfabDoor
open Go.RowKit

set_option maxRecDepth 20000 in
set_option maxHeartbeats 3200000 in
theorem lAskedBy_walk (s : Value) (w : World) (h : CodeIn w s) (G : Gr w) : Calls Tryd.prog 5 #[s] w fun e w' => e = .returned (.bool true) ∧ Below w.heap.size w w' := by
  obtain ⟨a0, len0, cap0, rfl⟩ := h.slice
  have H := Lib.hid h; clear h
  have G0 := Lib.hid G; clear G
  by_cases hl : 1048576 < len0
  · go_enter Tryd.func5, Tryd.ntmps5
    go_wp2
    go_ret
    exact ⟨rfl, Below.refl _ _⟩
  go_enter Tryd.func5, Tryd.ntmps5
  go_wp2_with fail
  refine (drawAskedBy_any _ _ H.out).mono ?_
  rintro e w1 ⟨g, x, av, l, rfl, hlen, hI, hb⟩
  obtain ⟨la, lc, rfl, _⟩ := hI.opened
  have FB := Lib.hid (show ∀ w', Below w1.heap.size w1 w' → (Gr w' ∧ Ints w' (.slice la l.length lc) l) ∧ Below w.heap.size w w' from fun w' hb' => ⟨⟨G0.out.on (Below.on hb hb'), hI.below hb'⟩, Below.on hb hb'⟩)
  have T1 := Lib.hid (Below.refl w1.heap.size w1)
  clear hI hb
  cases h1 : askB g l
  · have HX := Lib.hid (asked_no1 (s := x) h1)
    clear h1
    go_wp2_with fail
    refine (iasb_any g x _ l _ (FB.out _ T1.out).1.1 (FB.out _ T1.out).1.2).mono ?_
    rintro e w2 ⟨rfl, hb⟩
    rw [HX.out]
    have T2 := Lib.hid (Below.on T1.out hb)
    clear hb
    go_wp2_with fail
    refine (sasb_any g x _ l _ (FB.out _ T2.out).1.2).mono ?_
    rintro e w3 ⟨rfl, hb⟩
    rw [HX.out]
    have T3 := Lib.hid (Below.on T2.out hb)
    clear hb
    go_wp2_with fail
    refine (alive_any _ (FB.out _ T3.out).1.1).mono ?_
    rintro e wz ⟨rfl, rfl⟩
    go_wp2
    go_ret
    exact ⟨rfl, (FB.out _ T3.out).2⟩
  cases h2 : elB g x
  · have HX := Lib.hid (asked_no2 (l := l) h2)
    clear h1 h2
    go_wp2_with fail
    refine (iasb_any g x _ l _ (FB.out _ T1.out).1.1 (FB.out _ T1.out).1.2).mono ?_
    rintro e w2 ⟨rfl, hb⟩
    rw [HX.out]
    have T2 := Lib.hid (Below.on T1.out hb)
    clear hb
    go_wp2_with fail
    refine (sasb_any g x _ l _ (FB.out _ T2.out).1.2).mono ?_
    rintro e w3 ⟨rfl, hb⟩
    rw [HX.out]
    have T3 := Lib.hid (Below.on T2.out hb)
    clear hb
    go_wp2_with fail
    refine (alive_any _ (FB.out _ T3.out).1.1).mono ?_
    rintro e wz ⟨rfl, rfl⟩
    go_wp2
    go_ret
    exact ⟨rfl, (FB.out _ T3.out).2⟩
  have HX := Lib.hid (asked_yes h1 h2)
  have hex := qOf_ex h1 h2
  have HEX := Lib.hid hex
  obtain ⟨⟨g0, g4⟩, x0, x1⟩ := exB_true.1 hex
  have hle := askB_len h1
  have HQ := Lib.hid (show ∀ k, k < (els g).length → nth (els g) k = x → nth l k = qOf g l x from fun k hk e => by rw [← e]; exact (qOf_nth g0 g4 hk).symm)
  obtain ⟨y, hy⟩ : ∃ y, qOf g l x = y := ⟨_, rfl⟩
  rw [hy] at HX HEX HQ x0 x1
  obtain ⟨n, hn⟩ : ∃ n, (els g).length = n := ⟨_, rfl⟩
  have HN := Lib.hid hn
  have HLN := Lib.hid (hle.1.trans hn)
  have hn23 : n ≤ 24 := by have := hle.2; have := hle.1; omega
  have hn1 : 1 ≤ n := by have := els_ord g0 g4; have := ord_bd g0 g4; omega
  rw [hn] at HQ
  have hyy : (y != y) = false := by simp
  have hy0 : ¬ y < 0 := by omega
  clear h1 h2 hex hle hy hn x0 x1 g0 g4
  go_wp2_with fail
  refine (iasb_any g x _ l _ (FB.out _ T1.out).1.1 (FB.out _ T1.out).1.2).mono ?_
  rintro e w2 ⟨rfl, hb⟩
  rw [HX.out]
  have T2 := Lib.hid (Below.on T1.out hb)
  clear hb
  go_wp2_with fail
  refine (sasb_any g x _ l _ (FB.out _ T2.out).1.2).mono ?_
  rintro e w3 ⟨rfl, hb⟩
  rw [HX.out]
  have T3 := Lib.hid (Below.on T2.out hb)
  clear hb
  go_wp2_with fail
  refine (sels_any g _).mono ?_
  rintro e w4 ⟨v, rfl, o4, hb⟩
  have T4 := Lib.hid (Below.on T3.out hb)
  obtain ⟨ea, ec, rfl⟩ := own_slice8 o4 (by rw [HN.out]; omega)
  rw [HN.out] at o4 ⊢
  have HC := Lib.hid (fun k (hk : k < n) => (Own.set o4 HN.out hk 0).1.2)
  have HL := Lib.hid (show ∀ k, k < n → ∃ A, la = some ⟨A, 0, none⟩ ∧ w4.cell? ⟨A, k, none⟩ = some (.int .i64 (nth l k)) from fun k hk => by
    obtain ⟨la', lc', e1, h1⟩ := (FB.out _ T4.out).1.2.opened
    injection e1 with e2 _ _
    subst e2
    obtain ⟨A, e1, _, e3⟩ := h1.get k (by rw [HLN.out]; exact hk)
    exact ⟨A, e1, e3⟩)
  clear hb o4
  go_wp2
  go_loopw [8] (fun i wr => ∃ k : Nat, k ≤ n ∧ i = .int .i64 k ∧ Hid (∃ j, wr = w4.drewN j)) (fun i _ => n - (intOf i).toNat)
  case atStart => exact ⟨0, by omega, rfl, Lib.hid ⟨0, rfl⟩⟩
  case round =>
    obtain ⟨k, hk, rfl, hw⟩ := hrel
    obtain ⟨wo, rfl⟩ : ∃ wo : World, wo = wr := ⟨_, rfl⟩
    obtain ⟨jj, rfl⟩ := hw.out
    clear hw
    by_cases hlt : k < n
    · have hlt1 : (k : Int) < (n : Int) := by omega
      have hkl : k < l.length := by rw [HLN.out]; exact hlt
      have hc := HC.out k hlt
      obtain ⟨A, rfl, hla⟩ := HL.out k hlt
      by_cases he : nth (els g) k = x
      · rw [HQ.out k hlt he] at hla
        rw [he] at hc
        have hq : (x == x) = true := by simp
        clear he
        go_wp2
        go_roundw
        case rel => exact ⟨k + 1, by omega, by go_num, Lib.hid ⟨_, rfl⟩⟩
        case measure => simp [intOf]; omega
      · have hq : (nth (els g) k == x) = false := beq_eq_false_iff_ne.2 he
        clear he hla
        go_wp2
        go_roundw
        case rel => exact ⟨k + 1, by omega, by go_num, Lib.hid ⟨_, rfl⟩⟩
        case measure => simp [intOf]; omega
    · obtain rfl : k = n := by omega
      have hlt1 : ¬ (k : Int) < (k : Int) := by omega
      have T5 := Lib.hid (Below.on T4.out (below_drewN (Below.refl _ _) jj))
      go_wp2_with fail
      refine (iex_b g y _ (FB.out _ T5.out).1.1).mono ?_
      rintro e w6 ⟨rfl, hb⟩
      rw [HEX.out]
      have T6 := Lib.hid (Below.on T5.out hb)
      clear hb
      go_wp2
      go_ret
      exact ⟨rfl, (FB.out _ T6.out).2⟩
end Go.Proofs.YtlcegpmhlnilfabDoor
