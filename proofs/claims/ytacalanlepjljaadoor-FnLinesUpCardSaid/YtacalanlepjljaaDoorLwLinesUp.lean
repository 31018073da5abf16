/- The law FnLinesUp, walked. -/
import Derived.Test.YtacalanlepjljaaDoorDrawSl
import Derived.Test.YtacalanlepjljaaDoorLinS
import Derived.Test.YtacalanlepjljaaDoorLinI
import Derived.Test.YtacalanlepjljaaDoorPolY
import Derived.Test.YtacalanlepjljaaDoorLawsA
namespace Go.Proofs.YtacalanlepjljaaDoor
open Go.RowKit

set_option maxRecDepth 20000 in
set_option maxHeartbeats 3200000 in
theorem lLinesUp_walk (s : Value) (w : World) (h : CodeIn w s) (G : Gr w) : Calls Tryd.prog 5 #[s] w fun e w' => e = .returned (.bool true) ∧ Below w.heap.size w w' := by
  obtain ⟨a0, len0, cap0, rfl⟩ := h.slice
  have H := Lib.hid h; clear h
  have G0 := Lib.hid G; clear G
  by_cases hl : 1048576 < len0
  · go_enter Tryd.func5, Tryd.ntmps5
    go_wp2
    go_ret
    exact ⟨rfl, Below.refl _ _⟩
  go_enter Tryd.func5, Tryd.ntmps5
  go_wp2_with fail
  refine (drawLinesUp_any _ _ H.out).mono ?_
  rintro e w1 ⟨g, need, ask, av, asks, rfl, hlen, hd, hI, hb⟩
  obtain ⟨aa, ac, rfl, kc⟩ := hI.opened
  obtain ⟨n, hn⟩ : ∃ n, asks.length = n := ⟨_, rfl⟩
  have HC := Lib.hid (show ∀ k, k < n → ∃ X, aa = some ⟨X, 0, none⟩ ∧ ∀ w', Below w1.heap.size w1 w' → w'.cell? ⟨X, k, none⟩ = some (.int .i64 (nth asks k)) from fun k hk => by
    obtain ⟨M, e1, hl, e2⟩ := kc.get k (by omega)
    exact ⟨M, e1, fun w' hb => (hb.cell (p := ⟨M, k, none⟩) hl).trans e2⟩)
  have FB := Lib.hid (show ∀ w', Below w1.heap.size w1 w' → (Gr w' ∧ Ints w' (.slice aa asks.length ac) asks) ∧ Below w.heap.size w w' from fun w' hb' => ⟨⟨G0.out.on (Below.on hb hb'), hI.below hb'⟩, Below.on hb hb'⟩)
  rw [hn] at FB hlen ⊢
  have T1 := Lib.hid (Below.refl w1.heap.size w1)
  clear hI kc hb
  obtain ⟨b, hbb⟩ : ∃ b, linB g need ask asks = b := ⟨_, rfl⟩
  have HBB := Lib.hid hbb
  have HLS := Lib.hid (show b = true → ∀ k : Nat, 1 ≤ k → (k : Int) < need → linB g k ask asks = true from fun e k k1 k2 => linB_true.2 ((linB_true.1 (hbb.trans e)).less (by omega) (by omega)))
  have HAL := Lib.hid (show b = true → need = n → ∀ k, k < n → nth asks k = ask from fun e e2 k hk => (linB_true.1 (hbb.trans e)).all (by rw [hn]; exact e2) k (by rw [hn]; exact hk))
  have hbn : (b != b) = false := by simp
  clear hbb hn
  go_wp2_with fail
  refine (ilin_any g need ask _ asks _ (FB.out _ T1.out).1.1 (FB.out _ T1.out).1.2).mono ?_
  rintro e wn ⟨rfl, hb⟩
  rw [HBB.out]
  have T2 := Lib.hid (Below.on T1.out hb)
  clear hb
  go_wp2_with fail
  refine (slin_any g need ask _ asks _ (FB.out _ T2.out).1.2).mono ?_
  rintro e wn ⟨rfl, hb⟩
  rw [HBB.out]
  have T3 := Lib.hid (Below.on T2.out hb)
  clear hb
  go_wp2
  go_loopw [8] (fun i wr => ∃ k : Nat, 1 ≤ k ∧ (k : Int) ≤ need ∧ i = .int .i64 k ∧ Hid (Below w1.heap.size w1 wr)) (fun i _ => (need - intOf i).toNat)
  case atStart => exact ⟨1, by omega, by omega, rfl, T3⟩
  case round =>
    obtain ⟨k, k1, k2, rfl, hB⟩ := hrel
    obtain ⟨wo, rfl⟩ : ∃ wo : World, wo = wr := ⟨_, rfl⟩
    clear T1 T2 T3 hbn
    by_cases hkn : (k : Int) < need
    · have hkd : decide ((k : Int) < need) = true := by simpa using hkn
      cases b
      · go_wp2
        go_loopw [9, 10] (fun al i wr => ∃ (j : Nat) (al' : Bool), j ≤ n ∧ i = .int .i64 j ∧ al = .bool al' ∧ Hid (n ≤ 5) ∧ Hid (Below w1.heap.size w1 wr)) (fun _ i _ => n - (intOf i).toNat)
        case atStart => exact ⟨0, true, by omega, rfl, rfl, Lib.hid (hlen), hB⟩
        case round =>
          obtain ⟨j, al, hj, rfl, rfl, hA, hB2⟩ := hrel
          obtain ⟨wi, rfl⟩ : ∃ wi : World, wi = wr := ⟨_, rfl⟩
          clear hB
          by_cases hjn : j < n
          · have hj1 : (j : Int) < (n : Int) := by omega
            obtain ⟨X, rfl, hc⟩ := HC.out j hjn
            have c0 := hc _ hB2.out
            clear hc
            cases al
            · have HA3 : Hid (n ≤ 5) := hA
              go_wp2
              go_roundw
              case rel => exact ⟨j + 1, false, by omega, by go_num, rfl, HA3, hB2⟩
              case measure => simp [intOf]; omega
            · obtain ⟨bb, hbb⟩ : ∃ bb, (nth asks j == ask) = bb := ⟨_, rfl⟩
              have HA2 := hA
              go_wp2
              go_roundw
              case rel => exact ⟨j + 1, bb, by omega, by go_num, by rw [← hbb], HA2, hB2⟩
              case measure => simp [intOf]; omega
          · obtain rfl : j = n := by omega
            have hj1 : ¬ (j : Int) < (j : Int) := by omega
            go_wp2_with fail
            refine (alive_any _ (FB.out _ hB2.out).1.1).mono ?_
            rintro e wz ⟨rfl, rfl⟩
            go_wp2
            go_ret
            exact ⟨rfl, (FB.out _ hB2.out).2⟩
      · have HL := Lib.hid (HLS.out rfl k k1 hkn)
        go_wp2_with fail
        refine (ilin_any g k ask _ asks _ (FB.out _ hB.out).1.1 (FB.out _ hB.out).1.2).mono ?_
        rintro e wn ⟨rfl, hb⟩
        rw [HL.out]
        have T5 := Lib.hid (Below.on hB.out hb)
        clear hb
        go_wp2
        go_roundw
        case rel => exact ⟨k + 1, by omega, by omega, by go_num, T5⟩
        case measure => simp [intOf]; omega
    · have hkd : decide ((k : Int) < need) = false := by simpa using hkn
      cases b
      · go_wp2
        go_loopw [9, 10] (fun al i wr => ∃ (j : Nat) (al' : Bool), j ≤ n ∧ i = .int .i64 j ∧ al = .bool al' ∧ Hid (n ≤ 5) ∧ Hid (Below w1.heap.size w1 wr)) (fun _ i _ => n - (intOf i).toNat)
        case atStart => exact ⟨0, true, by omega, rfl, rfl, Lib.hid (hlen), hB⟩
        case round =>
          obtain ⟨j, al, hj, rfl, rfl, hA, hB2⟩ := hrel
          obtain ⟨wi, rfl⟩ : ∃ wi : World, wi = wr := ⟨_, rfl⟩
          clear hB
          by_cases hjn : j < n
          · have hj1 : (j : Int) < (n : Int) := by omega
            obtain ⟨X, rfl, hc⟩ := HC.out j hjn
            have c0 := hc _ hB2.out
            clear hc
            cases al
            · have HA3 : Hid (n ≤ 5) := hA
              go_wp2
              go_roundw
              case rel => exact ⟨j + 1, false, by omega, by go_num, rfl, HA3, hB2⟩
              case measure => simp [intOf]; omega
            · obtain ⟨bb, hbb⟩ : ∃ bb, (nth asks j == ask) = bb := ⟨_, rfl⟩
              have HA2 := hA
              go_wp2
              go_roundw
              case rel => exact ⟨j + 1, bb, by omega, by go_num, by rw [← hbb], HA2, hB2⟩
              case measure => simp [intOf]; omega
          · obtain rfl : j = n := by omega
            have hj1 : ¬ (j : Int) < (j : Int) := by omega
            go_wp2_with fail
            refine (alive_any _ (FB.out _ hB2.out).1.1).mono ?_
            rintro e wz ⟨rfl, rfl⟩
            go_wp2
            go_ret
            exact ⟨rfl, (FB.out _ hB2.out).2⟩
      · go_wp2
        go_loopw [9, 10] (fun al i wr => ∃ (j : Nat) (al' : Bool), j ≤ n ∧ i = .int .i64 j ∧ al = .bool al' ∧ Hid (need = (n : Int) → al' = true) ∧ Hid (Below w1.heap.size w1 wr)) (fun _ i _ => n - (intOf i).toNat)
        case atStart => exact ⟨0, true, by omega, rfl, rfl, Lib.hid (fun _ => rfl), hB⟩
        case round =>
          obtain ⟨j, al, hj, rfl, rfl, hA, hB2⟩ := hrel
          obtain ⟨wi, rfl⟩ : ∃ wi : World, wi = wr := ⟨_, rfl⟩
          clear hB
          by_cases hjn : j < n
          · have hj1 : (j : Int) < (n : Int) := by omega
            obtain ⟨X, rfl, hc⟩ := HC.out j hjn
            have c0 := hc _ hB2.out
            clear hc
            cases al
            · have HA3 : Hid (need = (n : Int) → false = true) := Lib.hid fun e => by have := hA.out e; cases this
              go_wp2
              go_roundw
              case rel => exact ⟨j + 1, false, by omega, by go_num, rfl, HA3, hB2⟩
              case measure => simp [intOf]; omega
            · obtain ⟨bb, hbb⟩ : ∃ bb, (nth asks j == ask) = bb := ⟨_, rfl⟩
              have HA2 := Lib.hid (show need = (n : Int) → bb = true from fun e2 => by rw [← hbb, HAL.out (by trivial) e2 j hjn]; simp)
              go_wp2
              go_roundw
              case rel => exact ⟨j + 1, bb, by omega, by go_num, by rw [← hbb], HA2, hB2⟩
              case measure => simp [intOf]; omega
          · obtain rfl : j = n := by omega
            have hj1 : ¬ (j : Int) < (j : Int) := by omega
            by_cases hne : need = (j : Int)
            · have hnb : (need != (j : Int)) = false := by simpa using hne
              obtain rfl := hA.out hne
              clear hne hA
              go_wp2_with fail
              refine (alive_any _ (FB.out _ hB2.out).1.1).mono ?_
              rintro e wz ⟨rfl, rfl⟩
              go_wp2
              go_ret
              exact ⟨rfl, (FB.out _ hB2.out).2⟩
            · have hnb : (need != (j : Int)) = true := by simpa using hne
              clear hne
              go_wp2_with fail
              refine (alive_any _ (FB.out _ hB2.out).1.1).mono ?_
              rintro e wz ⟨rfl, rfl⟩
              go_wp2
              go_ret
              exact ⟨rfl, (FB.out _ hB2.out).2⟩
end Go.Proofs.YtacalanlepjljaaDoor
