/- The exact law of TalksBy, walked: spec's answer, impl's answer, and that both are the same; no argument is written to; the answer owns its memory. -/
import Derived.Test.YtljekapbcphdaabDoorTbI
import Derived.Test.YtljekapbcphdaabDoorTbS
import Derived.Test.YtljekapbcphdaabDoorMark
namespace Go.Proofs.YtljekapbcphdaabDoor
open Go.RowKit

theorem eqs_bb (v u : Value) (xs : List Int) (w : World) (h : Ints w v xs) (h' : Ints w u xs) : Calls Tryd.prog 41 #[v, u] w fun e w' => e = .returned (.bool true) ∧ Below w.heap.size w w' := (eqs_same v u xs w h h').mono fun _ _ ⟨he, _, hw⟩ => ⟨he, below_of_drew hw⟩
theorem heldI_is (v : Value) (xs : List Int) (w : World) {B : Nat} (h : Own w B v (markTo xs 1 xs.length)) (hl : xs.length ≤ 1000) : Calls Tryd.prog 43 #[v, .int .i64 1] w fun e w' => e = .returned (.int .i64 (1 + xs.length)) ∧ w = w' := by
  have c := heldI_any v (markTo xs 1 xs.length) 1 w (Ints.of_own h (by rw [markTo_len]; unfold maxLen; omega)) (by rw [markTo_len]; omega) (by omega) (by omega) (fun j hj => markTo_nth _ _ _ (Nat.le_refl _) j (by rwa [markTo_len] at hj))
  rwa [markTo_len] at c

set_option maxHeartbeats 6400000 in
theorem xTalksBy_walk (ka : Option Addr) (kc : Nat) (keys : List Int) (need : Int) (sa : Option Addr) (sc : Nat) (secrets : List Int) (ask : Int) (w : World) (G : Gr w) (hk : ArgI w ka keys) (mk : keys.length ≤ maxLen) (hs : ArgI w sa secrets) (ms : secrets.length ≤ maxLen) :
    Calls Tryd.prog 11 #[.slice ka keys.length kc, .int .i64 need, .slice sa secrets.length sc, .int .i64 ask] w fun e w' => e = .returned (.bool true) ∧ Below w.heap.size w w' := by
  have HG := Lib.hid G
  have Hk := Lib.hid hk
  have Hs := Lib.hid hs
  unfold maxLen at mk ms
  clear hk hs G
  by_cases ck : keys.length ≤ 1048576
  case neg =>
    go_enter Tryd.func11, Tryd.ntmps11
    go_wp2
    go_ret
    exact ⟨rfl, Below.refl _ _⟩
  by_cases cs : secrets.length ≤ 1048576
  case neg =>
    go_enter Tryd.func11, Tryd.ntmps11
    go_wp2
    go_ret
    exact ⟨rfl, Below.refl _ _⟩
  obtain ⟨R, hR⟩ : ∃ R, tby keys need secrets ask = R := ⟨_, rfl⟩
  have HL : Hid (R.length ≤ 81) := Lib.hid (by rw [← hR]; exact tby_le _ _ _ _)
  have HSP := Lib.hid (fun (kv sv : Value) (w' : World) (h1 : Ints w' kv keys) (h2 : Ints w' sv secrets) => stby_any kv sv keys secrets need ask w' h1 h2)
  have HIM := Lib.hid (fun (kv sv : Value) (w' : World) (G' : Gr w') (h1 : Ints w' kv keys) (h2 : Ints w' sv secrets) => itby_any kv sv keys secrets need ask w' G' h1 h2)
  rw [hR] at HSP HIM
  have mk2 : keys.length ≤ maxLen := by unfold maxLen; omega
  have ms2 : secrets.length ≤ maxLen := by unfold maxLen; omega
  have mR : R.length ≤ maxLen := by have := HL.out; unfold maxLen; omega
  have MK := Lib.hid mk2
  have MS := Lib.hid ms2
  have MR := Lib.hid mR
  clear hR mk2 ms2 mR
  go_enter Tryd.func11, Tryd.ntmps11
  go_wp2_with fail
  refine (toI_any ka kc keys _ (Hk.out.on (Below.refl w.heap.size w)) ck).mono ?_
  rintro e w1 ⟨yk, rfl, ow, hb⟩
  have B1 := Lib.hid (hb)
  have K1 := Lib.hid (Ints.of_own ow MK.out)
  clear ow
  clear hb
  go_wp2_with fail
  refine (toI_any sa sc secrets _ (Hs.out.on B1.out) cs).mono ?_
  rintro e w2 ⟨ys, rfl, ow, hb⟩
  have B2 := Lib.hid (Below.on B1.out hb)
  have S2 := Lib.hid (Ints.of_own ow MS.out)
  have K2 := Lib.hid (K1.out.below hb)
  clear ow K1
  clear hb
  go_wp2_with fail
  refine (HSP.out yk ys _ K2.out S2.out).mono ?_
  rintro e w3 ⟨v0, rfl, ow, hb⟩
  have B3 := Lib.hid (Below.on B2.out hb)
  have V3 := Lib.hid ow
  clear ow K2 S2
  clear hb
  go_wp2_with fail
  refine (toI_any ka kc keys _ (Hk.out.on B3.out) ck).mono ?_
  rintro e w4 ⟨x0, rfl, ow, hb⟩
  have B4 := Lib.hid (Below.on B3.out hb)
  have X4 := Lib.hid ow
  have SZ34 := Lib.hid hb.size
  have V4 := Lib.hid (own_below V3.out hb)
  clear ow
  clear hb
  go_wp2_with fail
  refine (toI_any sa sc secrets _ (Hs.out.on B4.out) cs).mono ?_
  rintro e w5 ⟨x2, rfl, ow, hb⟩
  have B5 := Lib.hid (Below.on B4.out hb)
  have Y5 := Lib.hid ow
  have SZ45 := Lib.hid hb.size
  have X5 := Lib.hid (own_below X4.out hb)
  have V5 := Lib.hid (own_below V4.out hb)
  clear ow
  clear hb
  go_wp2_with fail
  refine (HIM.out x0 x2 _ (HG.out.on B5.out) (Ints.of_own X5.out MK.out) (Ints.of_own Y5.out MS.out)).mono ?_
  rintro e w6 ⟨g0, rfl, ow, hb⟩
  have B6 := Lib.hid (Below.on B5.out hb)
  have G6 := Lib.hid ow
  have Y6 := Lib.hid (own_below Y5.out hb)
  have X6 := Lib.hid (own_below X5.out hb)
  have V6 := Lib.hid (own_below V5.out hb)
  have AX : Hid ((∀ k, x0.ownBlock = some k → w3.heap.size ≤ k ∧ k < w5.heap.size) ∧ (∀ k, x2.ownBlock = some k → w3.heap.size ≤ k ∧ k < w5.heap.size) ∧ (∀ k, g0.ownBlock = some k → w5.heap.size ≤ k) ∧ (∀ k, v0.ownBlock = some k → k < w3.heap.size) ∧ (∀ k, x0.ownBlock = some k → x2.ownBlock = some k → False) ∧ w.heap.size ≤ w3.heap.size ∧ w3.heap.size ≤ w5.heap.size) := Lib.hid (by
    have s45 := SZ45.out
    exact ⟨fun k hk => ⟨(X4.out.lt k hk).1, Nat.lt_of_lt_of_le (X4.out.lt k hk).2 s45⟩, fun k hk => ⟨Nat.le_trans SZ34.out (Y5.out.lt k hk).1, (Y5.out.lt k hk).2⟩, fun k hk => (ow.lt k hk).1, fun k hk => (V3.out.lt k hk).2, fun k h1 h2 => by have := (X4.out.lt k h1).2; have := (Y5.out.lt k h2).1; omega, B3.out.size, Nat.le_trans SZ34.out s45⟩)
  clear ow V3 V4 V5 X4 X5 Y5
  clear hb
  go_wp2_with fail
  refine (eqs_bb g0 v0 R _ (Ints.of_own G6.out MR.out) (Ints.of_own V6.out MR.out)).mono ?_
  rintro e w7 ⟨rfl, hb⟩
  have B7 := Lib.hid (Below.on B6.out hb)
  have Y7 := Lib.hid (own_below Y6.out hb)
  have X7 := Lib.hid (own_below X6.out hb)
  have V7 := Lib.hid (own_below V6.out hb)
  have G7 := Lib.hid (own_below G6.out hb)
  clear Y6 X6 V6 G6
  clear hb
  go_wp2_with fail
  refine (toI_any ka kc keys _ (Hk.out.on B7.out) ck).mono ?_
  rintro e w8 ⟨yk, rfl, ow, hb⟩
  have B8 := Lib.hid (Below.on B7.out hb)
  have Y8 := Lib.hid (own_below Y7.out hb)
  have X8 := Lib.hid (own_below X7.out hb)
  have V8 := Lib.hid (own_below V7.out hb)
  have G8 := Lib.hid (own_below G7.out hb)
  have K8 := Lib.hid (Ints.of_own ow MK.out)
  clear ow
  clear Y7 X7 V7 G7
  clear hb
  go_wp2_with fail
  refine (eqs_bb x0 yk keys _ (Ints.of_own X8.out MK.out) K8.out).mono ?_
  rintro e w9 ⟨rfl, hb⟩
  have B9 := Lib.hid (Below.on B8.out hb)
  have Y9 := Lib.hid (own_below Y8.out hb)
  have X9 := Lib.hid (own_below X8.out hb)
  have V9 := Lib.hid (own_below V8.out hb)
  have G9 := Lib.hid (own_below G8.out hb)
  clear K8
  clear Y8 X8 V8 G8
  clear hb
  go_wp2_with fail
  refine (toI_any sa sc secrets _ (Hs.out.on B9.out) cs).mono ?_
  rintro e w10 ⟨ys, rfl, ow, hb⟩
  have B10 := Lib.hid (Below.on B9.out hb)
  have Y10 := Lib.hid (own_below Y9.out hb)
  have X10 := Lib.hid (own_below X9.out hb)
  have V10 := Lib.hid (own_below V9.out hb)
  have G10 := Lib.hid (own_below G9.out hb)
  have K10 := Lib.hid (Ints.of_own ow MS.out)
  clear ow
  clear Y9 X9 V9 G9
  clear hb
  go_wp2_with fail
  refine (eqs_bb x2 ys secrets _ (Ints.of_own Y10.out MS.out) K10.out).mono ?_
  rintro e w11 ⟨rfl, hb⟩
  have B11 := Lib.hid (Below.on B10.out hb)
  have Y11 := Lib.hid (own_below Y10.out hb)
  have X11 := Lib.hid (own_below X10.out hb)
  have V11 := Lib.hid (own_below V10.out hb)
  have G11 := Lib.hid (own_below G10.out hb)
  clear K10
  clear Y10 X10 V10 G10
  clear hb
  go_wp2_with fail
  refine (markI_any x0 keys 1 w3.heap.size _ X11.out (by omega) (by omega) (by omega)).mono ?_
  rintro e w12 ⟨rfl, om, hg⟩
  obtain ⟨a1, a2, a3, a4, a5, a6, a7⟩ := AX.out
  have B12 := Lib.hid (B11.out.grown hg B11.out.size (fun k hk => by have := (a1 k hk).1; omega))
  have Y12 := Lib.hid (own_stay Y11.out hg (fun k h1 h2 => a5 k h2 h1))
  have V12 := Lib.hid (own_stay V11.out hg (fun k h1 h2 => by have := a4 k h1; have := (a1 k h2).1; omega))
  have G12 := Lib.hid (own_stay G11.out hg (fun k h1 h2 => by have := a3 k h1; have := (a1 k h2).2; omega))
  clear om hg a1 a2 a3 a4 a5 a6 a7 X11 Y11 V11 G11
  go_wp2_with fail
  refine (markI_any x2 secrets (1 + keys.length) w4.heap.size _ Y12.out (by omega) (by omega) (by omega)).mono ?_
  rintro e w13 ⟨rfl, om, hg⟩
  obtain ⟨a1, a2, a3, a4, a5, a6, a7⟩ := AX.out
  have B13 := Lib.hid (B12.out.grown hg B12.out.size (fun k hk => by have := (a2 k hk).1; omega))
  have V13 := Lib.hid (own_stay V12.out hg (fun k h1 h2 => by have := a4 k h1; have := (a2 k h2).1; omega))
  have G13 := Lib.hid (own_stay G12.out hg (fun k h1 h2 => by have := a3 k h1; have := (a2 k h2).2; omega))
  clear om hg a1 a2 a3 a4 a5 a6 a7 Y12 V12 G12
  go_wp2_with fail
  refine (eqs_bb g0 v0 R _ (Ints.of_own G13.out MR.out) (Ints.of_own V13.out MR.out)).mono ?_
  rintro e w14 ⟨rfl, hb⟩
  have B14 := Lib.hid (Below.on B13.out hb)
  have V14 := Lib.hid (own_below V13.out hb)
  have G14 := Lib.hid (own_below G13.out hb)
  clear V13 G13
  clear hb
  go_wp2_with fail
  refine (markI_any g0 R 1 w5.heap.size _ G14.out (by have := HL.out; omega) (by omega) (by omega)).mono ?_
  rintro e w15 ⟨rfl, om, hg⟩
  obtain ⟨a1, a2, a3, a4, a5, a6, a7⟩ := AX.out
  have B15 := Lib.hid (B14.out.grown hg B14.out.size (fun k hk => by have := a3 k hk; omega))
  have V15 := Lib.hid (own_stay V14.out hg (fun k h1 h2 => by have := a4 k h1; have := a3 k h2; omega))
  have G15 := Lib.hid om
  have hl := HL.out
  obtain ⟨K, hK⟩ : ∃ K : Int, 1 + (R.length : Int) = K := ⟨_, rfl⟩
  have HK := Lib.hid hK
  rw [hK]
  have kk0 : 0 ≤ K := by omega
  have kk1 : K ≤ 100 := by omega
  have hne : (K != K) = false := by simp
  clear om hg a1 a2 a3 a4 a5 a6 a7 V14 G14 hK hl
  go_wp2_with fail
  refine (heldI_is g0 R _ G15.out (by have := HL.out; omega)).mono ?_
  rintro e wh ⟨rfl, rfl⟩
  rw [HK.out]
  go_wp2_with fail
  refine (toI_any ka kc keys _ (Hk.out.on B15.out) ck).mono ?_
  rintro e w16 ⟨yk, rfl, ow, hb⟩
  have B16 := Lib.hid (Below.on B15.out hb)
  have K16 := Lib.hid (Ints.of_own ow MK.out)
  have V16 := Lib.hid (own_below V15.out hb)
  have G16 := Lib.hid (own_below G15.out hb)
  clear ow V15 G15
  clear hb
  go_wp2_with fail
  refine (toI_any sa sc secrets _ (Hs.out.on B16.out) cs).mono ?_
  rintro e w17 ⟨ys, rfl, ow, hb⟩
  have B17 := Lib.hid (Below.on B16.out hb)
  have S17 := Lib.hid (Ints.of_own ow MS.out)
  have K17 := Lib.hid (K16.out.below hb)
  have V17 := Lib.hid (own_below V16.out hb)
  have G17 := Lib.hid (own_below G16.out hb)
  clear ow K16 V16 G16
  clear hb
  go_wp2_with fail
  refine (HIM.out yk ys _ (HG.out.on B17.out) K17.out S17.out).mono ?_
  rintro e w18 ⟨h0, rfl, ow, hb⟩
  have B18 := Lib.hid (Below.on B17.out hb)
  have H18 := Lib.hid (Ints.of_own ow MR.out)
  have V18 := Lib.hid (own_below V17.out hb)
  have G18 := Lib.hid (own_below G17.out hb)
  clear ow K17 S17 V17 G17
  clear hb
  go_wp2_with fail
  refine (eqs_bb h0 v0 R _ H18.out (Ints.of_own V18.out MR.out)).mono ?_
  rintro e w19 ⟨rfl, hb⟩
  have B19 := Lib.hid (Below.on B18.out hb)
  have G19 := Lib.hid (own_below G18.out hb)
  clear H18 V18 G18
  clear hb
  go_wp2_with fail
  refine (heldI_is g0 R _ G19.out (by have := HL.out; omega)).mono ?_
  rintro e wh ⟨rfl, rfl⟩
  rw [HK.out]
  go_wp2
  go_ret
  exact ⟨rfl, B19.out⟩
end Go.Proofs.YtljekapbcphdaabDoor
