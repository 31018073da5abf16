/- The exact law of TimesTable, walked. -/
import Derived.Test.YtndknjjafoebhabXTableOk
import Derived.Test.YtndknjjafoebhabTtbS
import Derived.Test.YtndknjjafoebhabMark
namespace Go.Proofs.Ytndknjjafoebhab
open Go.RowKit

theorem OwnSS.lowT {w w' : World} {lo hi a b : Nat} {v : Value} {us : List Value} {xss : List (List Int)} (h : OwnSS w a b v us xss) (ho : Outside lo hi w w') (h1 : b ≤ lo) : OwnSS w' a b v us xss :=
  ⟨outer_heap h.outer fun k hk => ho.block k (h.outer.lt k hk).2 (.inl (Nat.lt_of_lt_of_le (h.hi0 k hk) h1)), h.len, h.hi0, fun j hj => ho.low (h.rows j hj) (fun k hk => Nat.lt_of_lt_of_le (h.his j hj k hk) h1), h.his, h.apart, h.apart0⟩
theorem tt_small {w : World} {lo hi : Nat} {v : Value} {us : List Value} {xss : List (List Int)} (hl : xss.length ≤ 12) (hr : ∀ j, j < xss.length → (row xss j).length ≤ 8) (h : OwnSS w lo hi v us xss) : IntSS w v xss := h.small (by omega) fun j hj => by have := hr j hj; omega
theorem cnt_le8 (xss : List (List Int)) : ∀ n, (∀ j, j < n → (row xss j).length ≤ 8) → cnt xss n ≤ 8 * n
  | 0, _ => by simp [cnt]
  | n + 1, h => by
    have h1 := cnt_le8 xss n fun j hj => h j (by omega)
    have h2 := h n (by omega)
    rw [cnt_succ]; omega
theorem markT_rowlen {xss : List (List Int)} {m : Int} {j : Nat} (hj : j < xss.length) : (row (markS xss m xss.length) j).length = (row xss j).length := by
  rw [markS_row xss m _ (Nat.le_refl _) j hj, markTo_len]
theorem markT_cnt (xss : List (List Int)) (m : Int) : ∀ n, n ≤ xss.length → cnt (markS xss m xss.length) n = cnt xss n
  | 0, _ => rfl
  | n + 1, h => by rw [cnt_succ, cnt_succ, markT_cnt xss m n (by omega), markT_rowlen (by omega)]
theorem held_markT {lo hi : Nat} {v : Value} {us : List Value} {xss : List (List Int)} {w : World} (hl : xss.length ≤ 12) (hr : ∀ j, j < xss.length → (row xss j).length ≤ 8) (h : OwnSS w lo hi v us (markS xss 1 xss.length)) :
    Calls Try.prog 13 #[v, .int .i64 1] w fun e w' => e = .returned (.int .i64 (1 + cnt xss xss.length)) ∧ w = w' := by
  have hc := cnt_le8 xss _ hr
  have hr' : ∀ j, j < (markS xss 1 xss.length).length → (row (markS xss 1 xss.length) j).length ≤ 8 := fun j hj => by
    rw [markS_len] at hj
    rw [markT_rowlen hj]; exact hr j hj
  have hlen := markS_len xss 1 xss.length
  have hcnt := markT_cnt xss 1 xss.length (Nat.le_refl _)
  have := heldSS_any v (markS xss 1 xss.length) 1 w (h.small (by rw [hlen]; omega) fun j hj => by have := hr' j hj; omega) (by rw [hlen]; omega) (fun j hj => by have := hr' j hj; omega) (by rw [hlen, hcnt]; omega) (by omega)
    (fun j hj i hi => by
      rw [hlen] at hj
      rw [markT_rowlen hj] at hi
      rw [markS_row xss 1 _ (Nat.le_refl _) j hj, markTo_nth _ _ _ (Nat.le_refl _) i hi, markT_cnt xss 1 j (by omega)])
  rwa [hlen, hcnt] at this

set_option maxHeartbeats 6400000 in
theorem xTimesTable_walk (a : Option Addr) (c : Nat) (t : List (List Int)) (b : Option Addr) (d : Nat) (s : List (List Int)) (w : World) (ha : ArgSS w a t) (hn : t.length ≤ maxLen) (hr : ∀ j, j < t.length → (row t j).length ≤ maxLen) (hb : ArgSS w b s) (hm : s.length ≤ maxLen) (hs : ∀ j, j < s.length → (row s j).length ≤ maxLen) :
    Calls Try.prog 4 #[.slice a t.length c, .slice b s.length d] w fun e w' => e = .returned (.bool true) ∧ Below w.heap.size w w' := by
  have HA := Lib.hid ha
  have HR := Lib.hid hr
  have HB := Lib.hid hb
  have HS := Lib.hid hs
  obtain ⟨xss, hxs⟩ : ∃ xss, ttL t s = xss := ⟨_, rfl⟩
  obtain ⟨ok, hok⟩ : ∃ ok, ttB t s = ok := ⟨_, rfl⟩
  have HXL : Hid (xss.length ≤ 12) := Lib.hid (by rw [← hxs]; exact ttL_len _ _)
  have HXR : Hid (∀ j, j < xss.length → (row xss j).length ≤ 8) := Lib.hid (by rw [← hxs]; exact ttL_row _ _)
  have HXS := Lib.hid hxs
  have HOK := Lib.hid hok
  have hqq := bne_self' ok
  clear ha hr hb hs hxs hok
  go_enter Try.func4, Try.ntmps4
  go_wp2_with fail
  refine (szss_any a c t 1048576 _ HA.out hn HR.out (by omega) (by omega)).mono ?_
  rintro e w1 ⟨r, rfl, rfl, hres⟩
  rcases hres with rfl | ⟨r0, r1, s1, s2, s3⟩
  · go_wp2
    go_ret
    exact ⟨rfl, Below.refl _ _⟩
  have S1 := Lib.hid (show t.length ≤ 1048576 by omega)
  have S2 := Lib.hid (show ∀ j, j < t.length → (row t j).length ≤ 1048576 from fun j hj => by have := s2 j hj; omega)
  have C1 := Lib.hid (show (cnt t t.length : Int) ≤ 1048576 by omega)
  clear s1 s2 s3
  go_wp2_with fail
  refine (szss_any b d s r _ HB.out hm HS.out r0 (by omega)).mono ?_
  rintro e w1 ⟨r', rfl, rfl, hres⟩
  rcases hres with rfl | ⟨r0', r1', s1, s2, s3⟩
  · go_wp2
    go_ret
    exact ⟨rfl, Below.refl _ _⟩
  have S3 := Lib.hid (show s.length ≤ 1048576 by omega)
  have S4 := Lib.hid (show ∀ j, j < s.length → (row s j).length ≤ 1048576 from fun j hj => by have := s2 j hj; omega)
  have C2 := Lib.hid (show (cnt s s.length : Int) ≤ 1048576 by omega)
  clear s1 s2 s3
  go_wp2_with fail
  refine (toSS_any a c t _ HA.out S1.out S2.out).mono ?_
  rintro e w2 ⟨v1, us1, rfl, o1, hb⟩
  have B1 := Lib.hid hb
  have I1 := Lib.hid (o1.small S1.out S2.out)
  clear hb o1
  go_wp2_with fail
  refine (toSS_any b d s _ (HB.out.on B1.out) S3.out S4.out).mono ?_
  rintro e w3 ⟨v2, us2, rfl, o2, hb⟩
  have B2 := Lib.hid (Below.on B1.out hb)
  have I2 := Lib.hid (o2.small S3.out S4.out)
  have I1 := Lib.hid (I1.out.on hb)
  clear hb o2
  go_wp2_with fail
  refine (sttb_any v1 v2 t s _ I1.out I2.out).mono ?_
  rintro e w4 ⟨v0, us0, rfl, o0, hb⟩
  have B3 := Lib.hid (Below.on B2.out hb)
  rw [HXS.out] at o0
  rw [HOK.out]
  have OV := Lib.hid o0
  clear hb o0
  go_wp2_with fail
  refine (toSS_any a c t _ (HA.out.on B3.out) S1.out S2.out).mono ?_
  rintro e w5 ⟨x0, ux0, rfl, oo, hb⟩
  have Z5 := Lib.hid (show w4.heap.size ≤ w5.heap.size from hb.size)
  have B4 := Lib.hid (Below.on B3.out hb)
  have OV := Lib.hid (OV.out.on hb)
  have OX := Lib.hid oo
  clear hb oo
  go_wp2_with fail
  refine (toSS_any b d s _ (HB.out.on B4.out) S3.out S4.out).mono ?_
  rintro e w6 ⟨x1, ux1, rfl, oo, hb⟩
  have Z6 := Lib.hid (show w5.heap.size ≤ w6.heap.size from hb.size)
  have B5 := Lib.hid (Below.on B4.out hb)
  have OV := Lib.hid (OV.out.on hb)
  have OX := Lib.hid (OX.out.on hb)
  have OY := Lib.hid oo
  clear hb oo
  go_wp2_with fail
  refine (ittb_any x0 x1 t s _ (OX.out.small S1.out S2.out) (OY.out.small S3.out S4.out)).mono ?_
  rintro e w7 ⟨g0, ug0, rfl, oo, hb⟩
  rw [HXS.out] at oo
  rw [HOK.out]
  have Z7 := Lib.hid (show w6.heap.size ≤ w7.heap.size from hb.size)
  have B6 := Lib.hid (Below.on B5.out hb)
  have OV := Lib.hid (OV.out.on hb)
  have OX := Lib.hid (OX.out.on hb)
  have OY := Lib.hid (OY.out.on hb)
  have OG := Lib.hid oo
  clear hb oo
  go_wp2_with fail
  refine (eqss_any g0 v0 _ _ (tt_small HXL.out HXR.out OG.out) (tt_small HXL.out HXR.out OV.out)).mono ?_
  rintro e w8 ⟨rfl, m, hw⟩
  have hb := below_of_drew hw
  have Z8 := Lib.hid (show w7.heap.size ≤ w8.heap.size from hb.size)
  have B7 := Lib.hid (Below.on B6.out hb)
  have OV := Lib.hid (OV.out.on hb)
  have OX := Lib.hid (OX.out.on hb)
  have OY := Lib.hid (OY.out.on hb)
  have OG := Lib.hid (OG.out.on hb)
  clear hb hw m
  go_wp2_with fail
  refine (toSS_any a c t _ (HA.out.on B7.out) S1.out S2.out).mono ?_
  rintro e w9 ⟨v3, us3, rfl, oo, hb⟩
  have Z9 := Lib.hid (show w8.heap.size ≤ w9.heap.size from hb.size)
  have B8 := Lib.hid (Below.on B7.out hb)
  have OV := Lib.hid (OV.out.on hb)
  have OX := Lib.hid (OX.out.on hb)
  have OY := Lib.hid (OY.out.on hb)
  have OG := Lib.hid (OG.out.on hb)
  have I3 := Lib.hid (oo.small S1.out S2.out)
  clear hb oo
  go_wp2_with fail
  refine (eqss_any x0 v3 _ _ (OX.out.small S1.out S2.out) I3.out).mono ?_
  rintro e w10 ⟨rfl, m, hw⟩
  have hb := below_of_drew hw
  have Z10 := Lib.hid (show w9.heap.size ≤ w10.heap.size from hb.size)
  have B9 := Lib.hid (Below.on B8.out hb)
  have OV := Lib.hid (OV.out.on hb)
  have OX := Lib.hid (OX.out.on hb)
  have OY := Lib.hid (OY.out.on hb)
  have OG := Lib.hid (OG.out.on hb)
  have I3 := Lib.hid (I3.out.on hb)
  clear hb hw m
  go_wp2_with fail
  refine (toSS_any b d s _ (HB.out.on B9.out) S3.out S4.out).mono ?_
  rintro e w11 ⟨v4, us4, rfl, oo, hb⟩
  have Z11 := Lib.hid (show w10.heap.size ≤ w11.heap.size from hb.size)
  have B10 := Lib.hid (Below.on B9.out hb)
  have OV := Lib.hid (OV.out.on hb)
  have OX := Lib.hid (OX.out.on hb)
  have OY := Lib.hid (OY.out.on hb)
  have OG := Lib.hid (OG.out.on hb)
  have I3 := Lib.hid (I3.out.on hb)
  have I4 := Lib.hid (oo.small S3.out S4.out)
  clear hb oo
  go_wp2_with fail
  refine (eqss_any x1 v4 _ _ (OY.out.small S3.out S4.out) I4.out).mono ?_
  rintro e w12 ⟨rfl, m, hw⟩
  have hb := below_of_drew hw
  have Z12 := Lib.hid (show w11.heap.size ≤ w12.heap.size from hb.size)
  have B11 := Lib.hid (Below.on B10.out hb)
  have OV := Lib.hid (OV.out.on hb)
  have OX := Lib.hid (OX.out.on hb)
  have OY := Lib.hid (OY.out.on hb)
  have OG := Lib.hid (OG.out.on hb)
  have I3 := Lib.hid (I3.out.on hb)
  have I4 := Lib.hid (I4.out.on hb)
  clear hb hw m
  have ZW := Lib.hid (show w.heap.size ≤ w4.heap.size from B3.out.size)
  go_wp2_with fail
  refine (markSS_any x0 ux0 t 1 w4.heap.size w5.heap.size _ OX.out (by have := S1.out; omega) (fun j hj => by have := S2.out j hj; omega) (by have := C1.out; omega) (by omega)).mono ?_
  rintro e w13 ⟨rfl, om, out⟩
  have Z13 := Lib.hid (show w12.heap.size ≤ w13.heap.size from out.size)
  have zl : w4.heap.size ≤ w12.heap.size := by have := Z5.out; have := Z6.out; have := Z7.out; have := Z8.out; have := Z9.out; have := Z10.out; have := Z11.out; have := Z12.out; omega
  have zw : w.heap.size ≤ w4.heap.size := by have := ZW.out;  omega
  have B12 := Lib.hid (B11.out.trans ((out.below zl).mono zw))
  have OV := Lib.hid (OV.out.lowT out (by have := Z5.out; have := Z6.out; have := Z7.out; omega))
  have OY := Lib.hid (out.ownSS OY.out (by have := Z5.out; have := Z6.out; have := Z7.out; omega))
  have OG := Lib.hid (out.ownSS OG.out (by have := Z5.out; have := Z6.out; have := Z7.out; omega))
  clear out om zl zw
  obtain ⟨K0, hK0⟩ : ∃ K : Int, 1 + (cnt t t.length : Int) = K := ⟨_, rfl⟩
  have K0a : 0 ≤ K0 := by omega
  have K0b : K0 ≤ 1048577 := by have := C1.out; omega
  rw [hK0]
  clear hK0
  go_wp2_with fail
  refine (markSS_any x1 ux1 s K0 w5.heap.size w6.heap.size _ OY.out (by have := S3.out; omega) (fun j hj => by have := S4.out j hj; omega) (by have := C2.out; omega) (K0a)).mono ?_
  rintro e w14 ⟨rfl, om, out⟩
  have Z14 := Lib.hid (show w13.heap.size ≤ w14.heap.size from out.size)
  have zl : w5.heap.size ≤ w13.heap.size := by have := Z6.out; have := Z7.out; have := Z8.out; have := Z9.out; have := Z10.out; have := Z11.out; have := Z12.out; have := Z13.out; omega
  have zw : w.heap.size ≤ w5.heap.size := by have := ZW.out; have := Z5.out; omega
  have B13 := Lib.hid (B12.out.trans ((out.below zl).mono zw))
  have OV := Lib.hid (OV.out.lowT out (by have := Z5.out; have := Z6.out; have := Z7.out; omega))
  have OG := Lib.hid (out.ownSS OG.out (by have := Z5.out; have := Z6.out; have := Z7.out; omega))
  clear out om zl zw
  obtain ⟨K1, hK1⟩ : ∃ K : Int, K0 + (cnt s s.length : Int) = K := ⟨_, rfl⟩
  have K1a : 0 ≤ K1 := by omega
  rw [hK1]
  clear hK1 K0a K0b
  go_wp2_with fail
  refine (eqss_any g0 v0 _ _ (tt_small HXL.out HXR.out OG.out) (tt_small HXL.out HXR.out OV.out)).mono ?_
  rintro e w15 ⟨rfl, m, hw⟩
  have hb := below_of_drew hw
  have Z15 := Lib.hid (show w14.heap.size ≤ w15.heap.size from hb.size)
  have B14 := Lib.hid (Below.on B13.out hb)
  have OV := Lib.hid (OV.out.on hb)
  have OG := Lib.hid (OG.out.on hb)
  clear hb hw m
  go_wp2_with fail
  refine (markSS_any g0 ug0 xss 1 w6.heap.size w7.heap.size _ OG.out (by have := HXL.out; omega) (fun j hj => by have := HXR.out j hj; omega) (by have := HXL.out; have := cnt_le8 xss _ HXR.out; omega) (by omega)).mono ?_
  rintro e w16 ⟨rfl, om, out⟩
  have Z16 := Lib.hid (show w15.heap.size ≤ w16.heap.size from out.size)
  have zl : w6.heap.size ≤ w15.heap.size := by have := Z7.out; have := Z8.out; have := Z9.out; have := Z10.out; have := Z11.out; have := Z12.out; have := Z13.out; have := Z14.out; have := Z15.out; omega
  have zw : w.heap.size ≤ w6.heap.size := by have := ZW.out; have := Z5.out; have := Z6.out; omega
  have B15 := Lib.hid (B14.out.trans ((out.below zl).mono zw))
  have OV := Lib.hid (OV.out.lowT out (by have := Z5.out; have := Z6.out; have := Z7.out; omega))
  have GM := Lib.hid om
  clear out om zl zw
  obtain ⟨KC, hKC⟩ : ∃ KC : Int, (1 : Int) + (cnt xss xss.length : Int) = KC := ⟨_, rfl⟩
  have HKC := Lib.hid hKC
  rw [hKC]
  have kc0 : 0 ≤ KC := by omega
  have hne : (KC != KC) = false := by simp
  clear hKC
  go_wp2_with fail
  refine (held_markT HXL.out HXR.out GM.out).mono ?_
  rintro e wh ⟨rfl, rfl⟩
  rw [HKC.out]
  go_wp2_with fail
  refine (toSS_any a c t _ (HA.out.on B15.out) S1.out S2.out).mono ?_
  rintro e w17 ⟨v5, us5, rfl, oo, hb⟩
  have Z17 := Lib.hid (show w16.heap.size ≤ w17.heap.size from hb.size)
  have B16 := Lib.hid (Below.on B15.out hb)
  have OV := Lib.hid (OV.out.on hb)
  have GM := Lib.hid (GM.out.on hb)
  have I5 := Lib.hid (oo.small S1.out S2.out)
  clear hb oo
  go_wp2_with fail
  refine (toSS_any b d s _ (HB.out.on B16.out) S3.out S4.out).mono ?_
  rintro e w18 ⟨v6, us6, rfl, oo, hb⟩
  have Z18 := Lib.hid (show w17.heap.size ≤ w18.heap.size from hb.size)
  have B17 := Lib.hid (Below.on B16.out hb)
  have OV := Lib.hid (OV.out.on hb)
  have GM := Lib.hid (GM.out.on hb)
  have I5 := Lib.hid (I5.out.on hb)
  have I6 := Lib.hid (oo.small S3.out S4.out)
  clear hb oo
  go_wp2_with fail
  refine (ittb_any v5 v6 t s _ I5.out I6.out).mono ?_
  rintro e w19 ⟨h0, uh0, rfl, oo, hb⟩
  rw [HXS.out] at oo
  rw [HOK.out]
  have Z19 := Lib.hid (show w18.heap.size ≤ w19.heap.size from hb.size)
  have B18 := Lib.hid (Below.on B17.out hb)
  have OV := Lib.hid (OV.out.on hb)
  have GM := Lib.hid (GM.out.on hb)
  have I5 := Lib.hid (I5.out.on hb)
  have I6 := Lib.hid (I6.out.on hb)
  have OH := Lib.hid oo
  clear hb oo
  go_wp2_with fail
  refine (eqss_any h0 v0 _ _ (tt_small HXL.out HXR.out OH.out) (tt_small HXL.out HXR.out OV.out)).mono ?_
  rintro e w20 ⟨rfl, m, hw⟩
  have hb := below_of_drew hw
  have Z20 := Lib.hid (show w19.heap.size ≤ w20.heap.size from hb.size)
  have B19 := Lib.hid (Below.on B18.out hb)
  have OV := Lib.hid (OV.out.on hb)
  have GM := Lib.hid (GM.out.on hb)
  have I5 := Lib.hid (I5.out.on hb)
  have I6 := Lib.hid (I6.out.on hb)
  have OH := Lib.hid (OH.out.on hb)
  clear hb hw m
  go_wp2_with fail
  refine (held_markT HXL.out HXR.out GM.out).mono ?_
  rintro e wh ⟨rfl, rfl⟩
  rw [HKC.out]
  go_wp2
  go_ret
  exact ⟨rfl, B19.out⟩
end Go.Proofs.Ytndknjjafoebhab
