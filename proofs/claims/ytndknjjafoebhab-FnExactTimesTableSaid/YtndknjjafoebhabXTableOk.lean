/- The exact law of TableOk, walked. -/
import Derived.Test.YtndknjjafoebhabTabS
import Derived.Test.YtndknjjafoebhabHelp
namespace Go.Proofs.Ytndknjjafoebhab
open Go.RowKit

theorem OwnSS.small {w : World} {lo hi : Nat} {v : Value} {us : List Value} {xss : List (List Int)} (h : OwnSS w lo hi v us xss) (h1 : xss.length ≤ 1048576) (h2 : ∀ j, j < xss.length → (row xss j).length ≤ 1048576) : IntSS w v xss :=
  h.ints (by unfold maxLen; omega) fun j hj => by have := h2 j hj; unfold maxLen; omega
theorem bne_self' (b : Bool) : (b != b) = false := by cases b <;> rfl

set_option maxHeartbeats 1600000 in
theorem xTableOk_walk (a : Option Addr) (c : Nat) (t : List (List Int)) (w : World) (ha : ArgSS w a t) (hn : t.length ≤ maxLen) (hr : ∀ j, j < t.length → (row t j).length ≤ maxLen) :
    Calls Try.prog 3 #[.slice a t.length c] w fun e w' => e = .returned (.bool true) ∧ Below w.heap.size w w' := by
  have HA := Lib.hid ha
  have HR := Lib.hid hr
  clear ha hr
  go_enter Try.func3, Try.ntmps3
  go_wp2_with fail
  refine (szss_any a c t 1048576 _ HA.out hn HR.out (by omega) (by omega)).mono ?_
  rintro e w1 ⟨r, rfl, rfl, hres⟩
  rcases hres with rfl | ⟨r0, r1, s1, s2, s3⟩
  · go_wp2
    go_ret
    exact ⟨rfl, Below.refl _ _⟩
  have S1 := Lib.hid (show t.length ≤ 1048576 by omega)
  have S2 := Lib.hid (show ∀ j, j < t.length → (row t j).length ≤ 1048576 from fun j hj => by have := s2 j hj; omega)
  clear s1 s2 s3
  go_wp2_with fail
  refine (toSS_any a c t _ HA.out S1.out S2.out).mono ?_
  rintro e w2 ⟨v1, us1, rfl, o1, hb⟩
  have B1 := Lib.hid hb
  have I1 := Lib.hid (o1.small S1.out S2.out)
  clear hb o1
  go_wp2_with fail
  refine (stab_any v1 t _ I1.out).mono ?_
  rintro e w3 ⟨rfl, hb⟩
  have B2 := Lib.hid (Below.on B1.out hb)
  clear hb
  go_wp2_with fail
  refine (toSS_any a c t _ (HA.out.on B2.out) S1.out S2.out).mono ?_
  rintro e w4 ⟨v2, us2, rfl, o2, hb⟩
  have B3 := Lib.hid (Below.on B2.out hb)
  have I2 := Lib.hid (o2.small S1.out S2.out)
  clear hb o2
  go_wp2_with fail
  refine (itab_any v2 t _ I2.out).mono ?_
  rintro e w5 ⟨rfl, hb⟩
  have B4 := Lib.hid (Below.on B3.out hb)
  have I3 := Lib.hid (I2.out.on hb)
  clear hb
  have hq := bne_self' (tabB t)
  go_wp2_with fail
  refine (toSS_any a c t _ (HA.out.on B4.out) S1.out S2.out).mono ?_
  rintro e w6 ⟨v3, us3, rfl, o3, hb⟩
  have B5 := Lib.hid (Below.on B4.out hb)
  have I4 := Lib.hid (o3.small S1.out S2.out)
  have I5 := Lib.hid (I3.out.on hb)
  clear hb o3 hq
  go_wp2_with fail
  refine (eqss_any v2 v3 t _ I5.out I4.out).mono ?_
  rintro e w7 ⟨rfl, m, hw⟩
  have B6 := Lib.hid (Below.on B5.out (below_of_drew hw))
  clear hw
  go_wp2
  go_ret
  exact ⟨rfl, B6.out⟩
end Go.Proofs.Ytndknjjafoebhab
