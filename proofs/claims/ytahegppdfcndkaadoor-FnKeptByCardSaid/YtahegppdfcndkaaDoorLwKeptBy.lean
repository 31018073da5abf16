/- The law FnKeptBy, walked. -/
import Derived.Test.YtahegppdfcndkaaDoorKepI
import Derived.Test.YtahegppdfcndkaaDoorKepS
import Derived.Test.YtahegppdfcndkaaDoorTkL
import Derived.Test.YtahegppdfcndkaaDoorDrA
import Derived.Test.YtahegppdfcndkaaDoorBLaw
namespace Go.Proofs.YtahegppdfcndkaaDoor
open Go.RowKit

/-- What a later world keeps of the list and of the table. -/
structure Kw9 (w w1 : World) (B g1 c1 n : Nat) (Q : Int → Int) (d : List (Int × Int)) (l : List Int) (la : Option Addr) (lc : Nat) (w' : World) : Prop where
  o : OwnT w' B (.slice (some ⟨g1, 0, none⟩) n c1) Q d
  be : Below w1.heap.size w1 w'
theorem Kw9.on {w w1 w2 w' : World} {B g1 c1 n : Nat} {Q : Int → Int} {d : List (Int × Int)} {l : List Int} {la : Option Addr} {lc : Nat} (h : Hid (Kw9 w w1 B g1 c1 n Q d l la lc w2)) (hb : Below w2.heap.size w2 w') : Hid (Kw9 w w1 B g1 c1 n Q d l la lc w') :=
  Lib.hid ⟨ownT_below h.out.o hb, Below.on h.out.be hb⟩
set_option maxRecDepth 20000 in
set_option maxHeartbeats 6400000 in
theorem lKeptBy_walk (s : Value) (w : World) (h : CodeIn w s) (G : Gr w) : Calls Tryd.prog 4 #[s] w fun e w' => e = .returned (.bool true) ∧ Below w.heap.size w w' := by
  obtain ⟨a0, len0, cap0, rfl⟩ := h.slice
  have H := Lib.hid h; clear h
  have G0 := Lib.hid G; clear G
  by_cases hl : 1048576 < len0
  · go_enter Tryd.func4, Tryd.ntmps4
    go_wp2
    go_ret
    exact ⟨rfl, Below.refl _ _⟩
  go_enter Tryd.func4, Tryd.ntmps4
  go_wp2_with fail
  refine (drawKeptBy_any _ _ H.out).mono ?_
  rintro e w1 ⟨g, x, av, l, rfl, hlen, hI, hb⟩
  obtain ⟨la, lc, rfl, _⟩ := hI.opened
  have FB := Lib.hid (show ∀ w', Below w1.heap.size w1 w' → (Gr w' ∧ Ints w' (.slice la l.length lc) l) ∧ Below w.heap.size w w' from fun w' hb' => ⟨⟨G0.out.on (Below.on hb hb'), hI.below hb'⟩, Below.on hb hb'⟩)
  have T1 := Lib.hid (Below.refl w1.heap.size w1)
  clear hI hb
  cases h1 : elB g x
  · have HX := Lib.hid (kept_no1 (l := l) h1)
    clear h1
    have HF := Lib.hid (show ([] : List (Int × Int)).length ≤ 23 by simp)
    go_wp2_with fail
    refine (ikept_any g x _ l _ (FB.out _ T1.out).1.1 (FB.out _ T1.out).1.2).mono ?_
    rintro e w2 ⟨v0, m0, rfl, oo, hm, hb⟩
    rw [HX.out.1] at oo
    rw [HX.out.2] at hm
    subst hm
    have T2 := Lib.hid (Below.on T1.out hb)
    have A2 := Lib.hid oo
    clear hb oo
    go_wp2_with fail
    refine (skept_any g x _ l _ (FB.out _ T2.out).1.2).mono ?_
    rintro e w3 ⟨v1, m1, rfl, oo, hm, hb⟩
    rw [HX.out.1] at oo
    rw [HX.out.2] at hm
    subst hm
    have T3 := Lib.hid (Below.on T2.out hb)
    have A3 := Lib.hid (ownT_below A2.out hb)
    have C3 := Lib.hid oo
    clear hb oo A2
    go_wp2_with fail
    refine (samet_any _ _ _ _ _ _ _ HF.out A3.out C3.out).mono ?_
    rintro e w4 ⟨rfl, m4, hw4⟩
    have T4 := Lib.hid (Below.on T3.out (below_of_drew hw4))
    have A4 := Lib.hid (ownT_below A3.out (below_of_drew hw4))
    clear hw4 A3 C3
    obtain ⟨⟨va, vc, ev⟩, _⟩ := ownT_form A4.out
    subst ev
    go_wp2_with fail
    refine (alive_any _ (FB.out _ T4.out).1.1).mono ?_
    rintro e wz ⟨rfl, rfl⟩
    go_wp2
    go_ret
    exact ⟨rfl, (FB.out _ T4.out).2⟩
  cases h2 : askB g l
  · have HX := Lib.hid (kept_no2 (k := x) h2)
    clear h1 h2
    have HF := Lib.hid (show ([] : List (Int × Int)).length ≤ 23 by simp)
    go_wp2_with fail
    refine (ikept_any g x _ l _ (FB.out _ T1.out).1.1 (FB.out _ T1.out).1.2).mono ?_
    rintro e w2 ⟨v0, m0, rfl, oo, hm, hb⟩
    rw [HX.out.1] at oo
    rw [HX.out.2] at hm
    subst hm
    have T2 := Lib.hid (Below.on T1.out hb)
    have A2 := Lib.hid oo
    clear hb oo
    go_wp2_with fail
    refine (skept_any g x _ l _ (FB.out _ T2.out).1.2).mono ?_
    rintro e w3 ⟨v1, m1, rfl, oo, hm, hb⟩
    rw [HX.out.1] at oo
    rw [HX.out.2] at hm
    subst hm
    have T3 := Lib.hid (Below.on T2.out hb)
    have A3 := Lib.hid (ownT_below A2.out hb)
    have C3 := Lib.hid oo
    clear hb oo A2
    go_wp2_with fail
    refine (samet_any _ _ _ _ _ _ _ HF.out A3.out C3.out).mono ?_
    rintro e w4 ⟨rfl, m4, hw4⟩
    have T4 := Lib.hid (Below.on T3.out (below_of_drew hw4))
    have A4 := Lib.hid (ownT_below A3.out (below_of_drew hw4))
    clear hw4 A3 C3
    obtain ⟨⟨va, vc, ev⟩, _⟩ := ownT_form A4.out
    subst ev
    go_wp2_with fail
    refine (alive_any _ (FB.out _ T4.out).1.1).mono ?_
    rintro e wz ⟨rfl, rfl⟩
    go_wp2
    go_ret
    exact ⟨rfl, (FB.out _ T4.out).2⟩
  obtain ⟨g0, g4⟩ := elB_group h1
  obtain ⟨n, hn, n3, n23⟩ := ord_of g0 g4
  have hel : (els g).length = n := by have := els_ord g0 g4; omega
  obtain ⟨Q, hQ⟩ : ∃ Q, qOf g l = Q := ⟨_, rfl⟩
  obtain ⟨D, hD⟩ : ∃ D, rightA g (glog g (bas g) x) Q = D := ⟨_, rfl⟩
  have HX : Hid (keptAll g x l = D ∧ keptN g x l = ((n * n : Nat) : Int)) := Lib.hid ⟨by unfold keptAll; rw [h1, h2, hQ]; exact hD, by rw [(kept_yes h1 h2).2, hn]; simp⟩
  have HDL := Lib.hid (show D.length = n by rw [← hD, rightA_len, hel])
  have HF := Lib.hid (show D.length ≤ 23 by rw [← hD, rightA_len, hel]; exact n23)
  obtain ⟨xs, hxs⟩ : ∃ xs : Nat → Int, ∀ k, nth (els g) k = xs k := ⟨_, fun _ => rfl⟩
  obtain ⟨ts, hts⟩ : ∃ ts : Nat → Int, ∀ k, tellOf g (glog g (bas g) x) (glog g (bas g) (xs k)) (Q (xs k)) = ts k := ⟨_, fun _ => rfl⟩
  have HAT := Lib.hid (show ∀ k, k < n → (D[k]!).1 = xs k ∧ (D[k]!).2 = ts k from fun k hk => by
    have h := right_at (g := g) (x := glog g (bas g) x) (Q := Q) (k := k) (by rw [hel]; exact hk)
    rw [hD, hxs, hts] at h
    exact h)
  have HEL := Lib.hid (show ∀ k, k < n → elB g (xs k) = true from fun k hk => by rw [← hxs]; exact elB_mem.2 (nth_mem (by rw [hel]; exact hk)))
  have HOK := Lib.hid (show ∀ k, k < n → tokB g x (xs k) (Q (xs k)) (ts k) = true from fun k hk => by
    have h := right_ok (g := g) (key := x) (Q := Q) (k := k) h1 (by rw [hel]; exact hk) (by rw [← hQ]; exact qOf_ex h2 (elB_mem.2 (nth_mem (by rw [hel]; exact hk))))
    rw [hxs, hts] at h
    exact h)
  have HAS := Lib.hid (show ∀ k, k < n → askedB g l (xs k) = Q (xs k) from fun k hk => by rw [← hQ]; exact asked_yes h2 (HEL.out k hk))
  have HO := Lib.hid hn
  have HQ := Lib.hid hQ
  clear h1 h2 hn hel hQ hD hxs hts g0 g4
  go_wp2_with fail
  refine (ikept_any g x _ l _ (FB.out _ T1.out).1.1 (FB.out _ T1.out).1.2).mono ?_
  rintro e w2 ⟨v0, m0, rfl, oo, hm, hb⟩
  rw [HX.out.1, HQ.out] at oo
  rw [HX.out.2] at hm
  subst hm
  have T2 := Lib.hid (Below.on T1.out hb)
  have A2 := Lib.hid oo
  clear hb oo
  go_wp2_with fail
  refine (skept_any g x _ l _ (FB.out _ T2.out).1.2).mono ?_
  rintro e w3 ⟨v1, m1, rfl, oo, hm, hb⟩
  rw [HX.out.1, HQ.out] at oo
  rw [HX.out.2] at hm
  subst hm
  have T3 := Lib.hid (Below.on T2.out hb)
  have A3 := Lib.hid (ownT_below A2.out hb)
  have C3 := Lib.hid oo
  clear hb oo A2
  go_wp2_with fail
  refine (samet_any _ _ _ _ _ _ _ HF.out A3.out C3.out).mono ?_
  rintro e w4 ⟨rfl, m4, hw4⟩
  have T4 := Lib.hid (Below.on T3.out (below_of_drew hw4))
  have A4 := Lib.hid (ownT_below A3.out (below_of_drew hw4))
  clear hw4 A3 C3
  obtain ⟨g1, c1, ev⟩ := (ownT_form A4.out).2 (by rw [HDL.out]; omega)
  rw [HDL.out] at ev
  subst ev
  have hnn : ¬ ((n * n : Nat) : Int) < 0 := by omega
  have hnn2 : (((n * n : Nat) : Int) != ((n * n : Nat) : Int)) = false := by simp
  have M0 : Hid (Kw9 w w1 w1.heap.size g1 c1 n Q D l la lc w4) := Lib.hid ⟨A4.out, T4.out⟩
  clear A4
  go_wp2
  go_loopw [10] (fun i wr => ∃ k : Nat, k ≤ n ∧ i = .int .i64 k ∧ Hid (Kw9 w w1 w1.heap.size g1 c1 n Q D l la lc wr)) (fun i _ => n - (intOf i).toNat)
  case atStart => exact ⟨0, by omega, rfl, M0⟩
  case round =>
    obtain ⟨k, hk, rfl, M⟩ := hrel
    obtain ⟨wo, rfl⟩ : ∃ wo : World, wo = wr := ⟨_, rfl⟩
    clear M0
    by_cases hlt : k < n
    · have hlt1 : (k : Int) < (n : Int) := by omega
      have HCC := Lib.hid (show ∀ w', Kw9 w w1 w1.heap.size g1 c1 n Q D l la lc w' → w'.cell? ⟨g1, k * 3, none⟩ = some (.int .i64 (xs k)) ∧ w'.cell? ⟨g1, k * 3 + 1, none⟩ = some (.int .i64 (Q (xs k))) ∧ w'.cell? ⟨g1, k * 3 + 2, none⟩ = some (.int .i64 (ts k)) from fun w' h => by
        have q := ownT_at h.o HDL.out hlt
        rw [(HAT.out k hlt).1, (HAT.out k hlt).2] at q
        exact q)
      have HTK := Lib.hid (HOK.out k hlt)
      have HSK := Lib.hid (HAS.out k hlt)
      generalize ts k = t at HCC HTK
      generalize xs k = sx at HCC HTK HSK
      generalize Q sx = qx at HCC HTK HSK
      have hge : decide (n ≤ k) = false := decide_eq_false (by omega)
      have hqq : (qx != qx) = false := by simp
      have HD : Hid (Kw9 w w1 w1.heap.size g1 c1 n Q D l la lc wo.drew) := Kw9.on M (Below.refl _ _).drew
      go_wp2_with fail
      refine wp_region_class (C := fun w' => Hid (Kw9 w w1 w1.heap.size g1 c1 n Q D l la lc w')) (by kernel_rfl) (by kernel_rfl) HD ?_
      repeat (first | go_big_quiet_skip | (go_big_quiet_want; go_big_quiet_op; first | go_big_quiet_on | (refine ⟨_, fun _ _ => rfl, ?_⟩; go_big_quiet_on)))
      go_big_quiet_want
      go_big_quiet_op
      refine ⟨.agg #[.int .i64 sx, .int .i64 qx, .int .i64 t], fun w' hw' => ?_, ?_⟩
      · obtain ⟨q, q1, q2⟩ := HCC.out _ hw'.out
        simp [go_sem, q, q1, q2]
      go_big_quiet_on
      repeat (first | go_big_quiet_skip | (go_big_quiet_want; go_big_quiet_op; first | go_big_quiet_on | (refine ⟨_, fun _ _ => rfl, ?_⟩; go_big_quiet_on)))
      go_big_quiet_want
      go_big_quiet_op
      go_big_quiet_call ((intro hw; exact (itok_any g x sx qx t _ (FB.out _ hw.out.be).1.1).mono fun _ _ ⟨he, hb⟩ => ⟨he.trans (by rw [HTK.out]), Kw9.on hw hb⟩))
      repeat (first | go_big_quiet_skip | (go_big_quiet_want; go_big_quiet_op; first | go_big_quiet_on | (refine ⟨_, fun _ _ => rfl, ?_⟩; go_big_quiet_on)))
      go_big_quiet_want
      go_big_quiet_op
      refine ⟨.int .i64 sx, fun w' hw' => ?_, ?_⟩
      · obtain ⟨q, q1, q2⟩ := HCC.out _ hw'.out
        simp [go_sem, q]
      go_big_quiet_on
      repeat (first | go_big_quiet_skip | (go_big_quiet_want; go_big_quiet_op; first | go_big_quiet_on | (refine ⟨_, fun _ _ => rfl, ?_⟩; go_big_quiet_on)))
      go_big_quiet_want
      go_big_quiet_op
      go_big_quiet_call ((intro hw; exact (iasb_any g sx _ l _ (FB.out _ hw.out.be).1.1 (FB.out _ hw.out.be).1.2).mono fun _ _ ⟨he, hb⟩ => ⟨he.trans (by rw [HSK.out]), Kw9.on hw hb⟩))
      repeat (first | go_big_quiet_skip | (go_big_quiet_want; go_big_quiet_op; first | go_big_quiet_on | (refine ⟨_, fun _ _ => rfl, ?_⟩; go_big_quiet_on)))
      go_big_quiet_want
      go_big_quiet_op
      refine ⟨.int .i64 qx, fun w' hw' => ?_, ?_⟩
      · obtain ⟨q, q1, q2⟩ := HCC.out _ hw'.out
        simp [go_sem, q1]
      go_big_quiet_on
      repeat (first | go_big_quiet_skip | (go_big_quiet_want; go_big_quiet_op; first | go_big_quiet_on | (refine ⟨_, fun _ _ => rfl, ?_⟩; go_big_quiet_on)))
      refine wpQuiet_nil ?_
      intro wz M2
      clear HD M HCC HTK HSK
      go_wp2
      go_roundw
      case rel => exact ⟨k + 1, by omega, by go_num, M2⟩
      case measure => simp [intOf]; omega
    · obtain rfl : k = n := by omega
      have hlt1 : ¬ (k : Int) < (k : Int) := by omega
      have T5 := Lib.hid M.out.be
      go_wp2_with fail
      refine (sord_any g _).mono ?_
      rintro e w6 ⟨rfl, hb⟩
      rw [HO.out]
      have T6 := Lib.hid (Below.on T5.out hb)
      clear hb
      go_wp2_with fail
      refine (sord_any g _).mono ?_
      rintro e w7 ⟨rfl, hb⟩
      rw [HO.out]
      have T7 := Lib.hid (Below.on T6.out hb)
      clear hb
      have hsq : (((k * k : Nat) : Int) == (k : Int) * (k : Int)) = true := by simp
      have hkk : k * k ≤ 23 * 23 := Nat.mul_le_mul n23 n23
      go_wp2
      go_ret
      exact ⟨rfl, (FB.out _ T7.out).2⟩
end Go.Proofs.YtahegppdfcndkaaDoor
