/- The law FnHeardFrom, walked. -/
import Derived.Test.YtahegppdfcndkaaDoorHrdI
import Derived.Test.YtahegppdfcndkaaDoorHrdS
import Derived.Test.YtahegppdfcndkaaDoorKepI
import Derived.Test.YtahegppdfcndkaaDoorTkL
import Derived.Test.YtahegppdfcndkaaDoorDrA
import Derived.Test.YtahegppdfcndkaaDoorBLaw
namespace Go.Proofs.YtahegppdfcndkaaDoor
open Go.RowKit

theorem heard_pos {g s : Int} {l : List Int} (h : 0 < (heardAll g s l).length) : (exB g s = true ∧ askB g l = true) ∧ keptAll g (keyOf g s) l = heardAll g s l ∧ ((heardAll g s l).length : Int) = ord g := by
  cases h1 : exB g s
  · rw [heard_no1 h1] at h; simp at h
  · cases h2 : askB g l
    · rw [heard_no2 h2] at h; simp at h
    · obtain ⟨⟨g0, g4⟩, _⟩ := exB_true.1 h1
      refine ⟨⟨rfl, rfl⟩, ?_, ?_⟩
      · unfold keptAll heardAll; rw [h1, h2, key_el h1, key_log h1]
      · unfold heardAll; rw [h1, h2]; show ((rightA g s (qOf g l)).length : Int) = ord g; rw [rightA_len]; exact els_ord g0 g4
theorem ownT_drew {w : World} {B : Nat} {v : Value} {ask : Int → Int} {d : List (Int × Int)} (h : OwnT w B v ask d) (m : Nat) : OwnT (w.drewN m) B v ask d := ownT_below h (below_drewN (Below.refl _ _) m)
set_option maxRecDepth 20000 in
set_option maxHeartbeats 3200000 in
theorem lHeardFrom_walk (s : Value) (w : World) (h : CodeIn w s) (G : Gr w) : Calls Tryd.prog 3 #[s] w fun e w' => e = .returned (.bool true) ∧ Below w.heap.size w w' := by
  obtain ⟨a0, len0, cap0, rfl⟩ := h.slice
  have H := Lib.hid h; clear h
  have G0 := Lib.hid G; clear G
  by_cases hl : 1048576 < len0
  · go_enter Tryd.func3, Tryd.ntmps3
    go_wp2
    go_ret
    exact ⟨rfl, Below.refl _ _⟩
  go_enter Tryd.func3, Tryd.ntmps3
  go_wp2_with fail
  refine (drawHeardFrom_any _ _ H.out).mono ?_
  rintro e w1 ⟨g, x, av, l, rfl, hlen, hI, hb⟩
  obtain ⟨la, lc, rfl, _⟩ := hI.opened
  have FB := Lib.hid (show ∀ w', Below w1.heap.size w1 w' → (Gr w' ∧ Ints w' (.slice la l.length lc) l) ∧ Below w.heap.size w w' from fun w' hb' => ⟨⟨G0.out.on (Below.on hb hb'), hI.below hb'⟩, Below.on hb hb'⟩)
  have T1 := Lib.hid (Below.refl w1.heap.size w1)
  clear hI hb
  obtain ⟨D, hD⟩ : ∃ D, heardAll g x l = D := ⟨_, rfl⟩
  have HD := Lib.hid hD
  have HF := Lib.hid (show D.length ≤ 23 by rw [← hD]; exact heard_few g x l)
  clear hD
  go_wp2_with fail
  refine (iheard_any g x _ l _ (FB.out _ T1.out).1.1 (FB.out _ T1.out).1.2).mono ?_
  rintro e w2 ⟨v0, rfl, oo, hb⟩
  rw [HD.out] at oo
  have T2 := Lib.hid (Below.on T1.out hb)
  have A2 := Lib.hid oo
  obtain ⟨⟨va, vc, ev⟩, _⟩ := ownT_form oo
  subst ev
  clear hb oo
  go_wp2_with fail
  refine (sheard_any g x _ l _ (FB.out _ T2.out).1.2).mono ?_
  rintro e w3 ⟨v1, rfl, oo, hb⟩
  rw [HD.out] at oo
  have T3 := Lib.hid (Below.on T2.out hb)
  have A3 := Lib.hid (ownT_below A2.out hb)
  have C3 := Lib.hid oo
  clear hb oo A2
  go_wp2_with fail
  refine (samet_any _ _ _ _ _ _ _ HF.out A3.out C3.out).mono ?_
  rintro e w4 ⟨rfl, m4, hw4⟩
  have T4 := Lib.hid (Below.on T3.out (below_of_drew hw4))
  have A4 := Lib.hid (ownT_below A3.out (below_of_drew hw4))
  clear hw4 A3 C3
  by_cases hz : D.length = 0
  · have hq : ((D.length : Int) == 0) = true := by rw [beq_iff_eq]; omega
    have HZ := Lib.hid hz
    clear hz
    go_wp2_with fail
    refine (alive_any _ (FB.out _ T4.out).1.1).mono ?_
    rintro e wz ⟨rfl, rfl⟩
    go_wp2
    go_ret
    exact ⟨rfl, (FB.out _ T4.out).2⟩
  have hq : ((D.length : Int) == 0) = false := by rw [beq_eq_false_iff_ne]; omega
  have hp := heard_pos (g := g) (s := x) (l := l) (by rw [HD.out]; omega)
  rw [HD.out] at hp
  have HK := Lib.hid hp.2.1
  have HO := Lib.hid hp.2.2
  clear hp hz
  go_wp2_with fail
  refine (ikey_any g x _ (FB.out _ T4.out).1.1).mono ?_
  rintro e w5 ⟨rfl, hb⟩
  have T5 := Lib.hid (Below.on T4.out hb)
  have A5 := Lib.hid (ownT_below A4.out hb)
  clear hb A4
  go_wp2_with fail
  refine (ikept_any g _ _ l _ (FB.out _ T5.out).1.1 (FB.out _ T5.out).1.2).mono ?_
  rintro e w6 ⟨v2, m2, rfl, oo, _, hb⟩
  rw [HK.out] at oo
  have T6 := Lib.hid (Below.on T5.out hb)
  have A6 := Lib.hid (ownT_below A5.out hb)
  have C6 := Lib.hid oo
  clear hb oo A5
  go_wp2_with fail
  refine (samet_any _ _ _ _ _ _ _ HF.out C6.out A6.out).mono ?_
  rintro e w7 ⟨rfl, m7, hw7⟩
  have T7 := Lib.hid (Below.on T6.out (below_of_drew hw7))
  clear hw7 A6 C6
  go_wp2_with fail
  refine (sord_any g _).mono ?_
  rintro e w8 ⟨rfl, hb⟩
  rw [← HO.out]
  have T8 := Lib.hid (Below.on T7.out hb)
  clear hb
  have hoo : ((D.length : Int) == (D.length : Int)) = true := by simp
  go_wp2
  go_ret
  exact ⟨rfl, (FB.out _ T8.out).2⟩
end Go.Proofs.YtahegppdfcndkaaDoor
