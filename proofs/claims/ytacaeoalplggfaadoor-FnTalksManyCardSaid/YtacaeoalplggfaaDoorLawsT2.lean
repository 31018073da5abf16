/- The law of TalksMany, walked. -/
import Derived.Test.YtacaeoalplggfaaDoorLawsT
import Derived.Test.YtacaeoalplggfaaDoorTalkM
namespace Go.Proofs.YtacaeoalplggfaaDoor
open Go.RowKit

theorem lTalksMany_walk (s : Value) (w : World) (h : CodeIn w s) (G : Gr w) : Calls Tryd.prog 8 #[s] w fun e w' => e = .returned (.bool true) ∧ Below w.heap.size w w' := by
  obtain ⟨a0, len0, cap0, rfl⟩ := h.slice
  have H := Lib.hid h; clear h
  have G0 := Lib.hid G; clear G
  have B0 := Lib.hid (Below.refl w.heap.size w)
  by_cases hl : 1048576 < len0
  · go_enter Tryd.func8, Tryd.ntmps8
    go_wp2
    go_ret
    exact ⟨rfl, Below.refl _ _⟩
  go_enter Tryd.func8, Tryd.ntmps8
  go_wp2_with fail
  refine (drawTalksMany_any _ _ H.out).mono ?_
  rintro e w1 ⟨g, key, say, ask, rfl, lg, la, lb, lc, hb⟩
  have B1 := Lib.hid hb
  have G1 := Lib.hid (G0.out.on hb)
  clear hb
  go_wp2_with fail
  refine (imany_any _ _ _ _ _ G1.out).mono ?_
  rintro e w2 ⟨rfl, hb⟩
  have B2 := Lib.hid (B1.out.trans (hb.mono B1.out.size))
  have G2 := Lib.hid (G1.out.on hb)
  clear hb
  go_wp2_with fail
  refine (smany_any _ _ _ _ _).mono ?_
  rintro e w3 ⟨rfl, hb⟩
  have B3 := Lib.hid (B2.out.trans (hb.mono B2.out.size))
  have G3 := Lib.hid (G2.out.on hb)
  clear hb
  by_cases hx : elB g key = true ∧ elB g say = true ∧ exB g ask = true
  · have HX := Lib.hid (many_yes hx.1 hx.2.1 hx.2.2)
    clear hx
    rw [HX.out]
    go_wp2
    go_ret
    exact ⟨rfl, B3.out⟩
  · have HX := Lib.hid (many_no hx)
    clear hx
    rw [HX.out]
    go_wp2_with fail
    refine (alive_any _ G3.out).mono ?_
    rintro e wz_ ⟨rfl, rfl⟩
    go_wp2
    go_ret
    exact ⟨rfl, B3.out⟩

end Go.Proofs.YtacaeoalplggfaaDoor
