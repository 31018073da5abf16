/- impl: sameGraph, twoOk, OrderThen, OrderBack, turnAskOk. -/
import Derived.Test.YtimkmdedoacpfaaGphI
import Derived.Test.YtimkmdedoacpfaaBSol
import Derived.Test.YtimkmdedoacpfaaTokS
namespace Go.Proofs.Ytimkmdedoacpfaa
open Go.RowKit

theorem isg_any (p q : Int) (gv hv : Value) (g h : List Int) (w : World) (hg : Ints w gv g) (hh : Ints w hv h) :
    Calls Try.prog 82 #[.agg #[.int .i64 p, gv], .agg #[.int .i64 q, hv]] w fun e w' => e = .returned (.bool (decide (p = q) && sameB g h)) ∧ Below w.heap.size w w' := by
  obtain ⟨p0, p1, pl⟩ := boxes2 (P := [.int .i64 p, gv]) (R := [.int .i64 q, hv]) (Below.refl ((w.alloc (.cells #[.int .i64 p, gv] 28)).alloc (.cells #[.int .i64 q, hv] 28)).heap.size _)
  have a0 := p0.cell 0
  have a1 := p0.cell 1
  have b0 := p1.cell 0
  have b1 := p1.cell 1
  simp at a0 a1 b0 b1
  have PL := Lib.hid pl
  have HG := Lib.hid (hg.below pl)
  have HH := Lib.hid (hh.below pl)
  clear p0 p1 pl hg hh
  by_cases e : p = q
  · have HX := Lib.hid (show (decide (p = q) && sameB g h) = sameB g h from by simp [e])
    have hd : (p == q) = true := by simp [e]
    clear e
    go_enter Try.func82, Try.ntmps82
    go_wp2_with fail
    refine (slEq_any gv hv g h _ HG.out HH.out).mono ?_
    rintro e w1 ⟨rfl, hb⟩
    have B1 := Lib.hid (Below.on PL.out hb)
    clear hb a0 a1 b0 b1
    go_wp2
    go_ret
    exact ⟨by rw [HX.out]; rfl, B1.out⟩
  · have HX := Lib.hid (show (decide (p = q) && sameB g h) = false from by simp [e])
    have hd : (p == q) = false := by simp [e]
    clear e
    go_enter Try.func82, Try.ntmps82
    go_wp2
    go_ret
    exact ⟨by rw [HX.out]; rfl, PL.out⟩
theorem isg_is {p q : Int} {gv hv : Value} {g h : List Int} {w : World} {r : Bool} (hr : (decide (p = q) && sameB g h) = r) (hg : Ints w gv g) (hh : Ints w hv h) :
    Calls Try.prog 82 #[.agg #[.int .i64 p, gv], .agg #[.int .i64 q, hv]] w fun e w' => e = .returned (.bool r) ∧ Below w.heap.size w w' := by rw [← hr]; exact isg_any p q gv hv g h w hg hh

set_option maxHeartbeats 800000 in
theorem itwo_any (p q : Int) (gv hv : Value) (g h : List Int) (w : World) (hg : Ints w gv g) (hh : Ints w hv h) (hs : ∀ j, j < g.length → intIn (nth g j)) (hs' : ∀ j, j < h.length → intIn (nth h j)) :
    Calls Try.prog 72 #[.agg #[.int .i64 p, gv], .agg #[.int .i64 q, hv]] w fun e w' => e = .returned (.bool (btB p g q h)) ∧ Below w.heap.size w w' := by
  obtain ⟨p0, p1, pl⟩ := boxes2 (P := [.int .i64 p, gv]) (R := [.int .i64 q, hv]) (Below.refl ((w.alloc (.cells #[.int .i64 p, gv] 28)).alloc (.cells #[.int .i64 q, hv] 28)).heap.size _)
  have B0 := Lib.hid (Below.refl ((w.alloc (.cells #[.int .i64 p, gv] 28)).alloc (.cells #[.int .i64 q, hv] 28)).heap.size ((w.alloc (.cells #[.int .i64 p, gv] 28)).alloc (.cells #[.int .i64 q, hv] 28)))
  have BG := Lib.hid p0
  have BH := Lib.hid p1
  have PL := Lib.hid pl
  have HG := Lib.hid (show ∀ w', Below w.heap.size w w' → Ints w' gv g from fun w' hb => hg.below hb)
  have HH := Lib.hid (show ∀ w', Below w.heap.size w w' → Ints w' hv h from fun w' hb => hh.below hb)
  have HS := Lib.hid hs
  have HS' := Lib.hid hs'
  clear p0 p1 pl hg hh hs hs'
  have cg0 := (BG.out.on B0.out).cell 0
  have cg1 := (BG.out.on B0.out).cell 1
  have ch0 := (BH.out.on B0.out).cell 0
  have ch1 := (BH.out.on B0.out).cell 1
  simp at cg0 cg1 ch0 ch1
  cases k1 : gkB p g
  · have HX := Lib.hid (show btB p g q h = false by simp [btB, k1])
    go_enter Try.func72, Try.ntmps72
    go_wp2_with fail
    refine (igk_is k1 (HG.out _ PL.out) HS.out).mono ?_
    rintro e w1 ⟨rfl, hb⟩
    have B1 := Lib.hid (Below.on PL.out hb)
    clear hb cg0 cg1 ch0 ch1
    go_wp2
    go_ret
    exact ⟨by rw [HX.out]; rfl, B1.out⟩
  cases k2 : gkB q h
  · have HX := Lib.hid (show btB p g q h = false by simp [btB, k1, k2])
    go_enter Try.func72, Try.ntmps72
    go_wp2_with fail
    refine (igk_is k1 (HG.out _ PL.out) HS.out).mono ?_
    rintro e w1 ⟨rfl, hb⟩
    have B1 := Lib.hid (Below.on PL.out hb)
    have BH1 := Lib.hid (BH.out.on hb)
    clear hb cg0 cg1 ch0 ch1
    have ch0 := BH1.out.cell 0
    have ch1 := BH1.out.cell 1
    simp at ch0 ch1
    go_wp2_with fail
    refine (igk_is k2 (HH.out _ B1.out) HS'.out).mono ?_
    rintro e w2 ⟨rfl, hb⟩
    have B2 := Lib.hid (Below.on B1.out hb)
    clear hb ch0 ch1
    go_wp2
    go_ret
    exact ⟨by rw [HX.out]; rfl, B2.out⟩
  obtain ⟨b, hb0⟩ : ∃ b, decide (p = q) = b := ⟨_, rfl⟩
  have hd : (p == q) = b := by rw [← hb0]; by_cases e : p = q <;> simp [e]
  have HX := Lib.hid (show btB p g q h = b by simp [btB, k1, k2, hb0])
  clear hb0
  go_enter Try.func72, Try.ntmps72
  go_wp2_with fail
  refine (igk_is k1 (HG.out _ PL.out) HS.out).mono ?_
  rintro e w1 ⟨rfl, hb⟩
  have B1 := Lib.hid (Below.on PL.out hb)
  have BG1 := Lib.hid (BG.out.on hb)
  have BH1 := Lib.hid (BH.out.on hb)
  clear hb cg0 cg1 ch0 ch1
  have ch0 := BH1.out.cell 0
  have ch1 := BH1.out.cell 1
  simp at ch0 ch1
  go_wp2_with fail
  refine (igk_is k2 (HH.out _ B1.out) HS'.out).mono ?_
  rintro e w2 ⟨rfl, hb⟩
  have B2 := Lib.hid (Below.on B1.out hb)
  have cg0 := (BG1.out.on hb).cell 0
  clear ch0 ch1
  have ch0 := (BH1.out.on hb).cell 0
  simp at cg0 ch0
  clear hb
  go_wp2
  go_ret
  exact ⟨by rw [HX.out]; first | rfl | simp, B2.out⟩
theorem itwo_is {p q : Int} {gv hv : Value} {g h : List Int} {w : World} {r : Bool} (hr : btB p g q h = r) (hg : Ints w gv g) (hh : Ints w hv h) (hs : ∀ j, j < g.length → intIn (nth g j)) (hs' : ∀ j, j < h.length → intIn (nth h j)) :
    Calls Try.prog 72 #[.agg #[.int .i64 p, gv], .agg #[.int .i64 q, hv]] w fun e w' => e = .returned (.bool r) ∧ Below w.heap.size w w' := by rw [← hr]; exact itwo_any p q gv hv g h w hg hh hs hs'

end Go.Proofs.Ytimkmdedoacpfaa
