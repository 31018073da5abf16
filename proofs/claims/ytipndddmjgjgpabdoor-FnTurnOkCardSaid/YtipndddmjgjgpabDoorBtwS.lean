/- spec: l7Same, GraphMoved, OrdersBetween. -/
import Derived.Test.YtipndddmjgjgpabDoorOrdS
namespace Go.Proofs.YtipndddmjgjgpabDoor
open Go.RowKit

theorem ssg_any (p q : Int) (gv hv : Value) (g h : List Int) (w : World) (hg : Ints w gv g) (hh : Ints w hv h) :
    Calls Tryd.prog 71 #[.agg #[.int .i64 p, gv], .agg #[.int .i64 q, hv]] w fun e w' => e = .returned (.bool (decide (p = q) && sameB g h)) ∧ Below w.heap.size w w' := by
  obtain ⟨p0, p1, pl⟩ := boxes2 (P := [.int .i64 p, gv]) (R := [.int .i64 q, hv]) (Below.refl ((w.alloc (.cells #[.int .i64 p, gv] 25)).alloc (.cells #[.int .i64 q, hv] 25)).heap.size _)
  have a0 := p0.cell 0
  have a1 := p0.cell 1
  have b0 := p1.cell 0
  have b1 := p1.cell 1
  simp at a0 a1 b0 b1
  have PL := Lib.hid pl
  have HG := Lib.hid (hg.below pl)
  have HH := Lib.hid (hh.below pl)
  clear p0 p1 pl hg hh
  by_cases e : p = q
  · have HX := Lib.hid (show (decide (p = q) && sameB g h) = sameB g h from by simp [e])
    have hd : (p == q) = true := by simp [e]
    clear e
    go_enter Tryd.func71, Tryd.ntmps71
    go_wp2_with fail
    refine (ssame_any gv hv g h _ HG.out HH.out).mono ?_
    rintro e w1 ⟨rfl, hb⟩
    have B1 := Lib.hid (Below.on PL.out hb)
    clear hb a0 a1 b0 b1
    go_wp2
    go_ret
    exact ⟨by rw [HX.out]; rfl, B1.out⟩
  · have HX := Lib.hid (show (decide (p = q) && sameB g h) = false from by simp [e])
    have hd : (p == q) = false := by simp [e]
    clear e
    go_enter Tryd.func71, Tryd.ntmps71
    go_wp2
    go_ret
    exact ⟨by rw [HX.out]; rfl, PL.out⟩
theorem ssg_is {p q : Int} {gv hv : Value} {g h : List Int} {w : World} {r : Bool} (hr : (decide (p = q) && sameB g h) = r) (hg : Ints w gv g) (hh : Ints w hv h) :
    Calls Tryd.prog 71 #[.agg #[.int .i64 p, gv], .agg #[.int .i64 q, hv]] w fun e w' => e = .returned (.bool r) ∧ Below w.heap.size w w' := by rw [← hr]; exact ssg_any p q gv hv g h w hg hh

/-- GraphMoved. -/
def gmB (p : Int) (es o : List Int) : Bool := gkB p es && odB o p
def gmP (p : Int) (es o : List Int) : Int := if gmB p es o then p else 0
def gmE (p : Int) (es o : List Int) : List Int := if gmB p es o then mov o es else []
theorem gm_yes {p : Int} {es o : List Int} (h : gmB p es o = true) : gmP p es o = p ∧ gmE p es o = mov o es := by simp [gmP, gmE, h]
theorem gm_no {p : Int} {es o : List Int} (h : gmB p es o = false) : gmP p es o = 0 ∧ gmE p es o = [] := by simp [gmP, gmE, h]
theorem gmB_true {p : Int} {es o : List Int} : gmB p es o = true ↔ Gk p es ∧ Od o p := by unfold gmB; rw [Bool.and_eq_true, gkB_true, odB_true]
def GrPost (p : Int) (es : List Int) (w : World) (e : Ending) (w' : World) : Prop := ∃ v, e = .returned (.agg #[.int .i64 p, v]) ∧ Own w' w.heap.size v es ∧ Below w.heap.size w w'

theorem sgm_no (p : Int) (ev ov : Value) (es o : List Int) (w : World) (h : Ints w ev es) (h' : Ints w ov o) (hp : intIn p) (hs : ∀ j, j < es.length → intIn (nth es j)) (hb : gmB p es o = false) :
    Calls Tryd.prog 24 #[.agg #[.int .i64 p, ev], ov] w (GrPost (gmP p es o) (gmE p es o) w) := by
  obtain ⟨p0, p1, pl⟩ := boxes2 (P := [.int .i64 p, ev]) (R := [.int .i64 0, .slice none 0 0]) (Below.refl ((w.alloc (.cells #[.int .i64 p, ev] 25)).alloc (.cells #[.int .i64 0, .slice none 0 0] 25)).heap.size _)
  have HE := Lib.hid (show ∀ w', Below w.heap.size w w' → Ints w' ev es from fun w' hb => h.below hb)
  have HO := Lib.hid (show ∀ w', Below w.heap.size w w' → Ints w' ov o from fun w' hb => h'.below hb)
  have HX := Lib.hid (gm_no hb)
  have P0 := Lib.hid p0
  have P1 := Lib.hid p1
  have PL := Lib.hid pl
  have HS := Lib.hid hs
  have HPP := Lib.hid hp
  have a0 := p0.cell 0
  have a1 := p0.cell 1
  simp at a0 a1
  clear h h' hp hs p0 p1 pl
  cases hk : gkB p es
  · clear hb
    go_enter Tryd.func24, Tryd.ntmps24
    go_wp2_with fail
    refine (sgk_is hk (HE.out _ PL.out) HPP.out HS.out).mono ?_
    rintro e w1 ⟨rfl, hb⟩
    have B1 := Lib.hid (Below.on PL.out hb)
    have r := P1.out.on hb
    have r0 := r.cell 0
    have r1 := r.cell 1
    have f0 := r.frozen 0
    have f1 := r.frozen 1
    simp at r0 r1
    clear hb a0 a1 r hk
    go_wp2
    refine bodyPost_ret (v := .agg #[.int .i64 0, .slice none 0 0]) ?_ rfl ⟨_, by rw [HX.out.1], ?_, below_set2 B1.out (by omega)⟩
    · simp [results, Tryd.results24, go_sem, r0, r1]
    · rw [HX.out.2]; exact World.ownsRow_nil _ _ _ _
  · have ho : odB o p = false := by unfold gmB at hb; rw [hk] at hb; simpa using hb
    clear hb
    go_enter Tryd.func24, Tryd.ntmps24
    go_wp2_with fail
    refine (sgk_is hk (HE.out _ PL.out) HPP.out HS.out).mono ?_
    rintro e w1 ⟨rfl, hb⟩
    have B1 := Lib.hid (Below.on PL.out hb)
    have P2 := Lib.hid (P0.out.on hb)
    have P3 := Lib.hid (P1.out.on hb)
    clear hb a0 a1 hk
    have a0 := P2.out.cell 0
    simp at a0
    go_wp2_with fail
    refine (sod_is ho (HO.out _ B1.out)).mono ?_
    rintro e w2 ⟨rfl, hb⟩
    have B2 := Lib.hid (Below.on B1.out hb)
    have r := P3.out.on hb
    have r0 := r.cell 0
    have r1 := r.cell 1
    have f0 := r.frozen 0
    have f1 := r.frozen 1
    simp at r0 r1
    clear hb a0 r ho
    go_wp2
    refine bodyPost_ret (v := .agg #[.int .i64 0, .slice none 0 0]) ?_ rfl ⟨_, by rw [HX.out.1], ?_, below_set2 B2.out (by omega)⟩
    · simp [results, Tryd.results24, go_sem, r0, r1]
    · rw [HX.out.2]; exact World.ownsRow_nil _ _ _ _

theorem sgm_yes (p : Int) (ev ov : Value) (es o : List Int) (w : World) (h : Ints w ev es) (h' : Ints w ov o) (hp : intIn p) (hs : ∀ j, j < es.length → intIn (nth es j)) (hb : gmB p es o = true) :
    Calls Tryd.prog 24 #[.agg #[.int .i64 p, ev], ov] w (GrPost (gmP p es o) (gmE p es o) w) := by
  obtain ⟨p0, p1, pl⟩ := boxes2 (P := [.int .i64 p, ev]) (R := [.int .i64 0, .slice none 0 0]) (Below.refl ((w.alloc (.cells #[.int .i64 p, ev] 25)).alloc (.cells #[.int .i64 0, .slice none 0 0] 25)).heap.size _)
  have HE := Lib.hid (show ∀ w', Below w.heap.size w w' → Ints w' ev es from fun w' hb => h.below hb)
  have HO := Lib.hid (show ∀ w', Below w.heap.size w w' → Ints w' ov o from fun w' hb => h'.below hb)
  have HX := Lib.hid (gm_yes hb)
  have hk := gkB_true.2 (gmB_true.1 hb).1
  have ho := odB_true.2 (gmB_true.1 hb).2
  have HGK := Lib.hid (gmB_true.1 hb)
  have P0 := Lib.hid p0
  have P1 := Lib.hid p1
  have PL := Lib.hid pl
  have HS := Lib.hid hs
  have HPP := Lib.hid hp
  have a0 := p0.cell 0
  have a1 := p0.cell 1
  simp at a0 a1
  clear h h' hp hs p0 p1 pl hb
  go_enter Tryd.func24, Tryd.ntmps24
  go_wp2_with fail
  refine (sgk_is hk (HE.out _ PL.out) HPP.out HS.out).mono ?_
  rintro e w1 ⟨rfl, hb⟩
  have B1 := Lib.hid (Below.on PL.out hb)
  have P2 := Lib.hid (P0.out.on hb)
  have P3 := Lib.hid (P1.out.on hb)
  clear hb a0 a1 hk
  have a0 := P2.out.cell 0
  simp at a0
  go_wp2_with fail
  refine (sod_is ho (HO.out _ B1.out)).mono ?_
  rintro e w2 ⟨rfl, hb⟩
  have B2 := Lib.hid (Below.on B1.out hb)
  have P4 := Lib.hid (P2.out.on hb)
  have P5 := Lib.hid (P3.out.on hb)
  clear hb a0 ho
  have a0 := P4.out.cell 0
  have a1 := P4.out.cell 1
  simp at a0 a1
  go_wp2_with fail
  refine (smov_any p ev ov es o _ (HE.out _ B2.out) (HO.out _ B2.out) HGK.out.1 HGK.out.2).mono ?_
  rintro e w3 ⟨v, rfl, ow, hb⟩
  have B3 := Lib.hid (Below.on B2.out hb)
  have r := P5.out.on hb
  have r0 := r.cell 0
  have r1 := r.cell 1
  have f0 := r.frozen 0
  have f1 := r.frozen 1
  simp at r0 r1
  obtain ⟨va, vc, hv⟩ := ow.form
  obtain ⟨n, hn⟩ : ∃ n, (mov o es).length = n := ⟨_, rfl⟩
  rw [hn] at hv
  subst hv
  have OW := Lib.hid ow
  have hz := Lib.hid (show w.heap.size + 1 < w2.heap.size from P5.out.lt)
  clear hb a0 a1 r ow hn
  go_wp2
  refine bodyPost_ret (v := .agg #[.int .i64 p, .slice va n vc]) ?_ rfl ⟨_, by rw [HX.out.1], ?_, below_set2 B3.out (by omega)⟩
  · simp [results, Tryd.results24, go_sem, r0, r1]
  · rw [HX.out.2]; exact own_set2 OW.out hz.out (by have := hz.out; omega)
theorem sgm_any (p : Int) (ev ov : Value) (es o : List Int) (w : World) (h : Ints w ev es) (h' : Ints w ov o) (hp : intIn p) (hs : ∀ j, j < es.length → intIn (nth es j)) :
    Calls Tryd.prog 24 #[.agg #[.int .i64 p, ev], ov] w (GrPost (gmP p es o) (gmE p es o) w) := by
  cases hb : gmB p es o
  · exact sgm_no p ev ov es o w h h' hp hs hb
  · exact sgm_yes p ev ov es o w h h' hp hs hb
end Go.Proofs.YtipndddmjgjgpabDoor
