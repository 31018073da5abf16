/- impl: FailsOf, Coloured, Painted. -/
import Derived.Test.YtimkmdedoacpfabDoorColJ
namespace Go.Proofs.YtimkmdedoacpfabDoor
open Go.RowKit

theorem five_letters (cs : List Int) : ∃ x0 x1 x2 x3 x4 : Int, five cs = [.int .i64 x0, .int .i64 x1, .int .i64 x2, .int .i64 x3, .int .i64 x4] := ⟨_, _, _, _, _, rfl⟩
theorem icol_yes {p : Int} {v u : Value} {es cs : List Int} {w : World} {x0 x1 x2 x3 x4 : Int} (hb : fitB p es cs = true) (hF : five cs = [.int .i64 x0, .int .i64 x1, .int .i64 x2, .int .i64 x3, .int .i64 x4]) (h : Ints w v es) (k : Ints w u cs) (hs : ∀ j, j < es.length → intIn (nth es j)) :
    Calls Tryd.prog 60 #[.agg #[.int .i64 p, v], u] w fun e w' => e = .returned (.tuple #[.agg #[.int .i64 x0, .int .i64 x1, .int .i64 x2, .int .i64 x3, .int .i64 x4], .bool true]) ∧ Below w.heap.size w w' :=
  (icol_any p v u es cs w h k hs).mono fun e w' ⟨he, hw⟩ => ⟨by rw [he, hb, fitL_yes hb, hF], hw⟩
theorem icol_not {p : Int} {v u : Value} {es cs : List Int} {w : World} (hb : fitB p es cs = false) (h : Ints w v es) (k : Ints w u cs) (hs : ∀ j, j < es.length → intIn (nth es j)) :
    Calls Tryd.prog 60 #[.agg #[.int .i64 p, v], u] w fun e w' => e = .returned (.tuple #[.agg #[.int .i64 0, .int .i64 0, .int .i64 0, .int .i64 0, .int .i64 0], .bool false]) ∧ Below w.heap.size w w' :=
  (icol_any p v u es cs w h k hs).mono fun e w' ⟨he, hw⟩ => ⟨by rw [he, hb, fitL_no hb]; rfl, hw⟩

def FoPost (p : Int) (es cs : List Int) (w : World) (e : Ending) (w' : World) : Prop := ∃ v, e = .returned (.tuple #[v, .bool (fitB p es cs)]) ∧ Own w' w.heap.size v (foL p es cs) ∧ Below w.heap.size w w'

set_option maxRecDepth 20000 in
set_option maxHeartbeats 3200000 in
theorem ifo_any (p : Int) (v u : Value) (es cs : List Int) (w : World) (h : Ints w v es) (k : Ints w u cs) (hs : ∀ j, j < es.length → intIn (nth es j)) : Calls Tryd.prog 16 #[.agg #[.int .i64 p, v], u] w (FoPost p es cs w) := by
  have b0 := Box.made w [.int .i64 p, v] 25
  have bl := below_grow w (.cells #[.int .i64 p, v] 25)
  have HG := Lib.hid (show ∀ w', Below w.heap.size w w' → Ints w' v es from fun w' hb => h.below hb)
  have HK := Lib.hid (k.below bl)
  have HS := Lib.hid hs
  have a0 := b0.cell 0
  have a1 := b0.cell 1
  simp at a0 a1
  have B0 := Lib.hid b0
  have BL := Lib.hid bl
  clear h k hs b0 bl
  cases hf : fitB p es cs
  · have HX := Lib.hid (foL_no hf)
    have HF := Lib.hid hf
    clear hf
    go_enter Tryd.func16, Tryd.ntmps16
    go_wp2_with fail
    refine (icol_not HF.out (HG.out _ BL.out) HK.out HS.out).mono ?_
    rintro e w1 ⟨rfl, hb⟩
    have B1 := Lib.hid (Below.on BL.out hb)
    clear hb a0 a1
    go_wp2
    go_ret2
    exact ⟨_, by rw [HF.out]; rfl, by rw [HX.out]; exact World.ownsRow_nil _ _ _ _, (B1.out).trans ((below_grow w1 _).mono B1.out.size)⟩
  · have HX := Lib.hid (foL_yes hf)
    have HF := Lib.hid hf
    have HGK := Lib.hid (fitB_true.1 hf).gk
    obtain ⟨x0, x1, x2, x3, x4, h5⟩ := five_letters cs
    have H5 := Lib.hid h5
    clear hf h5
    go_enter Tryd.func16, Tryd.ntmps16
    go_wp2_with fail
    refine (icol_yes HF.out H5.out (HG.out _ BL.out) HK.out HS.out).mono ?_
    rintro e w1 ⟨rfl, hb⟩
    have B1 := Lib.hid (Below.on BL.out hb)
    have q := Box.made w1 [.int .i64 x0, .int .i64 x1, .int .i64 x2, .int .i64 x3, .int .i64 x4] 67
    have bw := below_grow w1 (.cells #[.int .i64 x0, .int .i64 x1, .int .i64 x2, .int .i64 x3, .int .i64 x4] 67)
    have p2 := (B0.out.on hb).on bw
    have s0 := p2.cell 0
    have s1 := p2.cell 1
    have r0 := q.cell 0
    have r1 := q.cell 1
    have r2 := q.cell 2
    have r3 := q.cell 3
    have r4 := q.cell 4
    simp at s0 s1 r0 r1 r2 r3 r4
    have B2 := Lib.hid (Below.on B1.out bw)
    clear hb a0 a1 q bw p2
    go_wp2_with fail
    refine (ifl_any p v es cs x0 x1 x2 x3 x4 _ (HG.out _ B2.out) HGK.out H5.out).mono ?_
    rintro e w3 ⟨v3, rfl, o3, hb⟩
    have O3 := Lib.hid (own_mono o3 B2.out.size)
    have B3 := Lib.hid (Below.on B2.out hb)
    clear hb o3 s0 s1 r0 r1 r2 r3 r4
    go_wp2
    go_ret2
    exact ⟨_, by rw [HF.out]; rfl, by rw [HX.out]; exact O3.out, B3.out⟩

theorem icd_any (p : Int) (v u : Value) (es cs : List Int) (w : World) (h : Ints w v es) (k : Ints w u cs) (hs : ∀ j, j < es.length → intIn (nth es j)) : Calls Tryd.prog 22 #[.agg #[.int .i64 p, v], u] w fun e w' => e = .returned (.bool (cdB p es cs)) ∧ Below w.heap.size w w' := by
  have b0 := Box.made w [.int .i64 p, v] 25
  have bl := below_grow w (.cells #[.int .i64 p, v] 25)
  have HO := Lib.hid (ifo_any p v u es cs _ (h.below bl) (k.below bl) hs)
  have a0 := b0.cell 0
  have a1 := b0.cell 1
  simp at a0 a1
  have BL := Lib.hid bl
  clear h k hs b0 bl
  go_enter Tryd.func22, Tryd.ntmps22
  go_wp2_with fail
  refine HO.out.mono ?_
  rintro e w1 ⟨v1, rfl, o1, hb⟩
  have B1 := Lib.hid (Below.on BL.out hb)
  obtain ⟨a, c, rfl⟩ := Own.form o1
  clear o1 hb HO a0 a1
  cases hf : fitB p es cs
  · have HX := Lib.hid (show cdB p es cs = false by simp [cdB, hf])
    clear hf
    go_wp2
    go_ret
    exact ⟨by rw [HX.out]; rfl, B1.out⟩
  · rw [foL_yes hf]
    obtain ⟨n, hn⟩ : ∃ n, (fls cs es).length = n := ⟨_, rfl⟩
    rw [hn]
    cases n with
    | zero =>
      have HX := Lib.hid (show cdB p es cs = true by simp [cdB, hf, hn])
      clear hf hn
      go_wp2
      go_ret
      exact ⟨by rw [HX.out]; rfl, B1.out⟩
    | succ n =>
      have HX := Lib.hid (show cdB p es cs = false by simp [cdB, hn])
      have hd : ((n : Int) + 1 == 0) = false := by rw [beq_eq_false_iff_ne]; omega
      clear hf hn
      go_wp2
      go_ret
      exact ⟨by rw [HX.out]; rfl, B1.out⟩

/-! ### Painted -/
set_option maxRecDepth 20000 in
set_option maxHeartbeats 3200000 in
theorem ipt_any (p : Int) (v u ov : Value) (es cs o : List Int) (w : World) (h : Ints w v es) (k : Ints w u cs) (l : Ints w ov o) (hc : capB ov) (hs : ∀ j, j < es.length → intIn (nth es j)) : Calls Tryd.prog 24 #[.agg #[.int .i64 p, v], u, ov] w (LsPost (pnL p es cs o) w) := by
  have b0 := Box.made w [.int .i64 p, v] 25
  have bl := below_grow w (.cells #[.int .i64 p, v] 25)
  have HG := Lib.hid (h.below bl)
  have HK := Lib.hid (k.below bl)
  have HO := Lib.hid (show ∀ w', Below w.heap.size w w' → Ints w' ov o from fun w' hb => l.below hb)
  have HS := Lib.hid hs
  have HCP := Lib.hid hc
  have a0 := b0.cell 0
  have a1 := b0.cell 1
  simp at a0 a1
  have B0 := Lib.hid b0
  have BL := Lib.hid bl
  clear h k l hs hc b0 bl
  cases hf : fitB p es cs
  · have HX := Lib.hid (pnL_no (show pnB p es cs o = false by simp [pnB, hf]))
    have HF := Lib.hid hf
    clear hf
    go_enter Tryd.func24, Tryd.ntmps24
    go_wp2_with fail
    refine (icol_not HF.out HG.out HK.out HS.out).mono ?_
    rintro e w1 ⟨rfl, hb⟩
    have B1 := Lib.hid (Below.on BL.out hb)
    clear hb a0 a1
    go_wp2
    go_ret
    exact ⟨_, rfl, by rw [HX.out]; exact World.ownsRow_nil _ _ _ _, (B1.out).trans ((below_grow w1 _).mono B1.out.size)⟩
  have HF := Lib.hid hf
  have hfit := fitB_true.1 hf
  obtain ⟨m, hm⟩ := Int.eq_ofNat_of_zero_le (show 0 ≤ p by have := hfit.gk.p1; omega)
  have HL : Hid (cs.length = m) := Lib.hid (by have := hfit.len; omega)
  have HM5 : Hid (m ≤ 5) := Lib.hid (by have := hfit.gk.p5; omega)
  have HBD := Lib.hid hfit.bd
  subst hm
  obtain ⟨x0, x1, x2, x3, x4, h5⟩ := five_letters cs
  have H5 := Lib.hid h5
  obtain ⟨y0, y1, y2, y3, y4, h6⟩ := five_letters (thn cs o)
  have H6 := Lib.hid h6
  clear h5 h6 hfit
  cases ho : odB o 3
  · have HX := Lib.hid (pnL_no (show pnB m es cs o = false by simp [pnB, ho]))
    have HD := Lib.hid ho
    clear hf ho
    go_enter Tryd.func24, Tryd.ntmps24
    go_wp2_with fail
    refine (icol_yes HF.out H5.out HG.out HK.out HS.out).mono ?_
    rintro e w1 ⟨rfl, hb⟩
    have bw := below_grow w1 (.cells #[.int .i64 x0, .int .i64 x1, .int .i64 x2, .int .i64 x3, .int .i64 x4] 67)
    have B1 := Lib.hid (Below.on (Below.on BL.out hb) bw)
    clear hb bw a0 a1
    go_wp2_with fail
    refine (iod_is HD.out (HO.out _ B1.out) HCP.out).mono ?_
    rintro e w2 ⟨rfl, hb⟩
    have B2 := Lib.hid (Below.on B1.out hb)
    clear hb
    go_wp2
    go_ret
    exact ⟨_, rfl, by rw [HX.out]; exact World.ownsRow_nil _ _ _ _, B2.out⟩
  · have HX := Lib.hid (pnL_yes (show pnB m es cs o = true by simp [pnB, hf, ho]))
    have HD := Lib.hid ho
    have HOD := Lib.hid (odB_true.1 ho)
    clear hf ho
    go_enter Tryd.func24, Tryd.ntmps24
    go_wp2_with fail
    refine (icol_yes HF.out H5.out HG.out HK.out HS.out).mono ?_
    rintro e w1 ⟨rfl, hb⟩
    have bw := below_grow w1 (.cells #[.int .i64 x0, .int .i64 x1, .int .i64 x2, .int .i64 x3, .int .i64 x4] 67)
    have P2 := Lib.hid ((B0.out.on hb).on bw)
    have Q2 := Lib.hid (Box.made w1 [.int .i64 x0, .int .i64 x1, .int .i64 x2, .int .i64 x3, .int .i64 x4] 67)
    have B1 := Lib.hid (Below.on (Below.on BL.out hb) bw)
    clear hb bw a0 a1
    go_wp2_with fail
    refine (iod_is HD.out (HO.out _ B1.out) HCP.out).mono ?_
    rintro e w2 ⟨rfl, hb⟩
    have P3 := Lib.hid (P2.out.on hb)
    have Q3 := Lib.hid (Q2.out.on hb)
    have B2 := Lib.hid (Below.on B1.out hb)
    clear hb P2 Q2 B1
    go_wp2_with fail
    apply wp_region_H (Z := Option Value) (S := fun k => k == 7) (C := fun z w' => Hid (Below w2.heap.size w2 w' ∧ ∀ v, z = some v → Own w' w2.heap.size v (thn cs o))) [0, 1, 2, 3, 4, 5, 6] none
    · kernel_rfl
    · kernel_rfl
    · kernel_rfl
    · exact ⟨rfl, rfl, rfl, rfl, rfl, rfl, rfl, trivial⟩
    · rfl
    · decide
    · exact Lib.hid ⟨(Below.refl _ _).drew, fun v e => by cases e⟩
    · intro zz
      dsimp only [pickL, nthO]
      go_big_quiet_want
      go_big_quiet_op
      refine ⟨.agg #[.int .i64 x0, .int .i64 x1, .int .i64 x2, .int .i64 x3, .int .i64 x4], fun w' hw' => ?_, ?_⟩
      · have q := Q3.out.on hw'.out.1
        have q0 := q.cell 0
        have q1 := q.cell 1
        have q2 := q.cell 2
        have q3 := q.cell 3
        have q4 := q.cell 4
        simp at q0 q1 q2 q3 q4
        simp [go_sem, q0, q1, q2, q3, q4]
      go_big_quiet_on
      go_big_quiet_want; go_big_quiet_op; first | go_big_quiet_on | (refine ⟨_, fun _ _ => rfl, ?_⟩; go_big_quiet_on)
      go_big_quiet_want
      go_big_quiet_op
      refine ⟨.int .i64 m, fun w' hw' => ?_, ?_⟩
      · have q := P3.out.on hw'.out.1
        have q0 := q.cell 0
        simp at q0
        simp [go_sem, q0]
      go_big_quiet_on
      go_big_quiet_want; go_big_quiet_op; first | go_big_quiet_on | (refine ⟨_, fun _ _ => rfl, ?_⟩; go_big_quiet_on)
      go_big_quiet_want; go_big_quiet_op
      go_big_quiet_call ((intro hw; exact (ipn_any m ov o cs x0 x1 x2 x3 x4 _ (HO.out _ (Below.on B2.out hw.out.1)) HL.out HM5.out H5.out (fun j hj => by have := HBD.out j (by rw [HL.out]; exact hj); have := HOD.out.len; omega)).mono fun _ w' ⟨he, hb⟩ => ⟨show _ = Ending.returned (.agg #[.int .i64 y0, .int .i64 y1, .int .i64 y2, .int .i64 y3, .int .i64 y4]) by rw [he, H6.out], Lib.hid ⟨Below.on hw.out.1 hb, fun v e => own_below (hw.out.2 v e) hb⟩⟩))
      go_big_quiet_want; go_big_quiet_op; first | go_big_quiet_on | (refine ⟨_, fun _ _ => rfl, ?_⟩; go_big_quiet_on)
      go_big_quiet_want
      go_big_quiet_op
      refine ⟨.int .i64 m, fun w' hw' => ?_, ?_⟩
      · have q := P3.out.on hw'.out.1
        have q0 := q.cell 0
        simp at q0
        simp [go_sem, q0]
      go_big_quiet_on
      exact wpQuiet_nil rfl
    · refine wpAnyH_call (i := 7) (d := some 29) 65 #[.agg #[.int .i64 y0, .int .i64 y1, .int .i64 y2, .int .i64 y3, .int .i64 y4], .int .i64 m] rfl (by kernel_rfl) rfl rfl (by kernel_rfl) (fun _ => by kernel_rfl) fun wa hc => ?_
      refine (icin_any m (thn cs o) y0 y1 y2 y3 y4 wa (by rw [thn_len]; exact HL.out) HM5.out H6.out).mono ?_
      rintro e wc ⟨mv, rfl, om, hb⟩
      refine ⟨_, rfl, some mv, Lib.hid ⟨Below.on hc.out.1 hb, fun v e => by cases e; exact own_mono om hc.out.1.size⟩, ?_⟩
      clear hc om hb
      refine wpAnyH_assign (i := 8) (d := some 6) _ rfl (by kernel_rfl) rfl rfl (by kernel_rfl) rfl ?_
      refine ⟨by kernel_rfl, fun w4 hw4 => ?_⟩
      simp only [Act.put, List.setIfInBounds_toArray, List.set_cons_succ, List.set_cons_zero]
      have FF : Hid (Own w4 w.heap.size mv (thn cs o) ∧ Below w.heap.size w w4) := Lib.hid ⟨own_mono (hw4.out.2 mv rfl) B2.out.size, Below.on B2.out hw4.out.1⟩
      clear hw4
      go_wp2
      go_ret
      exact ⟨_, rfl, by rw [HX.out]; exact FF.out.1, FF.out.2⟩
end Go.Proofs.YtimkmdedoacpfabDoor
