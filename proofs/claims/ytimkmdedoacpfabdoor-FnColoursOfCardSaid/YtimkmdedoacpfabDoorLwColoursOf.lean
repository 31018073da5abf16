/- The law FnColoursOf, walked. -/
import Derived.Test.YtimkmdedoacpfabDoorDrN
import Derived.Test.YtimkmdedoacpfabDoorColV
import Derived.Test.YtimkmdedoacpfabDoorColT
import Derived.Test.YtimkmdedoacpfabDoorColK
import Derived.Test.YtimkmdedoacpfabDoorStS
import Derived.Test.YtimkmdedoacpfabDoorRegionM
import Derived.Test.YtimkmdedoacpfabDoorLwOrderOk
import Derived.Deep.Cut
namespace Go.Proofs.YtimkmdedoacpfabDoor
open Go.RowKit

/-- What the law says of the colourings: P38. -/
structure CoF (p : Int) (es : List Int) (XT : List (List Int)) : Prop where
  each : ∀ x, x ∈ XT → cdB p es x = true
  none : es.length = 0 → 0 < XT.length
  six : 0 < es.length → XT.length % 6 = 0
  less : XT.length ≤ (colsB p (es.drop 1)).length
theorem co_facts {p : Int} {es : List Int} (h : gkB p es = true) : CoF p es (colsB p es) := by
  have g := gkB_true.1 h
  rw [colsB_yes h]
  refine ⟨fun x hx => ?_, fun h0 => ?_, fun h0 => cols_six g h0, ?_⟩
  · obtain ⟨f, e⟩ := (cols_mem g).1 hx
    simp only [cdB, fitB_true.2 f, e]; rfl
  · obtain rfl := List.length_eq_zero_iff.1 h0
    exact cols_none g
  · cases es with
    | nil => rw [List.drop_nil, colsB_yes h]; exact Nat.le_refl _
    | cons e es => rw [List.drop_succ_cons, List.drop_zero, colsB_yes (gkB_true.2 g.tail)]; exact cols_less g
theorem Li.from1 {w : World} {Gx k c : Nat} {es : List Int} (h : Li w (.slice (some ⟨Gx, 0, none⟩) k c) es) : ∀ j, j < (es.drop 1).length → ∃ G, (some ⟨Gx, 1, none⟩ : Option Addr) = some ⟨G, 1, none⟩ ∧ ∀ w', Below w.heap.size w w' → w'.cell? ⟨G, 1 + j, none⟩ = some (.int .i64 (nth (es.drop 1) j)) := fun j hj => ⟨Gx, rfl, fun w' hw' => by
  rw [List.length_drop] at hj
  obtain ⟨G, c', e, hc⟩ := h.lies (by omega)
  cases e
  rw [nth_drop]
  exact hc w' hw' (1 + j) (by omega)⟩
theorem co50 {n : Nat} (h : n ≤ 1000) : n ≤ maxLen := by unfold maxLen; omega

set_option maxRecDepth 100000 in
set_option maxHeartbeats 1600000 in
theorem lColoursOf_walk (s : Value) (w : World) (h : CodeIn w s) (G : Gr w) : Calls Tryd.prog 5 #[s] w fun e w' => e = .returned (.bool true) ∧ Below w.heap.size w w' := by
  obtain ⟨a0, len0, cap0, rfl⟩ := h.slice
  have H := Lib.hid h; clear h
  have G0 := Lib.hid G; clear G
  by_cases hl : 1048576 < len0
  · go_enter Tryd.func5, Tryd.ntmps5
    go_wp2
    go_ret
    exact ⟨rfl, Below.refl _ _⟩
  go_enter Tryd.func5, Tryd.ntmps5
  go_wp2_with fail
  refine (drawColoursOf_any _ _ H.out).mono ?_
  rintro e w1 ⟨p, v, es, rfl, p0, p5, hx, hb⟩
  have HX := Lib.hid hx
  clear hx
  have S1 := Lib.hid (Lq.start hb)
  clear hb
  have ip : intIn p := ⟨by omega, by omega⟩
  have IP := Lib.hid ip
  clear ip
  obtain ⟨XT, hXT⟩ : ∃ r, colsB p es = r := ⟨_, rfl⟩
  have HFT : Hid (FewSS XT) := Lib.hid (by rw [← hXT]; exact colsB_few _ _)
  have HFY : Hid (gkB p es = true → CoF p es XT) := Lib.hid (by rw [← hXT]; exact co_facts)
  have HFN : Hid (gkB p es = false → XT = []) := Lib.hid (fun e => by rw [← hXT]; exact colsB_no e)
  have HXT := Lib.hid hXT
  clear hXT
  cases hk : gkB p es
  · have HK0 := Lib.hid hk
    clear hk
    obtain ⟨va, vc, e1⟩ := Own.form_ints HX.out.ints
    subst e1
    have S2 := Lib.hid (S1.out.more HX.out)
    clear S1
    clear HX
    obtain ⟨w2, hw2⟩ : ∃ z, z = w1.alloc (.cells #[.int .i64 p, .slice va es.length vc] 25) := ⟨_, rfl⟩
    have S3 : Hid (Lq w [(.slice va es.length vc, es)] [(w1.heap.size, [.int .i64 p, .slice va es.length vc])] [] w2) := Lib.hid (by rw [hw2]; exact S2.out.made [.int .i64 p, .slice va es.length vc] _)
    clear S2
    have Hw2 := Lib.hid hw2
    clear hw2
    have q3_0 := (S3.out.sx.bx _ (.head _)).cell 0
    have q3_1 := (S3.out.sx.bx _ (.head _)).cell 1
    simp at q3_0 q3_1
    rw [Hw2.out] at q3_0 q3_1
    go_wp2_with fail
    rw [← Hw2.out]
    refine (ico_any p _ es _ (S3.out.li _ (.head _)).ints (S3.out.li _ (.head _)).num).mono ?_
    rintro e w3 ⟨v1, us1, rfl, oo, hb⟩
    rw [HXT.out] at oo
    clear q3_0 q3_1
    have S4 := Lib.hid (S3.out.on hb)
    clear S3
    obtain ⟨b1a, b1c, e9⟩ := oo.form
    subst e9
    have S5 := Lib.hid (S4.out.add (Hl.mk3 oo (Nat.le_refl _)))
    clear S4
    clear hb oo
    have q3_0 := (S5.out.sx.bx _ (.head _)).cell 0
    have q3_1 := (S5.out.sx.bx _ (.head _)).cell 1
    simp at q3_0 q3_1
    go_wp2_with fail
    refine (sco_any p _ es _ (S5.out.li _ (.head _)).ints IP.out (S5.out.li _ (.head _)).num).mono ?_
    rintro e w4 ⟨v2, us2, rfl, oo, hb⟩
    rw [HXT.out] at oo
    clear q3_0 q3_1
    have S6 := Lib.hid (S5.out.on hb)
    clear S5
    obtain ⟨b2a, b2c, e9⟩ := oo.form
    subst e9
    have S7 := Lib.hid (S6.out.add (Hl.mk3 oo (Nat.le_refl _)))
    clear S6
    clear hb oo
    go_wp2_with fail
    refine (samer_any _ _ XT _ (HFT.out.ints (S7.out.sx.ls _ (.tail _ (.head _))).1) (HFT.out.ints (S7.out.sx.ls _ (.head _)).1)).mono ?_
    rintro e w5 ⟨rfl, hb⟩
    have S8 := Lib.hid (S7.out.on hb)
    clear S7
    clear hb
    have q3_0 := (S8.out.sx.bx _ (.head _)).cell 0
    have q3_1 := (S8.out.sx.bx _ (.head _)).cell 1
    simp at q3_0 q3_1
    go_wp2_with fail
    refine (sgk_is HK0.out (S8.out.li _ (.head _)).ints IP.out (S8.out.li _ (.head _)).num).mono ?_
    rintro e w6 ⟨rfl, hb9⟩
    have S9 := Lib.hid (S8.out.on hb9)
    clear S8
    clear hb9
    clear q3_0 q3_1
    have hx0 := HFN.out HK0.out
    subst hx0
    go_wp2_with fail
    refine (alive_any _ (G0.out.on S9.out.sx.be)).mono ?_
    rintro e w7 ⟨rfl, rfl⟩
    go_wp2
    go_ret
    exact ⟨rfl, S9.out.sx.be⟩
  · have HK0 := Lib.hid hk
    have HF := Lib.hid (HFY.out hk)
    clear hk
    by_cases he : es.length = 0
    · obtain rfl := List.length_eq_zero_iff.1 he
      clear he
      obtain ⟨va, vc, e1⟩ := Own.form_ints HX.out.ints
      subst e1
      simp only [List.length_nil] at HX ⊢
      have S10 := Lib.hid (S1.out.more HX.out)
      clear S1
      clear HX
      obtain ⟨w8, hw8⟩ : ∃ z, z = w1.alloc (.cells #[.int .i64 p, .slice va 0 vc] 25) := ⟨_, rfl⟩
      have S11 : Hid (Lq w [(.slice va 0 vc, [])] [(w1.heap.size, [.int .i64 p, .slice va 0 vc])] [] w8) := Lib.hid (by rw [hw8]; exact S10.out.made [.int .i64 p, .slice va 0 vc] _)
      clear S10
      have Hw8 := Lib.hid hw8
      clear hw8
      have q3_0 := (S11.out.sx.bx _ (.head _)).cell 0
      have q3_1 := (S11.out.sx.bx _ (.head _)).cell 1
      simp at q3_0 q3_1
      rw [Hw8.out] at q3_0 q3_1
      go_wp2_with fail
      rw [← Hw8.out]
      refine (ico_any p _ [] _ (S11.out.li _ (.head _)).ints (S11.out.li _ (.head _)).num).mono ?_
      rintro e w9 ⟨v1, us1, rfl, oo, hb⟩
      rw [HXT.out] at oo
      clear q3_0 q3_1
      have S12 := Lib.hid (S11.out.on hb)
      clear S11
      obtain ⟨b1a, b1c, e9⟩ := oo.form
      subst e9
      have S13 := Lib.hid (S12.out.add (Hl.mk3 oo (Nat.le_refl _)))
      clear S12
      clear hb oo
      have q3_0 := (S13.out.sx.bx _ (.head _)).cell 0
      have q3_1 := (S13.out.sx.bx _ (.head _)).cell 1
      simp at q3_0 q3_1
      go_wp2_with fail
      refine (sco_any p _ [] _ (S13.out.li _ (.head _)).ints IP.out (S13.out.li _ (.head _)).num).mono ?_
      rintro e w10 ⟨v2, us2, rfl, oo, hb⟩
      rw [HXT.out] at oo
      clear q3_0 q3_1
      have S14 := Lib.hid (S13.out.on hb)
      clear S13
      obtain ⟨b2a, b2c, e9⟩ := oo.form
      subst e9
      have S15 := Lib.hid (S14.out.add (Hl.mk3 oo (Nat.le_refl _)))
      clear S14
      clear hb oo
      go_wp2_with fail
      refine (samer_any _ _ XT _ (HFT.out.ints (S15.out.sx.ls _ (.tail _ (.head _))).1) (HFT.out.ints (S15.out.sx.ls _ (.head _)).1)).mono ?_
      rintro e w11 ⟨rfl, hb⟩
      have S16 := Lib.hid (S15.out.on hb)
      clear S15
      clear hb
      have q3_0 := (S16.out.sx.bx _ (.head _)).cell 0
      have q3_1 := (S16.out.sx.bx _ (.head _)).cell 1
      simp at q3_0 q3_1
      go_wp2_with fail
      refine (sgk_is HK0.out (S16.out.li _ (.head _)).ints IP.out (S16.out.li _ (.head _)).num).mono ?_
      rintro e w12 ⟨rfl, hb9⟩
      have S17 := Lib.hid (S16.out.on hb9)
      clear S16
      clear hb9
      clear q3_0 q3_1
      obtain ⟨n, hn⟩ : ∃ n, XT.length = n := ⟨_, rfl⟩
      have HN := Lib.hid hn
      have HAT := Lib.hid (show ∀ j, j < n → ∃ gb, b1a = some ⟨gb, 0, none⟩ ∧ ∀ w', Hid (Lq w [(.slice va 0 vc, [])] [(w1.heap.size, [.int .i64 p, .slice va 0 vc])] [.s w9.heap.size w10.heap.size (.slice b2a XT.length b2c) us2 XT, .s w8.heap.size w9.heap.size (.slice b1a XT.length b1c) us1 XT] w') → w'.cell? ⟨gb, j, none⟩ = some (val us1 j) ∧ Ints w' (val us1 j) (row XT j) from fun j hj => by
        obtain ⟨a9, c9, e9, h9⟩ := outer_cell (S17.out.sx.ls _ (.tail _ (.head _))).1.outer
        rw [(S17.out.sx.ls _ (.tail _ (.head _))).1.len] at e9
        cases e9
        obtain ⟨gb, e8, _, _⟩ := h9 j (by rw [(S17.out.sx.ls _ (.tail _ (.head _))).1.len, hn]; exact hj)
        refine ⟨gb, e8, fun w' hw' => ?_⟩
        have o9 := (hw'.out.sx.ls _ (.tail _ (.head _))).1
        obtain ⟨a7, c7, e7, h7⟩ := outer_cell o9.outer
        rw [o9.len] at e7
        cases e7
        obtain ⟨gb', e6, _, e5⟩ := h7 j (by rw [o9.len, hn]; exact hj)
        rw [e8] at e6
        cases e6
        have r9 := o9.rows j (by rw [o9.len, hn]; exact hj)
        exact ⟨e5, Ints.of_own r9 (co50 (HFT.out.row j (by rw [hn]; exact hj)))⟩)
      have SL : Hid (Lq w [(.slice va 0 vc, [])] [(w1.heap.size, [.int .i64 p, .slice va 0 vc])] [.s w9.heap.size w10.heap.size (.slice b2a XT.length b2c) us2 XT, .s w8.heap.size w9.heap.size (.slice b1a XT.length b1c) us1 XT] w12) := S17
      clear S17
      rw [hn]
      clear hn
      go_upto_region 10 with (fail)
      go_loopw [5] (fun i wr => ∃ j : Nat, j ≤ n ∧ i = .int .i64 j ∧ Hid (Lq w [(.slice va 0 vc, [])] [(w1.heap.size, [.int .i64 p, .slice va 0 vc])] [.s w9.heap.size w10.heap.size (.slice b2a XT.length b2c) us2 XT, .s w8.heap.size w9.heap.size (.slice b1a XT.length b1c) us1 XT] wr)) (fun i _ => n - (intOf i).toNat)
      case atStart => exact ⟨0, by omega, rfl, SL⟩
      case round =>
        clear SL
        obtain ⟨j, hj, rfl, SI⟩ := hrel
        obtain ⟨wo, rfl⟩ : ∃ wo : World, wo = wr := ⟨_, rfl⟩
        by_cases hjn : j < n
        · have hj1 : (j : Int) < (n : Int) := by omega
          have hn9 := HFT.out.len
          rw [HN.out] at hn9
          obtain ⟨gb, rfl, hat⟩ := HAT.out j hjn
          have HA := Lib.hid hat
          have HE := Lib.hid (HF.out.each _ (row_mem (xss := XT) (j := j) (by rw [HN.out]; exact hjn)))
          clear hat
          go_wp2_with fail
          apply wp_region_H (Z := List Cp × Option (Nat × List Value)) (S := fun k => k == 5) (C := fun z w' => Hid (Zx wo z.1 z.2 w')) [0, 1, 2, 3, 4] ([], none)
          · kernel_rfl
          · kernel_rfl
          · kernel_rfl
          · exact ⟨rfl, rfl, rfl, rfl, rfl, trivial⟩
          · rfl
          · decide
          · exact Lib.hid (Zx.start (Below.refl _ _).drew)
          · intro z
            dsimp only [pickL, nthO]
            go_big_quiet_want
            go_big_quiet_op
            refine ⟨.agg #[.int .i64 p, .slice va 0 vc], fun w' hw' => ?_, ?_⟩
            · have q9 := (SI.out.on hw'.out.be).sx.bx _ (.head _)
              have q0 := q9.cell 0
              have q1 := q9.cell 1
              simp at q0 q1
              simp [go_sem, q0, q1]
            go_big_quiet_on
            go_big_quiet_want; go_big_quiet_op; first | go_big_quiet_on | (refine ⟨_, fun _ _ => rfl, ?_⟩; go_big_quiet_on)
            go_big_quiet_want; go_big_quiet_op; first | go_big_quiet_on | (refine ⟨_, fun _ _ => rfl, ?_⟩; go_big_quiet_on)
            go_big_quiet_want; go_big_quiet_op; first | go_big_quiet_on | (refine ⟨_, fun _ _ => rfl, ?_⟩; go_big_quiet_on)
            go_big_quiet_want
            go_big_quiet_op
            refine ⟨val us1 j, fun w' hw' => ?_, ?_⟩
            · have q0 := (HA.out w' (Lib.hid (SI.out.on hw'.out.be))).1
              simp [go_sem, q0]
            go_big_quiet_on
            exact wpQuiet_nil rfl
          · skip
            refine wpAnyH_call (i := 5) (d := some 39) 22 #[.agg #[.int .i64 p, .slice va 0 vc], val us1 j] rfl (by kernel_rfl) rfl rfl (by kernel_rfl) (fun _ => by kernel_rfl) fun wa hc => ?_
            have hrow := HA.out wa (Lib.hid (SI.out.on hc.out.be))
            refine (icd_any p _ _ [] (row XT j) wa ((Lib.hid (SI.out.on hc.out.be)).out.li _ (.head _)).ints hrow.2 ((Lib.hid (SI.out.on hc.out.be)).out.li _ (.head _)).num).mono ?_
            rintro e wb ⟨rfl, hb⟩
            rw [HE.out]
            refine ⟨_, rfl, ([], none), Lib.hid (hc.out.on hb), ?_⟩
            clear hb hc hrow
            refine wpAnyH_take (i := 6) (d := some 40) (.bool false) rfl (by kernel_rfl) rfl rfl (by kernel_rfl) (by kernel_rfl) (by kernel_rfl) (fun _ => by kernel_rfl) ?_
            refine ⟨by kernel_rfl, fun w13 hz => ?_⟩
            simp only [Act.put, List.setIfInBounds_toArray, List.set_cons_zero, List.set_cons_succ]
            have S18 := Lib.hid (SI.out.on hz.out.be)
            clear SI
            clear hz
            go_wp2
            go_roundw
            case rel => exact ⟨j + 1, by omega, by go_num, S18⟩
            case measure => simp [intOf]; omega
        · have hj1 : ¬ (j : Int) < (n : Int) := by omega
          clear hjn
          have q3_0 := (SI.out.sx.bx _ (.head _)).cell 0
          have q3_1 := (SI.out.sx.bx _ (.head _)).cell 1
          simp at q3_0 q3_1
          have hn0 := HF.out.none rfl
          rw [HN.out] at hn0
          have hn1 : (0 : Int) < (n : Int) := by omega
          go_wp2
          go_ret
          exact ⟨rfl, SI.out.sx.be⟩
    · obtain ⟨Gx, cx, rfl, hc9⟩ := HX.out.lies (by omega)
      have hcap : es.length ≤ cx := HX.out.cap _ _ _ rfl
      have HDN := Lib.hid (show ∀ j, j < (es.drop 1).length → intIn (nth (es.drop 1) j) from fun j hj => by rw [nth_drop]; exact HX.out.num (1 + j) (by rw [List.length_drop] at hj; omega))
      have HK50 : Hid (es.length ≤ 50) := Lib.hid HX.out.few
      obtain ⟨k, hk⟩ : ∃ k, es.length = k := ⟨_, rfl⟩
      have HKK := Lib.hid hk
      have HDL := Lib.hid (show (es.drop 1).length = k - 1 by rw [List.length_drop, hk])
      have HX2 : Hid (Li w1 (.slice (some ⟨Gx, 0, none⟩) k cx) es) := Lib.hid (by rw [← hk]; exact HX.out)
      rw [hk] at he hcap HK50 ⊢
      have hk1 : 1 ≤ k := by omega
      clear hc9 HX he hk
      have HX := HX2
      clear HX2
      by_cases c1 : cx = 1
      · obtain rfl : k = 1 := by omega
        subst c1
        have S19 := Lib.hid (S1.out.more HX.out)
        clear S1
        clear HX
        obtain ⟨w14, hw14⟩ : ∃ z, z = w1.alloc (.cells #[.int .i64 p, .slice (some ⟨Gx, 0, none⟩) 1 1] 25) := ⟨_, rfl⟩
        have S20 : Hid (Lq w [(.slice (some ⟨Gx, 0, none⟩) 1 1, es)] [(w1.heap.size, [.int .i64 p, .slice (some ⟨Gx, 0, none⟩) 1 1])] [] w14) := Lib.hid (by rw [hw14]; exact S19.out.made [.int .i64 p, .slice (some ⟨Gx, 0, none⟩) 1 1] _)
        clear S19
        have Hw14 := Lib.hid hw14
        clear hw14
        have q3_0 := (S20.out.sx.bx _ (.head _)).cell 0
        have q3_1 := (S20.out.sx.bx _ (.head _)).cell 1
        simp at q3_0 q3_1
        rw [Hw14.out] at q3_0 q3_1
        go_wp2_with fail
        rw [← Hw14.out]
        refine (ico_any p _ es _ (S20.out.li _ (.head _)).ints (S20.out.li _ (.head _)).num).mono ?_
        rintro e w15 ⟨v1, us1, rfl, oo, hb⟩
        rw [HXT.out] at oo
        clear q3_0 q3_1
        have S21 := Lib.hid (S20.out.on hb)
        clear S20
        obtain ⟨b1a, b1c, e9⟩ := oo.form
        subst e9
        have S22 := Lib.hid (S21.out.add (Hl.mk3 oo (Nat.le_refl _)))
        clear S21
        clear hb oo
        have q3_0 := (S22.out.sx.bx _ (.head _)).cell 0
        have q3_1 := (S22.out.sx.bx _ (.head _)).cell 1
        simp at q3_0 q3_1
        go_wp2_with fail
        refine (sco_any p _ es _ (S22.out.li _ (.head _)).ints IP.out (S22.out.li _ (.head _)).num).mono ?_
        rintro e w16 ⟨v2, us2, rfl, oo, hb⟩
        rw [HXT.out] at oo
        clear q3_0 q3_1
        have S23 := Lib.hid (S22.out.on hb)
        clear S22
        obtain ⟨b2a, b2c, e9⟩ := oo.form
        subst e9
        have S24 := Lib.hid (S23.out.add (Hl.mk3 oo (Nat.le_refl _)))
        clear S23
        clear hb oo
        go_wp2_with fail
        refine (samer_any _ _ XT _ (HFT.out.ints (S24.out.sx.ls _ (.tail _ (.head _))).1) (HFT.out.ints (S24.out.sx.ls _ (.head _)).1)).mono ?_
        rintro e w17 ⟨rfl, hb⟩
        have S25 := Lib.hid (S24.out.on hb)
        clear S24
        clear hb
        have q3_0 := (S25.out.sx.bx _ (.head _)).cell 0
        have q3_1 := (S25.out.sx.bx _ (.head _)).cell 1
        simp at q3_0 q3_1
        go_wp2_with fail
        refine (sgk_is HK0.out (S25.out.li _ (.head _)).ints IP.out (S25.out.li _ (.head _)).num).mono ?_
        rintro e w18 ⟨rfl, hb9⟩
        have S26 := Lib.hid (S25.out.on hb9)
        clear S25
        clear hb9
        clear q3_0 q3_1
        obtain ⟨n, hn⟩ : ∃ n, XT.length = n := ⟨_, rfl⟩
        have HN := Lib.hid hn
        have HAT := Lib.hid (show ∀ j, j < n → ∃ gb, b1a = some ⟨gb, 0, none⟩ ∧ ∀ w', Hid (Lq w [(.slice (some ⟨Gx, 0, none⟩) 1 1, es)] [(w1.heap.size, [.int .i64 p, .slice (some ⟨Gx, 0, none⟩) 1 1])] [.s w15.heap.size w16.heap.size (.slice b2a XT.length b2c) us2 XT, .s w14.heap.size w15.heap.size (.slice b1a XT.length b1c) us1 XT] w') → w'.cell? ⟨gb, j, none⟩ = some (val us1 j) ∧ Ints w' (val us1 j) (row XT j) from fun j hj => by
          obtain ⟨a9, c9, e9, h9⟩ := outer_cell (S26.out.sx.ls _ (.tail _ (.head _))).1.outer
          rw [(S26.out.sx.ls _ (.tail _ (.head _))).1.len] at e9
          cases e9
          obtain ⟨gb, e8, _, _⟩ := h9 j (by rw [(S26.out.sx.ls _ (.tail _ (.head _))).1.len, hn]; exact hj)
          refine ⟨gb, e8, fun w' hw' => ?_⟩
          have o9 := (hw'.out.sx.ls _ (.tail _ (.head _))).1
          obtain ⟨a7, c7, e7, h7⟩ := outer_cell o9.outer
          rw [o9.len] at e7
          cases e7
          obtain ⟨gb', e6, _, e5⟩ := h7 j (by rw [o9.len, hn]; exact hj)
          rw [e8] at e6
          cases e6
          have r9 := o9.rows j (by rw [o9.len, hn]; exact hj)
          exact ⟨e5, Ints.of_own r9 (co50 (HFT.out.row j (by rw [hn]; exact hj)))⟩)
        have SL : Hid (Lq w [(.slice (some ⟨Gx, 0, none⟩) 1 1, es)] [(w1.heap.size, [.int .i64 p, .slice (some ⟨Gx, 0, none⟩) 1 1])] [.s w15.heap.size w16.heap.size (.slice b2a XT.length b2c) us2 XT, .s w14.heap.size w15.heap.size (.slice b1a XT.length b1c) us1 XT] w18) := S26
        clear S26
        rw [hn]
        clear hn
        go_upto_region 10 with (fail)
        go_loopw [5] (fun i wr => ∃ j : Nat, j ≤ n ∧ i = .int .i64 j ∧ Hid (Lq w [(.slice (some ⟨Gx, 0, none⟩) 1 1, es)] [(w1.heap.size, [.int .i64 p, .slice (some ⟨Gx, 0, none⟩) 1 1])] [.s w15.heap.size w16.heap.size (.slice b2a XT.length b2c) us2 XT, .s w14.heap.size w15.heap.size (.slice b1a XT.length b1c) us1 XT] wr)) (fun i _ => n - (intOf i).toNat)
        case atStart => exact ⟨0, by omega, rfl, SL⟩
        case round =>
          clear SL
          obtain ⟨j, hj, rfl, SI⟩ := hrel
          obtain ⟨wo, rfl⟩ : ∃ wo : World, wo = wr := ⟨_, rfl⟩
          by_cases hjn : j < n
          · have hj1 : (j : Int) < (n : Int) := by omega
            have hn9 := HFT.out.len
            rw [HN.out] at hn9
            obtain ⟨gb, rfl, hat⟩ := HAT.out j hjn
            have HA := Lib.hid hat
            have HE := Lib.hid (HF.out.each _ (row_mem (xss := XT) (j := j) (by rw [HN.out]; exact hjn)))
            clear hat
            go_wp2_with fail
            apply wp_region_H (Z := List Cp × Option (Nat × List Value)) (S := fun k => k == 5) (C := fun z w' => Hid (Zx wo z.1 z.2 w')) [0, 1, 2, 3, 4] ([], none)
            · kernel_rfl
            · kernel_rfl
            · kernel_rfl
            · exact ⟨rfl, rfl, rfl, rfl, rfl, trivial⟩
            · rfl
            · decide
            · exact Lib.hid (Zx.start (Below.refl _ _).drew)
            · intro z
              dsimp only [pickL, nthO]
              go_big_quiet_want
              go_big_quiet_op
              refine ⟨.agg #[.int .i64 p, .slice (some ⟨Gx, 0, none⟩) 1 1], fun w' hw' => ?_, ?_⟩
              · have q9 := (SI.out.on hw'.out.be).sx.bx _ (.head _)
                have q0 := q9.cell 0
                have q1 := q9.cell 1
                simp at q0 q1
                simp [go_sem, q0, q1]
              go_big_quiet_on
              go_big_quiet_want; go_big_quiet_op; first | go_big_quiet_on | (refine ⟨_, fun _ _ => rfl, ?_⟩; go_big_quiet_on)
              go_big_quiet_want; go_big_quiet_op; first | go_big_quiet_on | (refine ⟨_, fun _ _ => rfl, ?_⟩; go_big_quiet_on)
              go_big_quiet_want; go_big_quiet_op; first | go_big_quiet_on | (refine ⟨_, fun _ _ => rfl, ?_⟩; go_big_quiet_on)
              go_big_quiet_want
              go_big_quiet_op
              refine ⟨val us1 j, fun w' hw' => ?_, ?_⟩
              · have q0 := (HA.out w' (Lib.hid (SI.out.on hw'.out.be))).1
                simp [go_sem, q0]
              go_big_quiet_on
              exact wpQuiet_nil rfl
            · skip
              refine wpAnyH_call (i := 5) (d := some 39) 22 #[.agg #[.int .i64 p, .slice (some ⟨Gx, 0, none⟩) 1 1], val us1 j] rfl (by kernel_rfl) rfl rfl (by kernel_rfl) (fun _ => by kernel_rfl) fun wa hc => ?_
              have hrow := HA.out wa (Lib.hid (SI.out.on hc.out.be))
              refine (icd_any p _ _ es (row XT j) wa ((Lib.hid (SI.out.on hc.out.be)).out.li _ (.head _)).ints hrow.2 ((Lib.hid (SI.out.on hc.out.be)).out.li _ (.head _)).num).mono ?_
              rintro e wb ⟨rfl, hb⟩
              rw [HE.out]
              refine ⟨_, rfl, ([], none), Lib.hid (hc.out.on hb), ?_⟩
              clear hb hc hrow
              refine wpAnyH_take (i := 6) (d := some 40) (.bool false) rfl (by kernel_rfl) rfl rfl (by kernel_rfl) (by kernel_rfl) (by kernel_rfl) (fun _ => by kernel_rfl) ?_
              refine ⟨by kernel_rfl, fun w19 hz => ?_⟩
              simp only [Act.put, List.setIfInBounds_toArray, List.set_cons_zero, List.set_cons_succ]
              have S27 := Lib.hid (SI.out.on hz.out.be)
              clear SI
              clear hz
              go_wp2
              go_roundw
              case rel => exact ⟨j + 1, by omega, by go_num, S27⟩
              case measure => simp [intOf]; omega
          · have hj1 : ¬ (j : Int) < (n : Int) := by omega
            clear hjn
            have q3_0 := (SI.out.sx.bx _ (.head _)).cell 0
            have q3_1 := (SI.out.sx.bx _ (.head _)).cell 1
            simp at q3_0 q3_1
            have hsix := HF.out.six (by rw [HKK.out]; omega)
            have hles := HF.out.less
            rw [HN.out] at hsix hles
            have hm6 : (n : Int) % 6 = 0 := by omega
            have HM6 := Lib.hid hm6
            have HLE := Lib.hid hles
            clear hsix hles hm6
            go_wp2_with fail
            apply wp_region_H (Z := List Cp × Option (Nat × List Value)) (S := fun k => k == 6) (C := fun z w' => Hid (Zx wo z.1 z.2 w')) [0, 1, 2, 3] ([], none)
            · kernel_rfl
            · kernel_rfl
            · kernel_rfl
            · exact ⟨rfl, rfl, rfl, rfl, trivial⟩
            · rfl
            · decide
            · exact Lib.hid (Zx.start (Below.refl _ _).drew)
            · intro z
              dsimp only [pickL, nthO]
              go_big_quiet_want; go_big_quiet_op; first | go_big_quiet_on | (refine ⟨_, fun _ _ => rfl, ?_⟩; go_big_quiet_on)
              go_big_quiet_want
              go_big_quiet_op
              refine ⟨.int .i64 p, fun w' hw' => ?_, ?_⟩
              · have q9 := (SI.out.on hw'.out.be).sx.bx _ (.head _)
                have q0 := q9.cell 0
                simp at q0
                simp [go_sem, q0]
              go_big_quiet_on
              go_big_quiet_want; go_big_quiet_op; first | go_big_quiet_on | (refine ⟨_, fun _ _ => rfl, ?_⟩; go_big_quiet_on)
              go_big_quiet_want
              go_big_quiet_op
              refine ⟨.slice (some ⟨Gx, 0, none⟩) 1 1, fun w' hw' => ?_, ?_⟩
              · have q9 := (SI.out.on hw'.out.be).sx.bx _ (.head _)
                have q0 := q9.cell 1
                simp at q0
                simp [go_sem, q0]
              go_big_quiet_on
              exact wpQuiet_nil rfl
            · skip
              refine wpAnyH_load (i := 4) (d := some 52) (.slice (some ⟨Gx, 0, none⟩) 0 0) rfl (by kernel_rfl) rfl rfl (by kernel_rfl) (by kernel_rfl) (by kernel_rfl) (fun z w' _ => by simp [go_sem]) ?_
              refine wpAnyH_take (i := 5) (d := some 53) (.agg #[.int .i64 p, .slice (some ⟨Gx, 0, none⟩) 0 0]) rfl (by kernel_rfl) rfl rfl (by kernel_rfl) (by kernel_rfl) (by kernel_rfl) (fun _ => by kernel_rfl) ?_
              refine wpAnyH_call (i := 6) (d := some 54) 26 #[.agg #[.int .i64 p, .slice (some ⟨Gx, 0, none⟩) 0 0]] rfl (by kernel_rfl) rfl rfl (by kernel_rfl) (fun _ => by kernel_rfl) fun wa hc => ?_
              refine (icot_any p _ _ _ (es.drop 1) wa ⟨by rw [HDL.out]; unfold maxLen; omega, HDL.out, fun k hk => by rw [HDL.out] at hk; omega⟩ HDN.out).mono ?_
              rintro e wb ⟨v8, us8, rfl, oo, hb⟩
              obtain ⟨a8, c8, e8⟩ := oo.form
              subst e8
              refine ⟨_, rfl, ([], none), Lib.hid (hc.out.on hb), ?_⟩
              clear hc oo hb
              refine wpAnyH_take (i := 7) (d := some 6) (.slice a8 (colsB p (es.drop 1)).length c8) rfl (by kernel_rfl) rfl rfl (by kernel_rfl) (by kernel_rfl) (by kernel_rfl) (fun _ => by kernel_rfl) ?_
              refine ⟨by kernel_rfl, fun w20 hz => ?_⟩
              simp only [Act.put, List.setIfInBounds_toArray, List.set_cons_zero, List.set_cons_succ]
              have S28 := Lib.hid (SI.out.on hz.out.be)
              clear SI
              clear hz
              obtain ⟨LL, hLL⟩ : ∃ r, (colsB p (es.drop 1)).length = r := ⟨_, rfl⟩
              have hle := HLE.out
              rw [hLL] at hle ⊢
              clear hLL
              have hle2 : (n : Int) ≤ (LL : Int) := by omega
              have hm6 := HM6.out
              skip
              go_wp2
              go_ret
              exact ⟨rfl, S28.out.sx.be⟩
      · have hk2 : ((k : Int) == 0) = false := by simp; omega
        have hk1i : (1 : Int) ≤ (k : Int) := by omega
        have S29 := Lib.hid (S1.out.more HX.out)
        clear S1
        clear HX
        obtain ⟨w21, hw21⟩ : ∃ z, z = w1.alloc (.cells #[.int .i64 p, .slice (some ⟨Gx, 0, none⟩) k cx] 25) := ⟨_, rfl⟩
        have S30 : Hid (Lq w [(.slice (some ⟨Gx, 0, none⟩) k cx, es)] [(w1.heap.size, [.int .i64 p, .slice (some ⟨Gx, 0, none⟩) k cx])] [] w21) := Lib.hid (by rw [hw21]; exact S29.out.made [.int .i64 p, .slice (some ⟨Gx, 0, none⟩) k cx] _)
        clear S29
        have Hw21 := Lib.hid hw21
        clear hw21
        have q3_0 := (S30.out.sx.bx _ (.head _)).cell 0
        have q3_1 := (S30.out.sx.bx _ (.head _)).cell 1
        simp at q3_0 q3_1
        rw [Hw21.out] at q3_0 q3_1
        go_wp2_with fail
        rw [← Hw21.out]
        refine (ico_any p _ es _ (S30.out.li _ (.head _)).ints (S30.out.li _ (.head _)).num).mono ?_
        rintro e w22 ⟨v1, us1, rfl, oo, hb⟩
        rw [HXT.out] at oo
        clear q3_0 q3_1
        have S31 := Lib.hid (S30.out.on hb)
        clear S30
        obtain ⟨b1a, b1c, e9⟩ := oo.form
        subst e9
        have S32 := Lib.hid (S31.out.add (Hl.mk3 oo (Nat.le_refl _)))
        clear S31
        clear hb oo
        have q3_0 := (S32.out.sx.bx _ (.head _)).cell 0
        have q3_1 := (S32.out.sx.bx _ (.head _)).cell 1
        simp at q3_0 q3_1
        go_wp2_with fail
        refine (sco_any p _ es _ (S32.out.li _ (.head _)).ints IP.out (S32.out.li _ (.head _)).num).mono ?_
        rintro e w23 ⟨v2, us2, rfl, oo, hb⟩
        rw [HXT.out] at oo
        clear q3_0 q3_1
        have S33 := Lib.hid (S32.out.on hb)
        clear S32
        obtain ⟨b2a, b2c, e9⟩ := oo.form
        subst e9
        have S34 := Lib.hid (S33.out.add (Hl.mk3 oo (Nat.le_refl _)))
        clear S33
        clear hb oo
        go_wp2_with fail
        refine (samer_any _ _ XT _ (HFT.out.ints (S34.out.sx.ls _ (.tail _ (.head _))).1) (HFT.out.ints (S34.out.sx.ls _ (.head _)).1)).mono ?_
        rintro e w24 ⟨rfl, hb⟩
        have S35 := Lib.hid (S34.out.on hb)
        clear S34
        clear hb
        have q3_0 := (S35.out.sx.bx _ (.head _)).cell 0
        have q3_1 := (S35.out.sx.bx _ (.head _)).cell 1
        simp at q3_0 q3_1
        go_wp2_with fail
        refine (sgk_is HK0.out (S35.out.li _ (.head _)).ints IP.out (S35.out.li _ (.head _)).num).mono ?_
        rintro e w25 ⟨rfl, hb9⟩
        have S36 := Lib.hid (S35.out.on hb9)
        clear S35
        clear hb9
        clear q3_0 q3_1
        obtain ⟨n, hn⟩ : ∃ n, XT.length = n := ⟨_, rfl⟩
        have HN := Lib.hid hn
        have HAT := Lib.hid (show ∀ j, j < n → ∃ gb, b1a = some ⟨gb, 0, none⟩ ∧ ∀ w', Hid (Lq w [(.slice (some ⟨Gx, 0, none⟩) k cx, es)] [(w1.heap.size, [.int .i64 p, .slice (some ⟨Gx, 0, none⟩) k cx])] [.s w22.heap.size w23.heap.size (.slice b2a XT.length b2c) us2 XT, .s w21.heap.size w22.heap.size (.slice b1a XT.length b1c) us1 XT] w') → w'.cell? ⟨gb, j, none⟩ = some (val us1 j) ∧ Ints w' (val us1 j) (row XT j) from fun j hj => by
          obtain ⟨a9, c9, e9, h9⟩ := outer_cell (S36.out.sx.ls _ (.tail _ (.head _))).1.outer
          rw [(S36.out.sx.ls _ (.tail _ (.head _))).1.len] at e9
          cases e9
          obtain ⟨gb, e8, _, _⟩ := h9 j (by rw [(S36.out.sx.ls _ (.tail _ (.head _))).1.len, hn]; exact hj)
          refine ⟨gb, e8, fun w' hw' => ?_⟩
          have o9 := (hw'.out.sx.ls _ (.tail _ (.head _))).1
          obtain ⟨a7, c7, e7, h7⟩ := outer_cell o9.outer
          rw [o9.len] at e7
          cases e7
          obtain ⟨gb', e6, _, e5⟩ := h7 j (by rw [o9.len, hn]; exact hj)
          rw [e8] at e6
          cases e6
          have r9 := o9.rows j (by rw [o9.len, hn]; exact hj)
          exact ⟨e5, Ints.of_own r9 (co50 (HFT.out.row j (by rw [hn]; exact hj)))⟩)
        have SL : Hid (Lq w [(.slice (some ⟨Gx, 0, none⟩) k cx, es)] [(w1.heap.size, [.int .i64 p, .slice (some ⟨Gx, 0, none⟩) k cx])] [.s w22.heap.size w23.heap.size (.slice b2a XT.length b2c) us2 XT, .s w21.heap.size w22.heap.size (.slice b1a XT.length b1c) us1 XT] w25) := S36
        clear S36
        rw [hn]
        clear hn
        go_upto_region 10 with (fail)
        go_loopw [5] (fun i wr => ∃ j : Nat, j ≤ n ∧ i = .int .i64 j ∧ Hid (Lq w [(.slice (some ⟨Gx, 0, none⟩) k cx, es)] [(w1.heap.size, [.int .i64 p, .slice (some ⟨Gx, 0, none⟩) k cx])] [.s w22.heap.size w23.heap.size (.slice b2a XT.length b2c) us2 XT, .s w21.heap.size w22.heap.size (.slice b1a XT.length b1c) us1 XT] wr)) (fun i _ => n - (intOf i).toNat)
        case atStart => exact ⟨0, by omega, rfl, SL⟩
        case round =>
          clear SL
          obtain ⟨j, hj, rfl, SI⟩ := hrel
          obtain ⟨wo, rfl⟩ : ∃ wo : World, wo = wr := ⟨_, rfl⟩
          by_cases hjn : j < n
          · have hj1 : (j : Int) < (n : Int) := by omega
            have hn9 := HFT.out.len
            rw [HN.out] at hn9
            obtain ⟨gb, rfl, hat⟩ := HAT.out j hjn
            have HA := Lib.hid hat
            have HE := Lib.hid (HF.out.each _ (row_mem (xss := XT) (j := j) (by rw [HN.out]; exact hjn)))
            clear hat
            go_wp2_with fail
            apply wp_region_H (Z := List Cp × Option (Nat × List Value)) (S := fun k => k == 5) (C := fun z w' => Hid (Zx wo z.1 z.2 w')) [0, 1, 2, 3, 4] ([], none)
            · kernel_rfl
            · kernel_rfl
            · kernel_rfl
            · exact ⟨rfl, rfl, rfl, rfl, rfl, trivial⟩
            · rfl
            · decide
            · exact Lib.hid (Zx.start (Below.refl _ _).drew)
            · intro z
              dsimp only [pickL, nthO]
              go_big_quiet_want
              go_big_quiet_op
              refine ⟨.agg #[.int .i64 p, .slice (some ⟨Gx, 0, none⟩) k cx], fun w' hw' => ?_, ?_⟩
              · have q9 := (SI.out.on hw'.out.be).sx.bx _ (.head _)
                have q0 := q9.cell 0
                have q1 := q9.cell 1
                simp at q0 q1
                simp [go_sem, q0, q1]
              go_big_quiet_on
              go_big_quiet_want; go_big_quiet_op; first | go_big_quiet_on | (refine ⟨_, fun _ _ => rfl, ?_⟩; go_big_quiet_on)
              go_big_quiet_want; go_big_quiet_op; first | go_big_quiet_on | (refine ⟨_, fun _ _ => rfl, ?_⟩; go_big_quiet_on)
              go_big_quiet_want; go_big_quiet_op; first | go_big_quiet_on | (refine ⟨_, fun _ _ => rfl, ?_⟩; go_big_quiet_on)
              go_big_quiet_want
              go_big_quiet_op
              refine ⟨val us1 j, fun w' hw' => ?_, ?_⟩
              · have q0 := (HA.out w' (Lib.hid (SI.out.on hw'.out.be))).1
                simp [go_sem, q0]
              go_big_quiet_on
              exact wpQuiet_nil rfl
            · skip
              refine wpAnyH_call (i := 5) (d := some 39) 22 #[.agg #[.int .i64 p, .slice (some ⟨Gx, 0, none⟩) k cx], val us1 j] rfl (by kernel_rfl) rfl rfl (by kernel_rfl) (fun _ => by kernel_rfl) fun wa hc => ?_
              have hrow := HA.out wa (Lib.hid (SI.out.on hc.out.be))
              refine (icd_any p _ _ es (row XT j) wa ((Lib.hid (SI.out.on hc.out.be)).out.li _ (.head _)).ints hrow.2 ((Lib.hid (SI.out.on hc.out.be)).out.li _ (.head _)).num).mono ?_
              rintro e wb ⟨rfl, hb⟩
              rw [HE.out]
              refine ⟨_, rfl, ([], none), Lib.hid (hc.out.on hb), ?_⟩
              clear hb hc hrow
              refine wpAnyH_take (i := 6) (d := some 40) (.bool false) rfl (by kernel_rfl) rfl rfl (by kernel_rfl) (by kernel_rfl) (by kernel_rfl) (fun _ => by kernel_rfl) ?_
              refine ⟨by kernel_rfl, fun w26 hz => ?_⟩
              simp only [Act.put, List.setIfInBounds_toArray, List.set_cons_zero, List.set_cons_succ]
              have S37 := Lib.hid (SI.out.on hz.out.be)
              clear SI
              clear hz
              go_wp2
              go_roundw
              case rel => exact ⟨j + 1, by omega, by go_num, S37⟩
              case measure => simp [intOf]; omega
          · have hj1 : ¬ (j : Int) < (n : Int) := by omega
            clear hjn
            have q3_0 := (SI.out.sx.bx _ (.head _)).cell 0
            have q3_1 := (SI.out.sx.bx _ (.head _)).cell 1
            simp at q3_0 q3_1
            have hsix := HF.out.six (by rw [HKK.out]; omega)
            have hles := HF.out.less
            rw [HN.out] at hsix hles
            have hm6 : (n : Int) % 6 = 0 := by omega
            have HM6 := Lib.hid hm6
            have HLE := Lib.hid hles
            clear hsix hles hm6
            go_wp2_with fail
            apply wp_region_H (Z := List Cp × Option (Nat × List Value)) (S := fun k => k == 6) (C := fun z w' => Hid (Zx wo z.1 z.2 w')) [0, 1, 2, 3] ([], none)
            · kernel_rfl
            · kernel_rfl
            · kernel_rfl
            · exact ⟨rfl, rfl, rfl, rfl, trivial⟩
            · rfl
            · decide
            · exact Lib.hid (Zx.start (Below.refl _ _).drew)
            · intro z
              dsimp only [pickL, nthO]
              go_big_quiet_want; go_big_quiet_op; first | go_big_quiet_on | (refine ⟨_, fun _ _ => rfl, ?_⟩; go_big_quiet_on)
              go_big_quiet_want
              go_big_quiet_op
              refine ⟨.int .i64 p, fun w' hw' => ?_, ?_⟩
              · have q9 := (SI.out.on hw'.out.be).sx.bx _ (.head _)
                have q0 := q9.cell 0
                simp at q0
                simp [go_sem, q0]
              go_big_quiet_on
              go_big_quiet_want; go_big_quiet_op; first | go_big_quiet_on | (refine ⟨_, fun _ _ => rfl, ?_⟩; go_big_quiet_on)
              go_big_quiet_want
              go_big_quiet_op
              refine ⟨.slice (some ⟨Gx, 0, none⟩) k cx, fun w' hw' => ?_, ?_⟩
              · have q9 := (SI.out.on hw'.out.be).sx.bx _ (.head _)
                have q0 := q9.cell 1
                simp at q0
                simp [go_sem, q0]
              go_big_quiet_on
              exact wpQuiet_nil rfl
            · skip
              refine wpAnyH_load (i := 4) (d := some 52) (.slice (some ⟨Gx, 1, none⟩) (k - 1) (cx - 1)) rfl (by kernel_rfl) rfl rfl (by kernel_rfl) (by kernel_rfl) (by kernel_rfl) (fun z w' _ => by simp [go_sem, hk1i, c1]) ?_
              refine wpAnyH_take (i := 5) (d := some 53) (.agg #[.int .i64 p, .slice (some ⟨Gx, 1, none⟩) (k - 1) (cx - 1)]) rfl (by kernel_rfl) rfl rfl (by kernel_rfl) (by kernel_rfl) (by kernel_rfl) (fun _ => by kernel_rfl) ?_
              refine wpAnyH_call (i := 6) (d := some 54) 26 #[.agg #[.int .i64 p, .slice (some ⟨Gx, 1, none⟩) (k - 1) (cx - 1)]] rfl (by kernel_rfl) rfl rfl (by kernel_rfl) (fun _ => by kernel_rfl) fun wa hc => ?_
              refine (icot_any p _ _ _ (es.drop 1) wa ⟨by rw [HDL.out]; have := HK50.out; unfold maxLen; omega, HDL.out, ((Lib.hid (SI.out.on hc.out.be)).out.li _ (.head _)).from1⟩ HDN.out).mono ?_
              rintro e wb ⟨v8, us8, rfl, oo, hb⟩
              obtain ⟨a8, c8, e8⟩ := oo.form
              subst e8
              refine ⟨_, rfl, ([], none), Lib.hid (hc.out.on hb), ?_⟩
              clear hc oo hb
              refine wpAnyH_take (i := 7) (d := some 6) (.slice a8 (colsB p (es.drop 1)).length c8) rfl (by kernel_rfl) rfl rfl (by kernel_rfl) (by kernel_rfl) (by kernel_rfl) (fun _ => by kernel_rfl) ?_
              refine ⟨by kernel_rfl, fun w27 hz => ?_⟩
              simp only [Act.put, List.setIfInBounds_toArray, List.set_cons_zero, List.set_cons_succ]
              have S38 := Lib.hid (SI.out.on hz.out.be)
              clear SI
              clear hz
              obtain ⟨LL, hLL⟩ : ∃ r, (colsB p (es.drop 1)).length = r := ⟨_, rfl⟩
              have hle := HLE.out
              rw [hLL] at hle ⊢
              clear hLL
              have hle2 : (n : Int) ≤ (LL : Int) := by omega
              have hm6 := HM6.out
              skip
              go_wp2
              go_ret
              exact ⟨rfl, S38.out.sx.be⟩
end Go.Proofs.YtimkmdedoacpfabDoor
