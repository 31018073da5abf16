/- The law FnGraphOk, walked. -/
import Derived.Test.YtipndddmjgjgpabDoorRegionM
import Derived.Test.YtipndddmjgjgpabDoorGphO
import Derived.Test.YtipndddmjgjgpabDoorLwGraphMoved
import Derived.Deep.Cut
namespace Go.Proofs.YtipndddmjgjgpabDoor
open Go.RowKit

theorem Li.at1 {w : World} {Gx k c : Nat} {es : List Int} (h : Li w (.slice (some ⟨Gx, 0, none⟩) k c) es) : ∀ j, j < (es.drop 1).length → ∀ w', Below w.heap.size w w' → w'.cell? ⟨Gx, 1 + j, none⟩ = some (.int .i64 (nth (es.drop 1) j)) := fun j hj w' hw' => by
  rw [List.length_drop] at hj
  obtain ⟨G, c', e, hc⟩ := h.lies (by omega)
  cases e
  rw [nth_drop]
  exact hc w' hw' (1 + j) (by omega)
theorem gk0 : gkB 0 [] = false := gkB_false fun h => by have := h.p1; omega
theorem gk_tail {p : Int} {es : List Int} (h : gkB p es = true) (h0 : 0 < es.length) : gkB p (es.drop 1) = true := by
  cases es with
  | nil => simp at h0
  | cons e es => exact gkB_true.2 (gkB_true.1 h).tail

set_option maxRecDepth 100000 in
set_option maxHeartbeats 12800000 in
theorem lGraphOk_walk (s : Value) (w : World) (h : CodeIn w s) (G : Gr w) : Calls Tryd.prog 3 #[s] w fun e w' => e = .returned (.bool true) ∧ Below w.heap.size w w' := by
  obtain ⟨a0, len0, cap0, rfl⟩ := h.slice
  have H := Lib.hid h; clear h
  have G0 := Lib.hid G; clear G
  by_cases hl : 1048576 < len0
  · go_enter Tryd.func3, Tryd.ntmps3
    go_wp2
    go_ret
    exact ⟨rfl, Below.refl _ _⟩
  go_enter Tryd.func3, Tryd.ntmps3
  go_wp2_with fail
  refine (drawGraphOk_any _ _ H.out).mono ?_
  rintro e w1 ⟨p, v, es, rfl, p0, p5, hx, hb⟩
  have HX := Lib.hid hx
  clear hx
  have S1 := Lib.hid (Lq.start hb)
  clear hb
  have ip : intIn p := ⟨by omega, by omega⟩
  have IP := Lib.hid ip
  clear ip
  cases hb : gkB p es
  · skip
    obtain ⟨va, vc, e1⟩ := Own.form_ints HX.out.ints
    subst e1
    have S2 := Lib.hid (S1.out.more HX.out)
    clear S1
    clear HX
    obtain ⟨w2, hw2⟩ : ∃ z, z = w1.alloc (.cells #[.int .i64 p, .slice va es.length vc] 25) := ⟨_, rfl⟩
    have S3 : Hid (Lq w [(.slice va es.length vc, es)] [(w1.heap.size, [.int .i64 p, .slice va es.length vc])] [] w2) := Lib.hid (by rw [hw2]; exact S2.out.made [.int .i64 p, .slice va es.length vc] _)
    clear S2
    have Hw2 := Lib.hid hw2
    clear hw2
    have q3_0 := (S3.out.sx.bx _ (.head _)).cell 0
    have q3_1 := (S3.out.sx.bx _ (.head _)).cell 1
    simp at q3_0 q3_1
    rw [Hw2.out] at q3_0 q3_1
    go_wp2_with fail
    rw [← Hw2.out]
    refine (igk_is hb (S3.out.li _ (.head _)).ints (S3.out.li _ (.head _)).num).mono ?_
    rintro e w3 ⟨rfl, hb9⟩
    have S4 := Lib.hid (S3.out.on hb9)
    clear S3
    clear hb9
    clear q3_0 q3_1
    have q3_0 := (S4.out.sx.bx _ (.head _)).cell 0
    have q3_1 := (S4.out.sx.bx _ (.head _)).cell 1
    simp at q3_0 q3_1
    go_wp2_with fail
    refine (sgk_is hb (S4.out.li _ (.head _)).ints IP.out (S4.out.li _ (.head _)).num).mono ?_
    rintro e w4 ⟨rfl, hb9⟩
    have S5 := Lib.hid (S4.out.on hb9)
    clear S4
    clear hb9
    clear q3_0 q3_1
    go_wp2_with fail
    apply wp_region_H (Z := List Cp × Option (Nat × List Value)) (S := fun k => k == 19 || k == 23) (C := fun z w' => Hid (Zx w4 z.1 z.2 w')) [0, 1, 2] ([], none)
    · kernel_rfl
    · kernel_rfl
    · kernel_rfl
    · exact ⟨rfl, rfl, rfl, trivial⟩
    · rfl
    · decide
    · exact Lib.hid (Zx.start (Below.refl _ _).drew)
    · intro z
      dsimp only [pickL, nthO]
      go_big_quiet_want; go_big_quiet_op; first | go_big_quiet_on | (refine ⟨_, fun _ _ => rfl, ?_⟩; go_big_quiet_on)
      go_big_quiet_want; go_big_quiet_op; first | go_big_quiet_on | (refine ⟨_, fun _ _ => rfl, ?_⟩; go_big_quiet_on)
      go_big_quiet_want; go_big_quiet_op; first | go_big_quiet_on | (refine ⟨_, fun _ _ => rfl, ?_⟩; go_big_quiet_on)
      exact wpQuiet_nil rfl
    · skip
      refine wpAnyH_skip (i := 3) (d := some 19) rfl (by kernel_rfl) rfl rfl (by kernel_rfl) (by kernel_rfl) (by kernel_rfl) ?_
      refine wpAnyH_skip (i := 4) (d := some 20) rfl (by kernel_rfl) rfl rfl (by kernel_rfl) (by kernel_rfl) (by kernel_rfl) ?_
      refine wpAnyH_skip (i := 5) (d := some 21) rfl (by kernel_rfl) rfl rfl (by kernel_rfl) (by kernel_rfl) (by kernel_rfl) ?_
      refine wpAnyH_skip (i := 6) (d := some 22) rfl (by kernel_rfl) rfl rfl (by kernel_rfl) (by kernel_rfl) (by kernel_rfl) ?_
      refine wpAnyH_take (i := 7) (d := some 23) (.bool true) rfl (by kernel_rfl) rfl rfl (by kernel_rfl) (by kernel_rfl) (by kernel_rfl) (fun _ => by kernel_rfl) ?_
      refine wpAnyH_take (i := 8) (d := some 24) (.bool true) rfl (by kernel_rfl) rfl rfl (by kernel_rfl) (by kernel_rfl) (by kernel_rfl) (fun _ => by kernel_rfl) ?_
      refine wpAnyH_skip (i := 9) (d := some 25) rfl (by kernel_rfl) rfl rfl (by kernel_rfl) (by kernel_rfl) (by kernel_rfl) ?_
      refine wpAnyH_skip (i := 10) (d := some 26) rfl (by kernel_rfl) rfl rfl (by kernel_rfl) (by kernel_rfl) (by kernel_rfl) ?_
      refine wpAnyH_skip (i := 11) (d := some 27) rfl (by kernel_rfl) rfl rfl (by kernel_rfl) (by kernel_rfl) (by kernel_rfl) ?_
      refine wpAnyH_skip (i := 12) (d := some 28) rfl (by kernel_rfl) rfl rfl (by kernel_rfl) (by kernel_rfl) (by kernel_rfl) ?_
      refine wpAnyH_skip (i := 13) (d := some 29) rfl (by kernel_rfl) rfl rfl (by kernel_rfl) (by kernel_rfl) (by kernel_rfl) ?_
      refine wpAnyH_skip (i := 14) (d := some 30) rfl (by kernel_rfl) rfl rfl (by kernel_rfl) (by kernel_rfl) (by kernel_rfl) ?_
      refine wpAnyH_skip (i := 15) (d := some 31) rfl (by kernel_rfl) rfl rfl (by kernel_rfl) (by kernel_rfl) (by kernel_rfl) ?_
      refine wpAnyH_take (i := 16) (d := some 32) (.bool true) rfl (by kernel_rfl) rfl rfl (by kernel_rfl) (by kernel_rfl) (by kernel_rfl) (fun _ => by kernel_rfl) ?_
      refine wpAnyH_take (i := 17) (d := some 33) (.bool true) rfl (by kernel_rfl) rfl rfl (by kernel_rfl) (by kernel_rfl) (by kernel_rfl) (fun _ => by kernel_rfl) ?_
      refine wpAnyH_take (i := 18) (d := some 34) (.agg #[.int .i64 0, .slice none 0 0]) rfl (by kernel_rfl) rfl rfl (by kernel_rfl) (by kernel_rfl) (by kernel_rfl) (fun _ => by kernel_rfl) ?_
      refine wpAnyH_call (i := 19) (d := some 35) 15 #[.agg #[.int .i64 0, .slice none 0 0]] rfl (by kernel_rfl) rfl rfl (by kernel_rfl) (fun _ => by kernel_rfl) fun wa1 hc => ?_
      refine (igk_is gk0 (.inl ⟨rfl, rfl⟩) (fun j hj => by simp at hj)).mono ?_
      rintro e wb1 ⟨rfl, hb⟩
      refine ⟨_, rfl, ([], none), Lib.hid (hc.out.on hb), ?_⟩
      clear hb hc
      refine wpAnyH_take (i := 20) (d := some 36) (.bool true) rfl (by kernel_rfl) rfl rfl (by kernel_rfl) (by kernel_rfl) (by kernel_rfl) (fun _ => by kernel_rfl) ?_
      refine wpAnyH_take (i := 21) (d := some 37) (.bool true) rfl (by kernel_rfl) rfl rfl (by kernel_rfl) (by kernel_rfl) (by kernel_rfl) (fun _ => by kernel_rfl) ?_
      refine wpAnyH_take (i := 22) (d := some 38) (.bool true) rfl (by kernel_rfl) rfl rfl (by kernel_rfl) (by kernel_rfl) (by kernel_rfl) (fun _ => by kernel_rfl) ?_
      refine wpAnyH_call (i := 23) (d := some 39) 17 #[] rfl (by kernel_rfl) rfl rfl (by kernel_rfl) (fun _ => by kernel_rfl) fun wa2 hc => ?_
      refine (((alive_any wa2 (G0.out.on (Lib.hid (S5.out.on hc.out.be)).out.sx.be)).mono fun _ _ ⟨he, hw⟩ => ⟨he, hw ▸ Below.refl _ _⟩ : Calls Tryd.prog 17 #[] wa2 fun e w' => e = .returned (.bool true) ∧ Below wa2.heap.size wa2 w')).mono ?_
      rintro e wb2 ⟨rfl, hb⟩
      refine ⟨_, rfl, ([], none), Lib.hid (hc.out.on hb), ?_⟩
      clear hb hc
      refine wpAnyH_take (i := 24) (d := some 40) (.bool true) rfl (by kernel_rfl) rfl rfl (by kernel_rfl) (by kernel_rfl) (by kernel_rfl) (fun _ => by kernel_rfl) ?_
      refine wpAnyH_take (i := 25) (d := some 2) (.bool true) rfl (by kernel_rfl) rfl rfl (by kernel_rfl) (by kernel_rfl) (by kernel_rfl) (fun _ => by kernel_rfl) ?_
      refine ⟨by kernel_rfl, fun w5 hz => ?_⟩
      simp only [Act.put, List.setIfInBounds_toArray, List.set_cons_zero, List.set_cons_succ]
      have S6 := Lib.hid (S5.out.on hz.out.be)
      clear S5
      clear hz
      go_wp2
      go_ret
      exact ⟨rfl, S6.out.sx.be⟩
  · skip
    by_cases he : es.length = 0
    · obtain rfl := List.length_eq_zero_iff.1 he
      clear he
      obtain ⟨va, vc, e1⟩ := Own.form_ints HX.out.ints
      subst e1
      have S7 := Lib.hid (S1.out.more HX.out)
      clear S1
      clear HX
      obtain ⟨w6, hw6⟩ : ∃ z, z = w1.alloc (.cells #[.int .i64 p, .slice va 0 vc] 25) := ⟨_, rfl⟩
      have S8 : Hid (Lq w [(.slice va 0 vc, [])] [(w1.heap.size, [.int .i64 p, .slice va 0 vc])] [] w6) := Lib.hid (by rw [hw6]; exact S7.out.made [.int .i64 p, .slice va 0 vc] _)
      clear S7
      have Hw6 := Lib.hid hw6
      clear hw6
      have q3_0 := (S8.out.sx.bx _ (.head _)).cell 0
      have q3_1 := (S8.out.sx.bx _ (.head _)).cell 1
      simp at q3_0 q3_1
      rw [Hw6.out] at q3_0 q3_1
      go_wp2_with fail
      rw [← Hw6.out]
      refine (igk_is hb (S8.out.li _ (.head _)).ints (S8.out.li _ (.head _)).num).mono ?_
      rintro e w7 ⟨rfl, hb9⟩
      have S9 := Lib.hid (S8.out.on hb9)
      clear S8
      clear hb9
      clear q3_0 q3_1
      have q3_0 := (S9.out.sx.bx _ (.head _)).cell 0
      have q3_1 := (S9.out.sx.bx _ (.head _)).cell 1
      simp at q3_0 q3_1
      go_wp2_with fail
      refine (sgk_is hb (S9.out.li _ (.head _)).ints IP.out (S9.out.li _ (.head _)).num).mono ?_
      rintro e w8 ⟨rfl, hb9⟩
      have S10 := Lib.hid (S9.out.on hb9)
      clear S9
      clear hb9
      clear q3_0 q3_1
      go_wp2_with fail
      apply wp_region_H (Z := List Cp × Option (Nat × List Value)) (S := fun k => k == 19 || k == 23) (C := fun z w' => Hid (Zx w8 z.1 z.2 w')) [0, 1, 2] ([], none)
      · kernel_rfl
      · kernel_rfl
      · kernel_rfl
      · exact ⟨rfl, rfl, rfl, trivial⟩
      · rfl
      · decide
      · exact Lib.hid (Zx.start (Below.refl _ _).drew)
      · intro z
        dsimp only [pickL, nthO]
        go_big_quiet_want; go_big_quiet_op; first | go_big_quiet_on | (refine ⟨_, fun _ _ => rfl, ?_⟩; go_big_quiet_on)
        go_big_quiet_want; go_big_quiet_op; first | go_big_quiet_on | (refine ⟨_, fun _ _ => rfl, ?_⟩; go_big_quiet_on)
        go_big_quiet_want; go_big_quiet_op; first | go_big_quiet_on | (refine ⟨_, fun _ _ => rfl, ?_⟩; go_big_quiet_on)
        exact wpQuiet_nil rfl
      · skip
        refine wpAnyH_take (i := 3) (d := some 19) (.pointer (some ⟨w1.heap.size, 1, none⟩)) rfl (by kernel_rfl) rfl rfl (by kernel_rfl) (by kernel_rfl) (by kernel_rfl) (fun _ => by kernel_rfl) ?_
        refine wpAnyH_load (i := 4) (d := some 20) (.slice va 0 vc) rfl (by kernel_rfl) rfl rfl (by kernel_rfl) (by kernel_rfl) (by kernel_rfl) (fun z w' hw' => by
          have q9 := (S10.out.on hw'.out.be).sx.bx _ (.head _)
          have q1 := q9.cell 1
          simp at q1
          simp [go_sem, q1]) ?_
        refine wpAnyH_take (i := 5) (d := some 21) (.int .i64 (0 : Nat)) rfl (by kernel_rfl) rfl rfl (by kernel_rfl) (by kernel_rfl) (by kernel_rfl) (fun _ => by kernel_rfl) ?_
        refine wpAnyH_load (i := 6) (d := some 22) (.bool true) rfl (by kernel_rfl) rfl rfl (by kernel_rfl) (by kernel_rfl) (by kernel_rfl) (fun z w' _ => by simp [go_sem]) ?_
        refine wpAnyH_take (i := 7) (d := some 23) (.bool true) rfl (by kernel_rfl) rfl rfl (by kernel_rfl) (by kernel_rfl) (by kernel_rfl) (fun _ => by kernel_rfl) ?_
        refine wpAnyH_take (i := 8) (d := some 24) (.bool true) rfl (by kernel_rfl) rfl rfl (by kernel_rfl) (by kernel_rfl) (by kernel_rfl) (fun _ => by kernel_rfl) ?_
        refine wpAnyH_skip (i := 9) (d := some 25) rfl (by kernel_rfl) rfl rfl (by kernel_rfl) (by kernel_rfl) (by kernel_rfl) ?_
        refine wpAnyH_skip (i := 10) (d := some 26) rfl (by kernel_rfl) rfl rfl (by kernel_rfl) (by kernel_rfl) (by kernel_rfl) ?_
        refine wpAnyH_skip (i := 11) (d := some 27) rfl (by kernel_rfl) rfl rfl (by kernel_rfl) (by kernel_rfl) (by kernel_rfl) ?_
        refine wpAnyH_skip (i := 12) (d := some 28) rfl (by kernel_rfl) rfl rfl (by kernel_rfl) (by kernel_rfl) (by kernel_rfl) ?_
        refine wpAnyH_skip (i := 13) (d := some 29) rfl (by kernel_rfl) rfl rfl (by kernel_rfl) (by kernel_rfl) (by kernel_rfl) ?_
        refine wpAnyH_skip (i := 14) (d := some 30) rfl (by kernel_rfl) rfl rfl (by kernel_rfl) (by kernel_rfl) (by kernel_rfl) ?_
        refine wpAnyH_skip (i := 15) (d := some 31) rfl (by kernel_rfl) rfl rfl (by kernel_rfl) (by kernel_rfl) (by kernel_rfl) ?_
        refine wpAnyH_take (i := 16) (d := some 32) (.bool true) rfl (by kernel_rfl) rfl rfl (by kernel_rfl) (by kernel_rfl) (by kernel_rfl) (fun _ => by kernel_rfl) ?_
        refine wpAnyH_take (i := 17) (d := some 33) (.bool true) rfl (by kernel_rfl) rfl rfl (by kernel_rfl) (by kernel_rfl) (by kernel_rfl) (fun _ => by kernel_rfl) ?_
        refine wpAnyH_take (i := 18) (d := some 34) (.agg #[.int .i64 0, .slice none 0 0]) rfl (by kernel_rfl) rfl rfl (by kernel_rfl) (by kernel_rfl) (by kernel_rfl) (fun _ => by kernel_rfl) ?_
        refine wpAnyH_call (i := 19) (d := some 35) 15 #[.agg #[.int .i64 0, .slice none 0 0]] rfl (by kernel_rfl) rfl rfl (by kernel_rfl) (fun _ => by kernel_rfl) fun wa1 hc => ?_
        refine (igk_is gk0 (.inl ⟨rfl, rfl⟩) (fun j hj => by simp at hj)).mono ?_
        rintro e wb1 ⟨rfl, hb⟩
        refine ⟨_, rfl, ([], none), Lib.hid (hc.out.on hb), ?_⟩
        clear hb hc
        refine wpAnyH_take (i := 20) (d := some 36) (.bool true) rfl (by kernel_rfl) rfl rfl (by kernel_rfl) (by kernel_rfl) (by kernel_rfl) (fun _ => by kernel_rfl) ?_
        refine wpAnyH_take (i := 21) (d := some 37) (.bool true) rfl (by kernel_rfl) rfl rfl (by kernel_rfl) (by kernel_rfl) (by kernel_rfl) (fun _ => by kernel_rfl) ?_
        refine wpAnyH_take (i := 22) (d := some 38) (.bool true) rfl (by kernel_rfl) rfl rfl (by kernel_rfl) (by kernel_rfl) (by kernel_rfl) (fun _ => by kernel_rfl) ?_
        refine wpAnyH_call (i := 23) (d := some 39) 17 #[] rfl (by kernel_rfl) rfl rfl (by kernel_rfl) (fun _ => by kernel_rfl) fun wa2 hc => ?_
        refine (((alive_any wa2 (G0.out.on (Lib.hid (S10.out.on hc.out.be)).out.sx.be)).mono fun _ _ ⟨he, hw⟩ => ⟨he, hw ▸ Below.refl _ _⟩ : Calls Tryd.prog 17 #[] wa2 fun e w' => e = .returned (.bool true) ∧ Below wa2.heap.size wa2 w')).mono ?_
        rintro e wb2 ⟨rfl, hb⟩
        refine ⟨_, rfl, ([], none), Lib.hid (hc.out.on hb), ?_⟩
        clear hb hc
        refine wpAnyH_take (i := 24) (d := some 40) (.bool true) rfl (by kernel_rfl) rfl rfl (by kernel_rfl) (by kernel_rfl) (by kernel_rfl) (fun _ => by kernel_rfl) ?_
        refine wpAnyH_take (i := 25) (d := some 2) (.bool true) rfl (by kernel_rfl) rfl rfl (by kernel_rfl) (by kernel_rfl) (by kernel_rfl) (fun _ => by kernel_rfl) ?_
        refine ⟨by kernel_rfl, fun w9 hz => ?_⟩
        simp only [Act.put, List.setIfInBounds_toArray, List.set_cons_zero, List.set_cons_succ]
        have S11 := Lib.hid (S10.out.on hz.out.be)
        clear S10
        clear hz
        go_wp2
        go_ret
        exact ⟨rfl, S11.out.sx.be⟩
    · obtain ⟨Gx, cx, rfl, hc9⟩ := HX.out.lies (by omega)
      have HK : Hid (es.length ≤ 50) := Lib.hid HX.out.few
      have HDN := Lib.hid (show ∀ j, j < (es.drop 1).length → intIn (nth (es.drop 1) j) from fun j hj => by rw [nth_drop]; exact HX.out.num (1 + j) (by rw [List.length_drop] at hj; omega))
      have hcap : es.length ≤ cx := HX.out.cap _ _ _ rfl
      have HTL := Lib.hid (gk_tail hb (by omega))
      obtain ⟨k, hk⟩ : ∃ k, es.length = k := ⟨_, rfl⟩
      have HDL := Lib.hid (show (es.drop 1).length = k - 1 by rw [List.length_drop, hk])
      have HKK := Lib.hid hk
      have HX2 : Hid (Li w1 (.slice (some ⟨Gx, 0, none⟩) k cx) es) := Lib.hid (by rw [← hk]; exact HX.out)
      have hk1 : 1 ≤ k := by omega
      have hkc : k ≤ cx := by omega
      have hk5 : k ≤ 50 := by have := HK.out; omega
      rw [hk]
      clear hc9 HX hcap he hk
      have HX := HX2
      clear HX2
      by_cases c1 : cx = 1
      · obtain rfl : k = 1 := by omega
        subst c1
        have S12 := Lib.hid (S1.out.more HX.out)
        clear S1
        clear HX
        obtain ⟨w10, hw10⟩ : ∃ z, z = w1.alloc (.cells #[.int .i64 p, .slice (some ⟨Gx, 0, none⟩) 1 1] 25) := ⟨_, rfl⟩
        have S13 : Hid (Lq w [(.slice (some ⟨Gx, 0, none⟩) 1 1, es)] [(w1.heap.size, [.int .i64 p, .slice (some ⟨Gx, 0, none⟩) 1 1])] [] w10) := Lib.hid (by rw [hw10]; exact S12.out.made [.int .i64 p, .slice (some ⟨Gx, 0, none⟩) 1 1] _)
        clear S12
        have Hw10 := Lib.hid hw10
        clear hw10
        have q3_0 := (S13.out.sx.bx _ (.head _)).cell 0
        have q3_1 := (S13.out.sx.bx _ (.head _)).cell 1
        simp at q3_0 q3_1
        rw [Hw10.out] at q3_0 q3_1
        go_wp2_with fail
        rw [← Hw10.out]
        refine (igk_is hb (S13.out.li _ (.head _)).ints (S13.out.li _ (.head _)).num).mono ?_
        rintro e w11 ⟨rfl, hb9⟩
        have S14 := Lib.hid (S13.out.on hb9)
        clear S13
        clear hb9
        clear q3_0 q3_1
        have q3_0 := (S14.out.sx.bx _ (.head _)).cell 0
        have q3_1 := (S14.out.sx.bx _ (.head _)).cell 1
        simp at q3_0 q3_1
        go_wp2_with fail
        refine (sgk_is hb (S14.out.li _ (.head _)).ints IP.out (S14.out.li _ (.head _)).num).mono ?_
        rintro e w12 ⟨rfl, hb9⟩
        have S15 := Lib.hid (S14.out.on hb9)
        clear S14
        clear hb9
        clear q3_0 q3_1
        go_wp2_with fail
        apply wp_region_H (Z := List Cp × Option (Nat × List Value)) (S := fun k => k == 15 || k == 19 || k == 23) (C := fun z w' => Hid (Zx w12 z.1 z.2 w')) [0, 1, 2] ([], none)
        · kernel_rfl
        · kernel_rfl
        · kernel_rfl
        · exact ⟨rfl, rfl, rfl, trivial⟩
        · rfl
        · decide
        · exact Lib.hid (Zx.start (Below.refl _ _).drew)
        · intro z
          dsimp only [pickL, nthO]
          go_big_quiet_want; go_big_quiet_op; first | go_big_quiet_on | (refine ⟨_, fun _ _ => rfl, ?_⟩; go_big_quiet_on)
          go_big_quiet_want; go_big_quiet_op; first | go_big_quiet_on | (refine ⟨_, fun _ _ => rfl, ?_⟩; go_big_quiet_on)
          go_big_quiet_want; go_big_quiet_op; first | go_big_quiet_on | (refine ⟨_, fun _ _ => rfl, ?_⟩; go_big_quiet_on)
          exact wpQuiet_nil rfl
        · skip
          refine wpAnyH_take (i := 3) (d := some 19) (.pointer (some ⟨w1.heap.size, 1, none⟩)) rfl (by kernel_rfl) rfl rfl (by kernel_rfl) (by kernel_rfl) (by kernel_rfl) (fun _ => by kernel_rfl) ?_
          refine wpAnyH_load (i := 4) (d := some 20) (.slice (some ⟨Gx, 0, none⟩) 1 1) rfl (by kernel_rfl) rfl rfl (by kernel_rfl) (by kernel_rfl) (by kernel_rfl) (fun z w' hw' => by
            have q9 := (S15.out.on hw'.out.be).sx.bx _ (.head _)
            have q1 := q9.cell 1
            simp at q1
            simp [go_sem, q1]) ?_
          refine wpAnyH_take (i := 5) (d := some 21) (.int .i64 (1 : Nat)) rfl (by kernel_rfl) rfl rfl (by kernel_rfl) (by kernel_rfl) (by kernel_rfl) (fun _ => by kernel_rfl) ?_
          refine wpAnyH_load (i := 6) (d := some 22) (.bool false) rfl (by kernel_rfl) rfl rfl (by kernel_rfl) (by kernel_rfl) (by kernel_rfl) (fun z w' _ => by simp [go_sem] <;> omega) ?_
          refine wpAnyH_take (i := 7) (d := some 23) (.bool false) rfl (by kernel_rfl) rfl rfl (by kernel_rfl) (by kernel_rfl) (by kernel_rfl) (fun _ => by kernel_rfl) ?_
          refine wpAnyH_take (i := 8) (d := some 24) (.bool false) rfl (by kernel_rfl) rfl rfl (by kernel_rfl) (by kernel_rfl) (by kernel_rfl) (fun _ => by kernel_rfl) ?_
          refine wpAnyH_take (i := 9) (d := some 25) (.pointer (some ⟨w1.heap.size, 0, none⟩)) rfl (by kernel_rfl) rfl rfl (by kernel_rfl) (by kernel_rfl) (by kernel_rfl) (fun _ => by kernel_rfl) ?_
          refine wpAnyH_load (i := 10) (d := some 26) (.int .i64 p) rfl (by kernel_rfl) rfl rfl (by kernel_rfl) (by kernel_rfl) (by kernel_rfl) (fun z w' hw' => by
            have q9 := (S15.out.on hw'.out.be).sx.bx _ (.head _)
            have q0 := q9.cell 0
            simp at q0
            simp [go_sem, q0]) ?_
          refine wpAnyH_take (i := 11) (d := some 27) (.pointer (some ⟨w1.heap.size, 1, none⟩)) rfl (by kernel_rfl) rfl rfl (by kernel_rfl) (by kernel_rfl) (by kernel_rfl) (fun _ => by kernel_rfl) ?_
          refine wpAnyH_load (i := 12) (d := some 28) (.slice (some ⟨Gx, 0, none⟩) 1 1) rfl (by kernel_rfl) rfl rfl (by kernel_rfl) (by kernel_rfl) (by kernel_rfl) (fun z w' hw' => by
            have q9 := (S15.out.on hw'.out.be).sx.bx _ (.head _)
            have q1 := q9.cell 1
            simp at q1
            simp [go_sem, q1]) ?_
          refine wpAnyH_load (i := 13) (d := some 29) (.slice (some ⟨Gx, 0, none⟩) 0 0) rfl (by kernel_rfl) rfl rfl (by kernel_rfl) (by kernel_rfl) (by kernel_rfl) (fun z w' _ => by simp [go_sem]) ?_
          refine wpAnyH_take (i := 14) (d := some 30) (.agg #[.int .i64 p, .slice (some ⟨Gx, 0, none⟩) 0 0]) rfl (by kernel_rfl) rfl rfl (by kernel_rfl) (by kernel_rfl) (by kernel_rfl) (fun _ => by kernel_rfl) ?_
          refine wpAnyH_call (i := 15) (d := some 31) 15 #[.agg #[.int .i64 p, .slice (some ⟨Gx, 0, none⟩) 0 0]] rfl (by kernel_rfl) rfl rfl (by kernel_rfl) (fun _ => by kernel_rfl) fun wa1 hc => ?_
          refine ((by rw [← HTL.out]; exact igkt_any p _ _ _ (es.drop 1) wa1 HDL.out (by rw [HDL.out]; have := HK.out; unfold maxLen; omega) (fun k hk => by rw [HDL.out] at hk; omega) HDN.out : Calls Tryd.prog 15 #[.agg #[.int .i64 p, .slice (some ⟨Gx, 0, none⟩) 0 0]] wa1 fun e w' => e = .returned (.bool true) ∧ Below wa1.heap.size wa1 w')).mono ?_
          rintro e wb1 ⟨rfl, hb⟩
          refine ⟨_, rfl, ([], none), Lib.hid (hc.out.on hb), ?_⟩
          clear hb hc
          refine wpAnyH_take (i := 16) (d := some 32) (.bool true) rfl (by kernel_rfl) rfl rfl (by kernel_rfl) (by kernel_rfl) (by kernel_rfl) (fun _ => by kernel_rfl) ?_
          refine wpAnyH_take (i := 17) (d := some 33) (.bool true) rfl (by kernel_rfl) rfl rfl (by kernel_rfl) (by kernel_rfl) (by kernel_rfl) (fun _ => by kernel_rfl) ?_
          refine wpAnyH_take (i := 18) (d := some 34) (.agg #[.int .i64 0, .slice none 0 0]) rfl (by kernel_rfl) rfl rfl (by kernel_rfl) (by kernel_rfl) (by kernel_rfl) (fun _ => by kernel_rfl) ?_
          refine wpAnyH_call (i := 19) (d := some 35) 15 #[.agg #[.int .i64 0, .slice none 0 0]] rfl (by kernel_rfl) rfl rfl (by kernel_rfl) (fun _ => by kernel_rfl) fun wa2 hc => ?_
          refine (igk_is gk0 (.inl ⟨rfl, rfl⟩) (fun j hj => by simp at hj)).mono ?_
          rintro e wb2 ⟨rfl, hb⟩
          refine ⟨_, rfl, ([], none), Lib.hid (hc.out.on hb), ?_⟩
          clear hb hc
          refine wpAnyH_take (i := 20) (d := some 36) (.bool true) rfl (by kernel_rfl) rfl rfl (by kernel_rfl) (by kernel_rfl) (by kernel_rfl) (fun _ => by kernel_rfl) ?_
          refine wpAnyH_take (i := 21) (d := some 37) (.bool true) rfl (by kernel_rfl) rfl rfl (by kernel_rfl) (by kernel_rfl) (by kernel_rfl) (fun _ => by kernel_rfl) ?_
          refine wpAnyH_take (i := 22) (d := some 38) (.bool true) rfl (by kernel_rfl) rfl rfl (by kernel_rfl) (by kernel_rfl) (by kernel_rfl) (fun _ => by kernel_rfl) ?_
          refine wpAnyH_call (i := 23) (d := some 39) 17 #[] rfl (by kernel_rfl) rfl rfl (by kernel_rfl) (fun _ => by kernel_rfl) fun wa3 hc => ?_
          refine (((alive_any wa3 (G0.out.on (Lib.hid (S15.out.on hc.out.be)).out.sx.be)).mono fun _ _ ⟨he, hw⟩ => ⟨he, hw ▸ Below.refl _ _⟩ : Calls Tryd.prog 17 #[] wa3 fun e w' => e = .returned (.bool true) ∧ Below wa3.heap.size wa3 w')).mono ?_
          rintro e wb3 ⟨rfl, hb⟩
          refine ⟨_, rfl, ([], none), Lib.hid (hc.out.on hb), ?_⟩
          clear hb hc
          refine wpAnyH_take (i := 24) (d := some 40) (.bool true) rfl (by kernel_rfl) rfl rfl (by kernel_rfl) (by kernel_rfl) (by kernel_rfl) (fun _ => by kernel_rfl) ?_
          refine wpAnyH_take (i := 25) (d := some 2) (.bool true) rfl (by kernel_rfl) rfl rfl (by kernel_rfl) (by kernel_rfl) (by kernel_rfl) (fun _ => by kernel_rfl) ?_
          refine ⟨by kernel_rfl, fun w13 hz => ?_⟩
          simp only [Act.put, List.setIfInBounds_toArray, List.set_cons_zero, List.set_cons_succ]
          have S16 := Lib.hid (S15.out.on hz.out.be)
          clear S15
          clear hz
          go_wp2
          go_ret
          exact ⟨rfl, S16.out.sx.be⟩
      · have hk2 : ((k : Int) == 0) = false := by simp; omega
        have hk1i : (1 : Int) ≤ (k : Int) := by omega
        have S17 := Lib.hid (S1.out.more HX.out)
        clear S1
        clear HX
        obtain ⟨w14, hw14⟩ : ∃ z, z = w1.alloc (.cells #[.int .i64 p, .slice (some ⟨Gx, 0, none⟩) k cx] 25) := ⟨_, rfl⟩
        have S18 : Hid (Lq w [(.slice (some ⟨Gx, 0, none⟩) k cx, es)] [(w1.heap.size, [.int .i64 p, .slice (some ⟨Gx, 0, none⟩) k cx])] [] w14) := Lib.hid (by rw [hw14]; exact S17.out.made [.int .i64 p, .slice (some ⟨Gx, 0, none⟩) k cx] _)
        clear S17
        have Hw14 := Lib.hid hw14
        clear hw14
        have q3_0 := (S18.out.sx.bx _ (.head _)).cell 0
        have q3_1 := (S18.out.sx.bx _ (.head _)).cell 1
        simp at q3_0 q3_1
        rw [Hw14.out] at q3_0 q3_1
        go_wp2_with fail
        rw [← Hw14.out]
        refine (igk_is hb (S18.out.li _ (.head _)).ints (S18.out.li _ (.head _)).num).mono ?_
        rintro e w15 ⟨rfl, hb9⟩
        have S19 := Lib.hid (S18.out.on hb9)
        clear S18
        clear hb9
        clear q3_0 q3_1
        have q3_0 := (S19.out.sx.bx _ (.head _)).cell 0
        have q3_1 := (S19.out.sx.bx _ (.head _)).cell 1
        simp at q3_0 q3_1
        go_wp2_with fail
        refine (sgk_is hb (S19.out.li _ (.head _)).ints IP.out (S19.out.li _ (.head _)).num).mono ?_
        rintro e w16 ⟨rfl, hb9⟩
        have S20 := Lib.hid (S19.out.on hb9)
        clear S19
        clear hb9
        clear q3_0 q3_1
        go_wp2_with fail
        apply wp_region_H (Z := List Cp × Option (Nat × List Value)) (S := fun k => k == 15 || k == 19 || k == 23) (C := fun z w' => Hid (Zx w16 z.1 z.2 w')) [0, 1, 2] ([], none)
        · kernel_rfl
        · kernel_rfl
        · kernel_rfl
        · exact ⟨rfl, rfl, rfl, trivial⟩
        · rfl
        · decide
        · exact Lib.hid (Zx.start (Below.refl _ _).drew)
        · intro z
          dsimp only [pickL, nthO]
          go_big_quiet_want; go_big_quiet_op; first | go_big_quiet_on | (refine ⟨_, fun _ _ => rfl, ?_⟩; go_big_quiet_on)
          go_big_quiet_want; go_big_quiet_op; first | go_big_quiet_on | (refine ⟨_, fun _ _ => rfl, ?_⟩; go_big_quiet_on)
          go_big_quiet_want; go_big_quiet_op; first | go_big_quiet_on | (refine ⟨_, fun _ _ => rfl, ?_⟩; go_big_quiet_on)
          exact wpQuiet_nil rfl
        · skip
          refine wpAnyH_take (i := 3) (d := some 19) (.pointer (some ⟨w1.heap.size, 1, none⟩)) rfl (by kernel_rfl) rfl rfl (by kernel_rfl) (by kernel_rfl) (by kernel_rfl) (fun _ => by kernel_rfl) ?_
          refine wpAnyH_load (i := 4) (d := some 20) (.slice (some ⟨Gx, 0, none⟩) k cx) rfl (by kernel_rfl) rfl rfl (by kernel_rfl) (by kernel_rfl) (by kernel_rfl) (fun z w' hw' => by
            have q9 := (S20.out.on hw'.out.be).sx.bx _ (.head _)
            have q1 := q9.cell 1
            simp at q1
            simp [go_sem, q1]) ?_
          refine wpAnyH_take (i := 5) (d := some 21) (.int .i64 (k : Nat)) rfl (by kernel_rfl) rfl rfl (by kernel_rfl) (by kernel_rfl) (by kernel_rfl) (fun _ => by kernel_rfl) ?_
          refine wpAnyH_load (i := 6) (d := some 22) (.bool false) rfl (by kernel_rfl) rfl rfl (by kernel_rfl) (by kernel_rfl) (by kernel_rfl) (fun z w' _ => by simp [go_sem] <;> omega) ?_
          refine wpAnyH_take (i := 7) (d := some 23) (.bool false) rfl (by kernel_rfl) rfl rfl (by kernel_rfl) (by kernel_rfl) (by kernel_rfl) (fun _ => by kernel_rfl) ?_
          refine wpAnyH_take (i := 8) (d := some 24) (.bool false) rfl (by kernel_rfl) rfl rfl (by kernel_rfl) (by kernel_rfl) (by kernel_rfl) (fun _ => by kernel_rfl) ?_
          refine wpAnyH_take (i := 9) (d := some 25) (.pointer (some ⟨w1.heap.size, 0, none⟩)) rfl (by kernel_rfl) rfl rfl (by kernel_rfl) (by kernel_rfl) (by kernel_rfl) (fun _ => by kernel_rfl) ?_
          refine wpAnyH_load (i := 10) (d := some 26) (.int .i64 p) rfl (by kernel_rfl) rfl rfl (by kernel_rfl) (by kernel_rfl) (by kernel_rfl) (fun z w' hw' => by
            have q9 := (S20.out.on hw'.out.be).sx.bx _ (.head _)
            have q0 := q9.cell 0
            simp at q0
            simp [go_sem, q0]) ?_
          refine wpAnyH_take (i := 11) (d := some 27) (.pointer (some ⟨w1.heap.size, 1, none⟩)) rfl (by kernel_rfl) rfl rfl (by kernel_rfl) (by kernel_rfl) (by kernel_rfl) (fun _ => by kernel_rfl) ?_
          refine wpAnyH_load (i := 12) (d := some 28) (.slice (some ⟨Gx, 0, none⟩) k cx) rfl (by kernel_rfl) rfl rfl (by kernel_rfl) (by kernel_rfl) (by kernel_rfl) (fun z w' hw' => by
            have q9 := (S20.out.on hw'.out.be).sx.bx _ (.head _)
            have q1 := q9.cell 1
            simp at q1
            simp [go_sem, q1]) ?_
          refine wpAnyH_load (i := 13) (d := some 29) (.slice (some ⟨Gx, 1, none⟩) (k - 1) (cx - 1)) rfl (by kernel_rfl) rfl rfl (by kernel_rfl) (by kernel_rfl) (by kernel_rfl) (fun z w' _ => by simp [go_sem, hk1i, c1]) ?_
          refine wpAnyH_take (i := 14) (d := some 30) (.agg #[.int .i64 p, .slice (some ⟨Gx, 1, none⟩) (k - 1) (cx - 1)]) rfl (by kernel_rfl) rfl rfl (by kernel_rfl) (by kernel_rfl) (by kernel_rfl) (fun _ => by kernel_rfl) ?_
          refine wpAnyH_call (i := 15) (d := some 31) 15 #[.agg #[.int .i64 p, .slice (some ⟨Gx, 1, none⟩) (k - 1) (cx - 1)]] rfl (by kernel_rfl) rfl rfl (by kernel_rfl) (fun _ => by kernel_rfl) fun wa1 hc => ?_
          refine ((by rw [← HTL.out]; exact igkt_any p _ _ _ (es.drop 1) wa1 HDL.out (by rw [HDL.out]; have := HK.out; unfold maxLen; omega) (fun k hk => ⟨_, rfl, fun w' hw' => ((Lib.hid (S20.out.on hc.out.be)).out.li _ (.head _)).at1 k hk _ hw'⟩) HDN.out : Calls Tryd.prog 15 #[.agg #[.int .i64 p, .slice (some ⟨Gx, 1, none⟩) (k - 1) (cx - 1)]] wa1 fun e w' => e = .returned (.bool true) ∧ Below wa1.heap.size wa1 w')).mono ?_
          rintro e wb1 ⟨rfl, hb⟩
          refine ⟨_, rfl, ([], none), Lib.hid (hc.out.on hb), ?_⟩
          clear hb hc
          refine wpAnyH_take (i := 16) (d := some 32) (.bool true) rfl (by kernel_rfl) rfl rfl (by kernel_rfl) (by kernel_rfl) (by kernel_rfl) (fun _ => by kernel_rfl) ?_
          refine wpAnyH_take (i := 17) (d := some 33) (.bool true) rfl (by kernel_rfl) rfl rfl (by kernel_rfl) (by kernel_rfl) (by kernel_rfl) (fun _ => by kernel_rfl) ?_
          refine wpAnyH_take (i := 18) (d := some 34) (.agg #[.int .i64 0, .slice none 0 0]) rfl (by kernel_rfl) rfl rfl (by kernel_rfl) (by kernel_rfl) (by kernel_rfl) (fun _ => by kernel_rfl) ?_
          refine wpAnyH_call (i := 19) (d := some 35) 15 #[.agg #[.int .i64 0, .slice none 0 0]] rfl (by kernel_rfl) rfl rfl (by kernel_rfl) (fun _ => by kernel_rfl) fun wa2 hc => ?_
          refine (igk_is gk0 (.inl ⟨rfl, rfl⟩) (fun j hj => by simp at hj)).mono ?_
          rintro e wb2 ⟨rfl, hb⟩
          refine ⟨_, rfl, ([], none), Lib.hid (hc.out.on hb), ?_⟩
          clear hb hc
          refine wpAnyH_take (i := 20) (d := some 36) (.bool true) rfl (by kernel_rfl) rfl rfl (by kernel_rfl) (by kernel_rfl) (by kernel_rfl) (fun _ => by kernel_rfl) ?_
          refine wpAnyH_take (i := 21) (d := some 37) (.bool true) rfl (by kernel_rfl) rfl rfl (by kernel_rfl) (by kernel_rfl) (by kernel_rfl) (fun _ => by kernel_rfl) ?_
          refine wpAnyH_take (i := 22) (d := some 38) (.bool true) rfl (by kernel_rfl) rfl rfl (by kernel_rfl) (by kernel_rfl) (by kernel_rfl) (fun _ => by kernel_rfl) ?_
          refine wpAnyH_call (i := 23) (d := some 39) 17 #[] rfl (by kernel_rfl) rfl rfl (by kernel_rfl) (fun _ => by kernel_rfl) fun wa3 hc => ?_
          refine (((alive_any wa3 (G0.out.on (Lib.hid (S20.out.on hc.out.be)).out.sx.be)).mono fun _ _ ⟨he, hw⟩ => ⟨he, hw ▸ Below.refl _ _⟩ : Calls Tryd.prog 17 #[] wa3 fun e w' => e = .returned (.bool true) ∧ Below wa3.heap.size wa3 w')).mono ?_
          rintro e wb3 ⟨rfl, hb⟩
          refine ⟨_, rfl, ([], none), Lib.hid (hc.out.on hb), ?_⟩
          clear hb hc
          refine wpAnyH_take (i := 24) (d := some 40) (.bool true) rfl (by kernel_rfl) rfl rfl (by kernel_rfl) (by kernel_rfl) (by kernel_rfl) (fun _ => by kernel_rfl) ?_
          refine wpAnyH_take (i := 25) (d := some 2) (.bool true) rfl (by kernel_rfl) rfl rfl (by kernel_rfl) (by kernel_rfl) (by kernel_rfl) (fun _ => by kernel_rfl) ?_
          refine ⟨by kernel_rfl, fun w17 hz => ?_⟩
          simp only [Act.put, List.setIfInBounds_toArray, List.set_cons_zero, List.set_cons_succ]
          have S21 := Lib.hid (S20.out.on hz.out.be)
          clear S20
          clear hz
          go_wp2
          go_ret
          exact ⟨rfl, S21.out.sx.be⟩
end Go.Proofs.YtipndddmjgjgpabDoor
