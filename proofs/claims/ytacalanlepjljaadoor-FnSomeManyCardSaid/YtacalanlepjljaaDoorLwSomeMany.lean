/- The law FnSomeMany, walked. -/
import Derived.Test.YtacalanlepjljaaDoorDrawKy
import Derived.Test.YtacalanlepjljaaDoorPolM
import Derived.Test.YtacalanlepjljaaDoorSomI
import Derived.Test.YtacalanlepjljaaDoorBWalk
import Derived.Test.YtacalanlepjljaaDoorLawsA
import Derived.Deep.Cut
namespace Go.Proofs.YtacalanlepjljaaDoor
open Go.RowKit

theorem drawSomeMany_any (s : Value) (w : World) (h : CodeIn w s) : Calls Tryd.prog 36 #[s] w fun e w' => ∃ (g : Int) (kv : Value) (keys : List Int) (need ask : Int), e = .returned (.tuple #[.int .i64 g, kv, .int .i64 need, .int .i64 ask]) ∧ (1 ≤ need ∧ need ≤ 5) ∧ (1 ≤ keys.length ∧ keys.length ≤ 5) ∧ Ints w' kv keys ∧ Below w.heap.size w w' := by
  have H := Lib.hid h; clear h
  go_enter Tryd.func36, Tryd.ntmps36
  go_wp2_with fail
  refine (open_any _ _ H.out).mono ?_
  rintro e w1 ⟨rfl, H1, hb1⟩
  have RD := Lib.hid H1
  have B1 := Lib.hid hb1
  clear H1 hb1
  go_wp2_with fail
  refine (drawkeys_any _ _ 9 _ RD.out (by omega) (by omega) (by omega)).mono ?_
  rintro e w2 ⟨g, kv, keys, need, sv, secrets, k2, rfl, hg, hd, hl, hs, hk, _, hK⟩
  have K2 := Lib.hid hK
  clear hK
  go_wp2_with fail
  refine (drawexp_any w.heap.size k2 g 14 _ K2.out.rd (by omega) (by omega) (by omega)).mono ?_
  rintro e w3 ⟨ask, rfl, a0, a1, g3, k3, hk3, r3⟩
  have K3 := Lib.hid (K2.out.draw g3 r3)
  clear g3 r3 K2
  go_wp2
  refine bodyPost_ret (v := .tuple #[.int .i64 g, kv, .int .i64 need, .int .i64 ask]) ?_ rfl ?_
  · simp [results, Tryd.results36, go_sem]
  · exact ⟨g, kv, keys, need, ask, rfl, hd, hl, Ints.of_own K3.out.ok (by unfold maxLen; omega), below_of_grown B1.out K3.out.gr B1.out.size (by omega)⟩

theorem dig_facts (c j : Nat) : ((c / 27 ^ j : Nat) : Int).tmod 3 = (digS c j : Nat) ∧ ((c / 27 ^ j : Nat) : Int).tdiv 3 = ((c / 27 ^ j / 3 : Nat) : Int) ∧ ((c / 27 ^ j / 3 : Nat) : Int).tmod 3 = (digX c j : Nat) ∧ ((c / 27 ^ j : Nat) : Int).tdiv 9 = ((c / 27 ^ j / 9 : Nat) : Int) ∧ ((c / 27 ^ j / 9 : Nat) : Int).tmod 3 = (digT c j : Nat) ∧ ((c / 27 ^ j : Nat) : Int).tdiv 27 = ((c / 27 ^ (j + 1) : Nat) : Int) := by
  unfold digS digX digT
  have e : c / 27 ^ (j + 1) = c / 27 ^ j / 27 := by rw [Nat.pow_succ, Nat.div_div_eq_div_mul]
  rw [e]
  generalize c / 27 ^ j = L
  refine ⟨?_, ?_, ?_, ?_, ?_, ?_⟩
  · rw [Int.tmod_eq_emod_of_nonneg (by omega)]; omega
  · rw [Int.tdiv_eq_ediv_of_nonneg (by omega)]; omega
  · rw [Int.tmod_eq_emod_of_nonneg (by omega)]; omega
  · rw [Int.tdiv_eq_ediv_of_nonneg (by omega)]; omega
  · rw [Int.tmod_eq_emod_of_nonneg (by omega)]; omega
  · rw [Int.tdiv_eq_ediv_of_nonneg (by omega)]; omega

/-- While something is said in a talk: nothing yet, the number made, appended, stored. -/
def Zm (W : World) (N : Nat) (q : Int) (sv xv tv : Value) (ss xs ts : List Int) (y : Int) (z : Option (Nat ⊕ (Value × Bool))) (w' : World) : Prop := match z with
  | none => S3 W N q sv xv tv ss xs ts w'
  | some (.inl M) => S3 W N q sv xv tv ss xs ts w' ∧ Box w' M [.int .i64 y]
  | some (.inr (v', false)) => ∃ wb, S3 W N q sv xv tv ss xs ts wb ∧ Own w' (N + 1) v' (ss ++ [y]) ∧ wb.grownBy w' sv.ownBlock ∧ (v'.ownBlock = sv.ownBlock ∨ ∃ b, v'.ownBlock = some b ∧ wb.heap.size ≤ b)
  | some (.inr (v', true)) => S3 W N q v' xv tv (ss ++ [y]) xs ts w'
theorem Zm.bl {W : World} {N : Nat} {q : Int} {sv xv tv : Value} {ss xs ts : List Int} {y : Int} : ∀ {z : Option (Nat ⊕ (Value × Bool))} {w' : World}, Zm W N q sv xv tv ss xs ts y z w' → Below W.heap.size W w'
  | none, _, h => S3.bl h
  | some (.inl _), _, h => S3.bl h.1
  | some (.inr (_, false)), _, ⟨_, h, _, h3, _⟩ => h.bl_app h.s (by have := h.n0; omega) h3
  | some (.inr (_, true)), _, h => S3.bl h

set_option maxRecDepth 20000 in
set_option maxHeartbeats 3200000 in
theorem lSomeMany_walk (s : Value) (w : World) (h : CodeIn w s) (G : Gr w) : Calls Tryd.prog 9 #[s] w fun e w' => e = .returned (.bool true) ∧ Below w.heap.size w w' := by
  obtain ⟨a0, len0, cap0, rfl⟩ := h.slice
  have H := Lib.hid h; clear h
  have G0 := Lib.hid G; clear G
  by_cases hl : 1048576 < len0
  · go_enter Tryd.func9, Tryd.ntmps9
    go_wp2
    go_ret
    exact ⟨rfl, Below.refl _ _⟩
  go_enter Tryd.func9, Tryd.ntmps9
  go_wp2_with fail
  refine (drawSomeMany_any _ _ H.out).mono ?_
  rintro e w1 ⟨g, kv, keys, need, ask, rfl, hd, hlen, hI, hb⟩
  obtain ⟨ka, kc, rfl, _⟩ := hI.opened
  obtain ⟨m, hm⟩ : ∃ m, keys.length = m := ⟨_, rfl⟩
  have HM := Lib.hid hm
  have FB := Lib.hid (show ∀ w', Below w1.heap.size w1 w' → (Gr w' ∧ Ints w' (.slice ka keys.length kc) keys) ∧ Below w.heap.size w w' from fun w' hb' => ⟨⟨G0.out.on (Below.on hb hb'), hI.below hb'⟩, Below.on hb hb'⟩)
  rw [hm] at FB hlen ⊢
  have T1 := Lib.hid (Below.refl w1.heap.size w1)
  clear hI hb hm
  obtain ⟨M, hM⟩ : ∃ M, smyM g keys need ask = M := ⟨_, rfl⟩
  have HMM := Lib.hid hM
  have hMn : (M != M) = false := by simp
  clear hM
  go_wp2_with fail
  refine (ismy_any g need ask _ keys _ (FB.out _ T1.out).1.1 (FB.out _ T1.out).1.2).mono ?_
  rintro e w2 ⟨rfl, hb⟩
  rw [HMM.out]
  have T2 := Lib.hid (Below.on T1.out hb)
  clear hb
  go_wp2_with fail
  refine (ssmy_any g need ask _ keys _ (FB.out _ T2.out).1.2).mono ?_
  rintro e w3 ⟨rfl, hb⟩
  rw [HMM.out]
  have T3 := Lib.hid (Below.on T2.out hb)
  clear hb T1 T2
  cases hv : (kysB g keys need && exB g ask)
  · obtain rfl : M = -1 := by rw [← HMM.out]; unfold smyM; rw [hv]; rfl
    clear hv HMM
    go_wp2_with fail
    refine (alive_any _ (FB.out _ T3.out).1.1).mono ?_
    rintro e wz ⟨rfl, rfl⟩
    go_wp2
    go_ret
    exact ⟨rfl, (FB.out _ T3.out).2⟩
  · obtain ⟨hk, hx⟩ : kysB g keys need = true ∧ exB g ask = true := by simpa using hv
    obtain ⟨M3, M9⟩ := many_big hk hx
    rw [HMM.out] at M3 M9
    have hM0 : ¬ M < 0 := by omega
    have hge : decide (M ≥ 3) = true := by simpa using M3
    clear hv
    by_cases hg : g = 0
    case neg =>
      have hgn : (g != 0) = true := by simpa using hg
      clear hg hk hx
      go_wp2
      go_ret
      exact ⟨rfl, (FB.out _ T3.out).2⟩
    subst hg
    by_cases h2 : m ≤ 2
    case neg =>
      have hm2 : (m : Int) > 2 := by omega
      clear hk hx
      go_wp2
      go_ret
      exact ⟨rfl, (FB.out _ T3.out).2⟩
    have hm2 : ¬ (m : Int) > 2 := by omega
    have HCM := Lib.hid (show (cntM keys need ask m (27 ^ m) : Int) = M by rw [← HMM.out, ← many_is hk hx (by rw [HM.out]; exact h2), HM.out])
    clear hk hx
    go_wp2_with fail
    refine (sels_any 0 _).mono ?_
    rintro e w4 ⟨ev, rfl, ho, hb⟩
    obtain ⟨EA, EC, e1⟩ := own_slice' ho (by rw [els0]; decide)
    rw [els0] at ho e1
    subst e1
    have FE := Lib.hid (show ∀ w', Below w4.heap.size w4 w' → (∀ d, d < 3 → w'.cell? ⟨EA, d, none⟩ = some (.int .i64 (e3 d))) ∧ Below w3.heap.size w3 w' from fun w' hb' => ⟨fun d hd => ((own_below ho hb').set rfl hd 0).1.2, Below.on hb hb'⟩)
    have T4 := Lib.hid (Below.refl w4.heap.size w4)
    clear ho hb
    obtain ⟨PW, hPW⟩ : ∃ f : Nat → Nat, f = fun j => 27 ^ j := ⟨_, rfl⟩
    have HP0 := Lib.hid (show PW 0 = 1 by rw [hPW])
    have HPS := Lib.hid (show ∀ j, PW (j + 1) = PW j * 27 from fun j => by rw [hPW]; exact Nat.pow_succ 27 j)
    have HPB := Lib.hid (show ∀ j, j ≤ 2 → PW j ≤ 729 from fun j hj => by rw [hPW]; exact Nat.pow_le_pow_right (n := 27) (by omega) hj)
    have HPM := Lib.hid (show PW m = 27 ^ m by rw [hPW])
    clear hPW
    skip
    go_wp2
    go_loopw [9, 10] (fun al i wr => ∃ j : Nat, j ≤ m ∧ i = .int .i64 j ∧ al = .int .i64 (PW j : Nat) ∧ Hid (Below w4.heap.size w4 wr)) (fun _ i _ => m - (intOf i).toNat)
    case atStart => exact ⟨0, by omega, rfl, by rw [HP0.out]; rfl, T4⟩
    case round =>
      obtain ⟨j, hj, rfl, rfl, hB⟩ := hrel
      obtain ⟨wo, rfl⟩ : ∃ wo : World, wo = wr := ⟨_, rfl⟩
      have hpb := HPB.out j (by omega)
      by_cases hjn : j < m
      · have hj1 : (j : Int) < (m : Int) := by omega
        have hst := HPS.out j
        go_wp2
        go_roundw
        case rel => exact ⟨j + 1, by omega, by go_num, by rw [hst]; go_num, hB⟩
        case measure => simp [intOf]; omega
      · obtain rfl : m = j := by omega
        have hj1 : ¬ (m : Int) < (m : Int) := by omega
        obtain ⟨A, hA⟩ : ∃ A, PW m = A := ⟨_, rfl⟩
        rw [hA] at hpb ⊢
        have HA := Lib.hid (hA.symm.trans HPM.out)
        obtain ⟨CN, hCN⟩ : ∃ f : Nat → Nat, f = cntM keys need ask m := ⟨_, rfl⟩
        have HC0 := Lib.hid (show CN 0 = 0 by rw [hCN]; rfl)
        have HCB := Lib.hid (show ∀ c, CN c ≤ c from fun c => by rw [hCN]; exact cntM_le _ _ _ _ c)
        have HCY := Lib.hid (show ∀ c, someB 0 keys need (mapTo (codS c) m) ask (mapTo (codX c) m) (mapTo (codT c) m) = true → CN (c + 1) = CN c + 1 from fun c h => by rw [hCN]; exact cntM_yes h)
        have HCX := Lib.hid (show ∀ c, someB 0 keys need (mapTo (codS c) m) ask (mapTo (codX c) m) (mapTo (codT c) m) = false → CN (c + 1) = CN c from fun c h => by rw [hCN]; exact cntM_no h)
        have HCE := Lib.hid (show (CN A : Int) = M by rw [hCN, HA.out]; exact HCM.out)
        clear hA hCN HP0 HPS HPB HPM T4
        go_wp2
        go_loopw [11, 12] (fun fo i wr => ∃ c : Nat, c ≤ A ∧ i = .int .i64 c ∧ fo = .int .i64 (CN c : Nat) ∧ Hid (Below w4.heap.size w4 wr)) (fun _ i _ => A - (intOf i).toNat)
        case atStart => exact ⟨0, by omega, rfl, by rw [HC0.out]; rfl, hB⟩
        case round =>
          obtain ⟨c, hc, rfl, rfl, hBC⟩ := hrel
          obtain ⟨wc, rfl⟩ : ∃ wc : World, wc = wr := ⟨_, rfl⟩
          have hcb := HCB.out c
          clear hB
          by_cases hcn : c < A
          · have hc1 : (c : Int) < (A : Int) := by omega
            obtain ⟨FS, hFS⟩ : ∃ f, f = codS c := ⟨_, rfl⟩
            obtain ⟨FX, hFX⟩ : ∃ f, f = codX c := ⟨_, rfl⟩
            obtain ⟨FT, hFT⟩ : ∃ f, f = codT c := ⟨_, rfl⟩
            obtain ⟨LF, hLF⟩ : ∃ f : Nat → Nat, f = fun j => c / 27 ^ j := ⟨_, rfl⟩
            have HDG := Lib.hid (show ∀ j : Nat, ∃ (d0 q1 q2 : Nat) (d1 d2 : Int), d0 < 3 ∧ q1 ≤ 729 ∧ q2 ≤ 729 ∧ (0 ≤ d1 ∧ d1 < 3) ∧ (0 ≤ d2 ∧ d2 < 3) ∧ LF j ≤ 729 ∧ (LF j : Int).tmod 3 = d0 ∧ (LF j : Int).tdiv 3 = q1 ∧ (q1 : Int).tmod 3 = d1 ∧ (LF j : Int).tdiv 9 = q2 ∧ (q2 : Int).tmod 3 = d2 ∧ (LF j : Int).tdiv 27 = (LF (j + 1) : Nat) ∧ LF (j + 1) ≤ 729 ∧ e3 d0 = FS j ∧ d1 = FX j ∧ d2 = FT j from fun j => by
              rw [hLF, hFS, hFX, hFT]
              obtain ⟨f1, f2, f3, f4, f5, f6⟩ := dig_facts c j
              have b0 : c / 27 ^ j ≤ c := Nat.div_le_self _ _
              have b1 : c / 27 ^ (j + 1) ≤ c := Nat.div_le_self _ _
              have b2 : c / 27 ^ j / 3 ≤ c / 27 ^ j := Nat.div_le_self _ _
              have b3 : c / 27 ^ j / 9 ≤ c / 27 ^ j := Nat.div_le_self _ _
              have l0 : digS c j < 3 := dig_lt _
              have l1 : digX c j < 3 := dig_lt _
              have l2 : digT c j < 3 := dig_lt _
              exact ⟨digS c j, c / 27 ^ j / 3, c / 27 ^ j / 9, (digX c j : Nat), (digT c j : Nat), l0, by omega, by omega, ⟨by omega, by omega⟩, ⟨by omega, by omega⟩, by dsimp only; omega, f1, f2, f3, f4, f5, f6, by dsimp only; omega, rfl, rfl, rfl⟩)
            have HL0 := Lib.hid (show LF 0 = c by rw [hLF]; simp)
            have HMS := Lib.hid (fun k => mapTo_succ FS k)
            have HMX := Lib.hid (fun k => mapTo_succ FX k)
            have HMT := Lib.hid (fun k => mapTo_succ FT k)
            have HM0 := Lib.hid (show ∀ f, mapTo f 0 = [] from fun _ => rfl)
            have HMLS := Lib.hid (mapTo_len FS)
            have HMLX := Lib.hid (mapTo_len FX)
            have HMLT := Lib.hid (mapTo_len FT)
            have HCYc := Lib.hid (show someB 0 keys need (mapTo FS m) ask (mapTo FX m) (mapTo FT m) = true → CN (c + 1) = CN c + 1 by rw [hFS, hFX, hFT]; exact HCY.out c)
            have HCXc := Lib.hid (show someB 0 keys need (mapTo FS m) ask (mapTo FX m) (mapTo FT m) = false → CN (c + 1) = CN c by rw [hFS, hFX, hFT]; exact HCX.out c)
            clear hFS hFX hFT hLF
            have S0 := Lib.hid (show S3 wc wc.heap.size ask (.slice none 0 0) (.slice none 0 0) (.slice none 0 0) [] [] [] (wc.alloc (.cells #[.slice none 0 0, .int .i64 ask, .slice none 0 0, .slice none 0 0] 24)) from ⟨below_grow _ _, Nat.le_refl _, Box.made wc _ _, World.ownsRow_nil _ _ _ _, World.ownsRow_nil _ _ _ _, World.ownsRow_nil _ _ _ _, fun k hk => by simp [Value.ownBlock] at hk, fun k hk => by simp [Value.ownBlock] at hk, fun k hk => by simp [Value.ownBlock] at hk⟩)
            go_wp2
            go_loopw [14, 15] (fun le i wr => ∃ (j : Nat) (sv xv tv : Value), j ≤ m ∧ i = .int .i64 j ∧ le = .int .i64 (LF j : Nat) ∧ Hid (S3 wc wc.heap.size ask sv xv tv (mapTo FS j) (mapTo FX j) (mapTo FT j) wr)) (fun _ i _ => m - (intOf i).toNat)
            case atStart => exact ⟨0, _, _, _, by omega, rfl, by rw [HL0.out], by rw [HM0.out, HM0.out, HM0.out]; exact S0⟩
            case round =>
              clear S0
              obtain ⟨j, sv, xv, tv, hj, rfl, rfl, hS⟩ := hrel
              obtain ⟨wi, rfl⟩ : ∃ wi : World, wi = wr := ⟨_, rfl⟩
              by_cases hjn : j < m
              · have hj1 : (j : Int) < (m : Int) := by omega
                obtain ⟨d0, q1, q2, d1, d2, l0, b1, b2, ⟨p1, p2⟩, ⟨p3, p4⟩, bL, t1, t2, t3, t4, t5, t6, bM, v0, v1, v2⟩ := HDG.out j
                have HV0 := Lib.hid v0
                have HV1 := Lib.hid v1
                have HV2 := Lib.hid v2
                obtain ⟨L, hL⟩ : ∃ L, LF j = L := ⟨_, rfl⟩
                rw [hL] at t1 t2 t4 t6 bL ⊢
                obtain ⟨L2, hL2⟩ : ∃ L, LF (j + 1) = L := ⟨_, rfl⟩
                rw [hL2] at t6 bM
                have HL2 := Lib.hid hL2
                clear v0 v1 v2 hL hL2
                have hl0 : (d0 : Int) < 3 := by omega
                go_upto_region 26 with (fail)
                apply wp_region_H (Z := Option (Nat ⊕ (Value × Bool))) (S := fun k => k == 1 || k == 7 || k == 8 || k == 10) (C := fun z w' => Hid (Zm wc wc.heap.size ask sv xv tv (mapTo FS j) (mapTo FX j) (mapTo FT j) (e3 d0) z w')) [0, 2, 3, 4, 5, 6] none
                · kernel_rfl
                · kernel_rfl
                · kernel_rfl
                · exact ⟨rfl, rfl, rfl, rfl, rfl, rfl, trivial⟩
                · rfl
                · decide
                · exact Lib.hid (hS.out.on (Below.refl _ _).drew)
                · intro z
                  dsimp only [pickL, nthO]
                  repeat (first | go_big_quiet_skip | (go_big_quiet_want; go_big_quiet_op; first | go_big_quiet_on | (refine ⟨_, fun _ _ => rfl, ?_⟩; go_big_quiet_on)))
                  go_big_quiet_want
                  go_big_quiet_op
                  refine ⟨.int .i64 (e3 d0), fun w' hw' => ?_, ?_⟩
                  · have q0 := (FE.out w' (Below.on hBC.out (Zm.bl hw'.out))).1 d0 l0
                    simp [go_sem, q0]
                  go_big_quiet_on
                  repeat (first | go_big_quiet_skip | (go_big_quiet_want; go_big_quiet_op; first | go_big_quiet_on | (refine ⟨_, fun _ _ => rfl, ?_⟩; go_big_quiet_on)))
                  exact wpQuiet_nil rfl
                · skip
                  refine wpAnyH_two 1 7 (by kernel_rfl) ?_ ?_
                  · refine hOp_special (d := some 78) rfl rfl rfl (by kernel_rfl) fun wl hl => ⟨sv, wl, none, by have q := S3.box (show S3 _ _ _ _ _ _ _ _ _ _ from hl.out); have q0 := q.cell 0; simp at q0; simp [go_sem, q0], hl, ?_⟩
                    clear hl
                    refine wpAnyH_special (i := 7) (d := some 84) rfl (by kernel_rfl) rfl rfl (by kernel_rfl) fun wa hc => ⟨.slice (some ⟨wa.heap.size, 0, none⟩) 1 1, wa.alloc (.cells #[.int .i64 (e3 d0)] 3), some (.inl wa.heap.size), .inl (by kernel_rfl), Lib.hid ⟨S3.on (show S3 _ _ _ _ _ _ _ _ _ _ from hc.out) (below_grow _ _), Box.made wa [.int .i64 (e3 d0)] _⟩, ?_⟩
                    clear hc
                    refine wpAnyH_app2 (i := 8) (d := some 85) (v := sv) (xs := mapTo FS j) (y := e3 d0) (B := wc.heap.size + 1) (N := wa.heap.size) (.tmp 78) (.tmp 84) rfl (by kernel_rfl) rfl rfl (by kernel_rfl) rfl rfl rfl fun wb hc => ⟨hc.out.1.s, by rw [HMLS.out]; omega, hc.out.1.box.lt, hc.out.2, fun v' wd o4 g4 k4 => ⟨some (.inr (v', false)), Lib.hid ⟨wb, hc.out.1, o4, g4, k4⟩, ?_⟩⟩
                    clear hc g4 k4
                    obtain ⟨va, vc, hv'⟩ := Own.form o4
                    subst hv'
                    clear o4
                    refine takeH (i := 9) (d := some 86) (.pointer (some ⟨wc.heap.size, 0, none⟩)) rfl (by kernel_rfl) rfl rfl (by kernel_rfl) (by kernel_rfl) (by kernel_rfl) (fun w => by kernel_rfl) ?_
                    refine wpAnyH_special (i := 10) (d := none) rfl (by kernel_rfl) rfl rfl (by kernel_rfl) fun we he => ?_
                    obtain ⟨wq, s1, s2, s3, s4⟩ := he.out
                    have bx := box_app s1.box s3 s1.s (Nat.lt_succ_self _)
                    have y0 := bx.cell 0; have y1 := bx.frozen 0
                    simp at y0
                    refine ⟨undef, we.setCell ⟨wc.heap.size, 0, none⟩ (.slice va (mapTo FS j ++ [e3 d0]).length vc), some (.inr (.slice va (mapTo FS j ++ [e3 d0]).length vc, true)), .inr ⟨by simp [go_sem, Act.put, y0, y1], rfl⟩, Lib.hid (s1.say s2 s3 s4), ?_⟩
                    clear he s1 s2 s3 s4 bx y0 y1
                    refine ⟨by kernel_rfl, fun wz hz => ?_⟩
                    have S6 := Lib.hid (show S3 wc wc.heap.size ask (.slice va (mapTo FS j ++ [e3 d0]).length vc) xv tv (mapTo FS j ++ [e3 d0]) (mapTo FX j) (mapTo FT j) wz from hz.out)
                    simp only [Act.put, List.setIfInBounds_toArray, List.set_cons_zero, List.set_cons_succ]
                    rw [HV0.out, ← HMS.out, HMLS.out] at S6
                    rw [HV0.out, ← HMS.out, HMLS.out]
                    clear hz hS
                    have a0 := S6.out.box.cell 2
                    have g0_ := S6.out.box.frozen 2
                    simp at a0
                    have ov := S6.out.x
                    have hbx := S6.out.box.lt
                    go_upto_region 28 with (at_builtin; refine wpAppInt rfl _ _ rfl rfl ov (by rw [HMLX.out]; omega) (by omega) rfl ?_)
                    intro v7 w7 o7 g7 k7
                    rw [HV1.out, ← HMX.out] at o7
                    obtain ⟨A7, C7, e7⟩ := Own.form o7
                    rw [HMLX.out] at e7
                    subst e7
                    have hb8 : (w7.heap[wc.heap.size]?) = (wz.heap[wc.heap.size]?) := g7.block _ hbx fun e => by have := (ov.lt _ e.symm).1; omega
                    have ax := (box_same S6.out.box hb8).cell 2
                    have fx := (box_same S6.out.box hb8).frozen 2
                    simp at ax
                    have S7 := Lib.hid (S3.ask (y := _) S6.out (by rw [HMX.out] at o7; exact o7) g7 k7)
                    rw [← HMX.out] at S7
                    clear o7 g7 k7 ov a0 g0_ hbx hb8
                    go_upto_region 28 with (fail)
                    obtain ⟨y7, hy7⟩ : ∃ y, y = w7.setCell ⟨wc.heap.size, 2, none⟩ (.slice A7 (j + 1) C7) := ⟨_, rfl⟩
                    rw [← hy7] at S7 ⊢
                    clear hy7 ax fx
                    have a0 := S7.out.box.cell 3
                    have g0_ := S7.out.box.frozen 3
                    simp at a0
                    have ov := S7.out.t
                    have hbx := S7.out.box.lt
                    go_upto_region 29 with (at_builtin; refine wpAppInt rfl _ _ rfl rfl ov (by rw [HMLT.out]; omega) (by omega) rfl ?_)
                    intro v8 w8 o8 g8 k8
                    rw [HV2.out, ← HMT.out] at o8
                    obtain ⟨A8, C8, e8⟩ := Own.form o8
                    rw [HMLT.out] at e8
                    subst e8
                    have hb8 : (w8.heap[wc.heap.size]?) = (y7.heap[wc.heap.size]?) := g8.block _ hbx fun e => by have := (ov.lt _ e.symm).1; omega
                    have ax := (box_same S7.out.box hb8).cell 3
                    have fx := (box_same S7.out.box hb8).frozen 3
                    simp at ax
                    have S8 := Lib.hid (S3.tell (y := _) S7.out (by rw [HMT.out] at o8; exact o8) g8 k8)
                    rw [← HMT.out] at S8
                    clear o8 g8 k8 ov a0 g0_ hbx hb8
                    go_upto_region 29 with (fail)
                    obtain ⟨y8, hy8⟩ : ∃ y, y = w8.setCell ⟨wc.heap.size, 3, none⟩ (.slice A8 (j + 1) C8) := ⟨_, rfl⟩
                    rw [← hy8] at S8 ⊢
                    clear hy8 ax fx
                    go_wp2
                    go_roundw
                    case rel => exact ⟨j + 1, _, _, _, by omega, by go_num, by rw [HL2.out], S8⟩
                    case measure => simp [intOf]; omega
                  · refine hOp_special (d := some 84) rfl rfl rfl (by kernel_rfl) fun wa hc => ⟨.slice (some ⟨wa.heap.size, 0, none⟩) 1 1, wa.alloc (.cells #[.int .i64 (e3 d0)] 3), some (.inl wa.heap.size), by kernel_rfl, Lib.hid ⟨S3.on (show S3 _ _ _ _ _ _ _ _ _ _ from hc.out) (below_grow _ _), Box.made wa [.int .i64 (e3 d0)] _⟩, ?_⟩
                    clear hc
                    refine wpAnyH_special (i := 1) (d := some 78) rfl (by kernel_rfl) rfl rfl (by kernel_rfl) fun wl hl => ⟨sv, wl, some (.inl wa.heap.size), .inl (by have q0 := hl.out.1.box.cell 0; simp at q0; simp [go_sem, q0]), hl, ?_⟩
                    clear hl
                    refine wpAnyH_app2 (i := 8) (d := some 85) (v := sv) (xs := mapTo FS j) (y := e3 d0) (B := wc.heap.size + 1) (N := wa.heap.size) (.tmp 78) (.tmp 84) rfl (by kernel_rfl) rfl rfl (by kernel_rfl) rfl rfl rfl fun wb hc => ⟨hc.out.1.s, by rw [HMLS.out]; omega, hc.out.1.box.lt, hc.out.2, fun v' wd o4 g4 k4 => ⟨some (.inr (v', false)), Lib.hid ⟨wb, hc.out.1, o4, g4, k4⟩, ?_⟩⟩
                    clear hc g4 k4
                    obtain ⟨va, vc, hv'⟩ := Own.form o4
                    subst hv'
                    clear o4
                    refine takeH (i := 9) (d := some 86) (.pointer (some ⟨wc.heap.size, 0, none⟩)) rfl (by kernel_rfl) rfl rfl (by kernel_rfl) (by kernel_rfl) (by kernel_rfl) (fun w => by kernel_rfl) ?_
                    refine wpAnyH_special (i := 10) (d := none) rfl (by kernel_rfl) rfl rfl (by kernel_rfl) fun we he => ?_
                    obtain ⟨wq, s1, s2, s3, s4⟩ := he.out
                    have bx := box_app s1.box s3 s1.s (Nat.lt_succ_self _)
                    have y0 := bx.cell 0; have y1 := bx.frozen 0
                    simp at y0
                    refine ⟨undef, we.setCell ⟨wc.heap.size, 0, none⟩ (.slice va (mapTo FS j ++ [e3 d0]).length vc), some (.inr (.slice va (mapTo FS j ++ [e3 d0]).length vc, true)), .inr ⟨by simp [go_sem, Act.put, y0, y1], rfl⟩, Lib.hid (s1.say s2 s3 s4), ?_⟩
                    clear he s1 s2 s3 s4 bx y0 y1
                    refine ⟨by kernel_rfl, fun wz hz => ?_⟩
                    have S6 := Lib.hid (show S3 wc wc.heap.size ask (.slice va (mapTo FS j ++ [e3 d0]).length vc) xv tv (mapTo FS j ++ [e3 d0]) (mapTo FX j) (mapTo FT j) wz from hz.out)
                    simp only [Act.put, List.setIfInBounds_toArray, List.set_cons_zero, List.set_cons_succ]
                    rw [HV0.out, ← HMS.out, HMLS.out] at S6
                    rw [HV0.out, ← HMS.out, HMLS.out]
                    clear hz hS
                    have a0 := S6.out.box.cell 2
                    have g0_ := S6.out.box.frozen 2
                    simp at a0
                    have ov := S6.out.x
                    have hbx := S6.out.box.lt
                    go_upto_region 28 with (at_builtin; refine wpAppInt rfl _ _ rfl rfl ov (by rw [HMLX.out]; omega) (by omega) rfl ?_)
                    intro v7 w7 o7 g7 k7
                    rw [HV1.out, ← HMX.out] at o7
                    obtain ⟨A7, C7, e7⟩ := Own.form o7
                    rw [HMLX.out] at e7
                    subst e7
                    have hb8 : (w7.heap[wc.heap.size]?) = (wz.heap[wc.heap.size]?) := g7.block _ hbx fun e => by have := (ov.lt _ e.symm).1; omega
                    have ax := (box_same S6.out.box hb8).cell 2
                    have fx := (box_same S6.out.box hb8).frozen 2
                    simp at ax
                    have S7 := Lib.hid (S3.ask (y := _) S6.out (by rw [HMX.out] at o7; exact o7) g7 k7)
                    rw [← HMX.out] at S7
                    clear o7 g7 k7 ov a0 g0_ hbx hb8
                    go_upto_region 28 with (fail)
                    obtain ⟨y7, hy7⟩ : ∃ y, y = w7.setCell ⟨wc.heap.size, 2, none⟩ (.slice A7 (j + 1) C7) := ⟨_, rfl⟩
                    rw [← hy7] at S7 ⊢
                    clear hy7 ax fx
                    have a0 := S7.out.box.cell 3
                    have g0_ := S7.out.box.frozen 3
                    simp at a0
                    have ov := S7.out.t
                    have hbx := S7.out.box.lt
                    go_upto_region 29 with (at_builtin; refine wpAppInt rfl _ _ rfl rfl ov (by rw [HMLT.out]; omega) (by omega) rfl ?_)
                    intro v8 w8 o8 g8 k8
                    rw [HV2.out, ← HMT.out] at o8
                    obtain ⟨A8, C8, e8⟩ := Own.form o8
                    rw [HMLT.out] at e8
                    subst e8
                    have hb8 : (w8.heap[wc.heap.size]?) = (y7.heap[wc.heap.size]?) := g8.block _ hbx fun e => by have := (ov.lt _ e.symm).1; omega
                    have ax := (box_same S7.out.box hb8).cell 3
                    have fx := (box_same S7.out.box hb8).frozen 3
                    simp at ax
                    have S8 := Lib.hid (S3.tell (y := _) S7.out (by rw [HMT.out] at o8; exact o8) g8 k8)
                    rw [← HMT.out] at S8
                    clear o8 g8 k8 ov a0 g0_ hbx hb8
                    go_upto_region 29 with (fail)
                    obtain ⟨y8, hy8⟩ : ∃ y, y = w8.setCell ⟨wc.heap.size, 3, none⟩ (.slice A8 (j + 1) C8) := ⟨_, rfl⟩
                    rw [← hy8] at S8 ⊢
                    clear hy8 ax fx
                    go_wp2
                    go_roundw
                    case rel => exact ⟨j + 1, _, _, _, by omega, by go_num, by rw [HL2.out], S8⟩
                    case measure => simp [intOf]; omega
              · obtain rfl : m = j := by omega
                have hj1 : ¬ (m : Int) < (m : Int) := by omega
                obtain ⟨A1, C1, e1⟩ := Own.form hS.out.s
                obtain ⟨A2, C2, e2⟩ := Own.form hS.out.x
                obtain ⟨A3, C3, e3_⟩ := Own.form hS.out.t
                rw [HMLS.out] at e1; rw [HMLX.out] at e2; rw [HMLT.out] at e3_
                subst e1 e2 e3_
                have BW := Lib.hid (show Below w4.heap.size w4 wi from Below.on hBC.out hS.out.bl)
                have FF := Lib.hid (FB.out _ (Below.on T3.out (FE.out _ BW.out).2))
                have q0 := hS.out.box.cell 0; have q1 := hS.out.box.cell 1; have q2_ := hS.out.box.cell 2; have q3 := hS.out.box.cell 3
                simp at q0 q1 q2_ q3
                obtain ⟨bb, hbb⟩ : ∃ b, someB 0 keys need (mapTo FS m) ask (mapTo FX m) (mapTo FT m) = b := ⟨_, rfl⟩
                have HBB := Lib.hid hbb
                clear hbb
                go_wp2_with fail
                refine (isome_any 0 need _ keys _ ask _ _ (mapTo FS m) (mapTo FX m) (mapTo FT m) _ FF.out.1.1 FF.out.1.2 (Ints.of_own hS.out.s (by rw [HMLS.out]; unfold maxLen; omega)) (Ints.of_own hS.out.x (by rw [HMLX.out]; unfold maxLen; omega)) (Ints.of_own hS.out.t (by rw [HMLT.out]; unfold maxLen; omega))).mono ?_
                rintro e w9 ⟨rfl, hb⟩
                rw [HBB.out]
                have B9 := Lib.hid (Below.on BW.out hb)
                clear hb q0 q1 q2_ q3 hS BW FF
                cases bb
                · have HST := Lib.hid (HCXc.out HBB.out)
                  go_wp2
                  go_roundw
                  case rel => exact ⟨c + 1, by omega, by go_num, by rw [HST.out], B9⟩
                  case measure => simp [intOf]; omega
                · have HST := Lib.hid (HCYc.out HBB.out)
                  go_wp2
                  go_roundw
                  case rel => exact ⟨c + 1, by omega, by go_num, by rw [HST.out]; go_num, B9⟩
                  case measure => simp [intOf]; omega
          · obtain rfl : A = c := by omega
            have hc1 : ¬ (A : Int) < (A : Int) := by omega
            have hce := HCE.out
            have heq : (((CN A : Nat) : Int) == M) = true := by rw [hce]; simp
            clear hce
            go_wp2
            go_ret
            exact ⟨rfl, (FB.out _ (Below.on T3.out (FE.out _ hBC.out).2)).2⟩
end Go.Proofs.YtacalanlepjljaaDoor
