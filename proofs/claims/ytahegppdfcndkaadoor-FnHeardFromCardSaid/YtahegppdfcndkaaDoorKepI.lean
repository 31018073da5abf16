/- impl: KeptBy. -/
import Derived.Test.YtahegppdfcndkaaDoorHrdI
namespace Go.Proofs.YtahegppdfcndkaaDoor
open Go.RowKit


set_option maxRecDepth 20000 in
set_option maxHeartbeats 6400000 in
theorem ikept_any (g s : Int) (v : Value) (l : List Int) (w : World) (G : Gr w) (h : Ints w v l) : Calls Tryd.prog 10 #[.int .i64 g, .int .i64 s, v] w fun e w' => ∃ u m, e = .returned (.tuple #[u, .int .i64 m]) ∧ OwnT w' w.heap.size u (qOf g l) (keptAll g s l) ∧ m = keptN g s l ∧ Below w.heap.size w w' := by
  have HSC := Lib.hid sort_any
  have HG := Lib.hid G
  have HH := Lib.hid h
  obtain ⟨a, c, rfl, k1⟩ := h.opened
  have HK := Lib.hid k1
  clear G h k1
  cases h1 : elB g s
  · have HX := Lib.hid (kept_no1 (l := l) h1)
    have H1 := Lib.hid h1
    clear h1
    go_enter Tryd.func10, Tryd.ntmps10
    go_wp2_with fail
    refine (iel_b g s _ HG.out).mono ?_
    rintro e w1 ⟨rfl, hb⟩
    rw [H1.out]
    have B1 := Lib.hid (hb)
    clear hb
    go_wp2
    refine bodyPost_ret (v := .tuple #[.slice none 0 0, .int .i64 (-1)]) ?_ rfl ?_
    · simp [results, Tryd.results10, go_sem]
    · exact ⟨_, _, rfl, by rw [HX.out.1]; exact ownT_nil _ _ _, HX.out.2.symm, B1.out⟩
  cases h2 : askB g l
  · have HX := Lib.hid (kept_no2 (k := s) h2)
    have H1 := Lib.hid h1
    have H2 := Lib.hid h2
    clear h1 h2
    go_enter Tryd.func10, Tryd.ntmps10
    go_wp2_with fail
    refine (iel_b g s _ HG.out).mono ?_
    rintro e w1 ⟨rfl, hb⟩
    rw [H1.out]
    have B1 := Lib.hid (hb)
    clear hb
    go_wp2_with fail
    refine (iask_any g _ l _ (HG.out.on B1.out) (HH.out.below B1.out)).mono ?_
    rintro e w2 ⟨rfl, hb⟩
    rw [H2.out]
    have B2 := Lib.hid (Below.on B1.out hb)
    clear hb
    go_wp2
    refine bodyPost_ret (v := .tuple #[.slice none 0 0, .int .i64 (-1)]) ?_ rfl ?_
    · simp [results, Tryd.results10, go_sem]
    · exact ⟨_, _, rfl, by rw [HX.out.1]; exact ownT_nil _ _ _, HX.out.2.symm, B2.out⟩
  obtain ⟨g0, g4⟩ := elB_group h1
  obtain ⟨q, hq, q3, q23⟩ := ord_of g0 g4
  have hqn : (ord g).toNat = q := by omega
  have hel : (els g).length = q := by have := els_ord g0 g4; omega
  have HX := Lib.hid (show keptAll g s l = sortP (kepTo g s (qOf g l) q q) by rw [(kept_yes h1 h2).1, hqn])
  have HKN := Lib.hid (show keptN g s l = (q : Int) * q by rw [(kept_yes h1 h2).2, hq])
  have H1 := Lib.hid h1
  have H2 := Lib.hid h2
  obtain ⟨Q, hQ⟩ : ∃ Q, qOf g l = Q := ⟨_, rfl⟩
  have HRL := Lib.hid (show (sortP (kepTo g s Q q q)).length = q by
    have := kept_is (Q := Q) h1 fun e he => by rw [← hQ]; exact qOf_ex h2 he
    rw [hqn] at this
    rw [this, rightA_len, hel])
  have HLK := Lib.hid (show ∀ (w' : World) (b : Nat) (e : Int), Qm w' b g l q → elB g e = true → (Instr.lookup 46 (.map (some b)) (.int .i64 e) false).run Tryd.prog w' = .ok (.int .i64 (Q e)) w' from fun w' b e hm he => by rw [← hQ]; exact Qm.look (by rw [hel]; exact hm) he)
  have HEL := Lib.hid hel
  rw [hQ] at HX ⊢
  have HE := Lib.hid (show ∀ k : Nat, (k : Int) < q → exB g k = true from fun k hk => exB_true.2 ⟨⟨g0, g4⟩, by omega, by omega⟩)
  obtain ⟨x, hx⟩ : ∃ x : Nat → Nat → Int, ∀ i k : Nat, sayUp g s i k = x i k := ⟨_, fun _ _ => rfl⟩
  have HXE := Lib.hid (show ∀ i k, elB g (x i k) = true from fun i k => by rw [← hx]; exact sayUp_el h1)
  obtain ⟨L, hL⟩ : ∃ L : Nat → Nat → List (Int × Int), ∀ i k, L i k = kepTo g s Q q i ++ kepIn g s i Q k := ⟨_, fun _ _ => rfl⟩
  have HL0 := Lib.hid (show L 0 0 = [] by rw [hL]; rfl)
  have HLl := Lib.hid (show ∀ i k, i ≤ q → k ≤ q → (L i k).length < 1000000 from fun i k hi hk => by
    rw [hL, List.length_append]
    have := kepTo_len g s Q q i
    have := kepIn_len g s (i : Int) Q k
    have : i * q ≤ 23 * 23 := Nat.mul_le_mul (by omega) (by omega)
    omega)
  have HLo := Lib.hid (show ∀ i, L i q = L (i + 1) 0 from fun i => by rw [hL, hL, kepTo_succ]; simp [kepIn_zero])
  have HLy := Lib.hid (show ∀ i k : Nat, Q (x i k) = i → L i (k + 1) = L i k ++ [(x i k, (k : Int))] from fun i k h => by rw [hL, hL, kepIn_yes (by rw [hx]; exact h), hx]; simp)
  have HLz := Lib.hid (show ∀ i k : Nat, ¬ Q (x i k) = i → L i (k + 1) = L i k from fun i k h => by rw [hL, hL, kepIn_no (by rw [hx]; exact h)])
  have HT' : Hid (∀ (i k : Nat) (_ : (i : Int) < q) (_ : (k : Int) < q) (w' : World) (_ : Gr w'), Calls Tryd.prog 36 #[.int .i64 g, .int .i64 s, .int .i64 i, .int .i64 k] w' fun e w'' => e = .returned (.tuple #[.agg #[.int .i64 (x i k), .int .i64 (i : Int), .int .i64 (k : Int)], .bool true]) ∧ Below w'.heap.size w' w'') :=
    Lib.hid (fun i k hi hk w' G' => by have := imade_yes g s i k w' G' H1.out (HE.out i hi) (HE.out k hk); rwa [hx] at this)
  obtain ⟨R, hR⟩ : ∃ R, sortP (kepTo g s Q q q) = R := ⟨_, rfl⟩
  have HR := Lib.hid (show sortP (L q 0) = R by rw [hL, kepIn_zero, List.append_nil]; exact hR)
  rw [hR] at HX HRL
  have HLq := Lib.hid (show (L q 0).length = q by have := HRL.out; rw [← HR.out, sortP_len] at this; exact this)
  rw [HX.out, HKN.out]
  have HQ := Lib.hid hq
  clear hq hL hx hQ hR HX h1 h2 hqn hel HKN HRL
  rcases g_cases g0 g4 with rfl | rfl | rfl | rfl <;> clear g0 g4
  all_goals
    have hq := HQ.out
    simp [ord] at hq
    go_enter Tryd.func10, Tryd.ntmps10
    go_wp2_with fail
    refine (iel_b _ s _ HG.out).mono ?_
    rintro e w1 ⟨rfl, hb⟩
    rw [H1.out]
    have B1 := Lib.hid hb
    clear hb
    go_wp2_with fail
    refine (iask_any _ _ l _ (HG.out.on B1.out) (HH.out.below B1.out)).mono ?_
    rintro e w2 ⟨rfl, hb⟩
    rw [H2.out]
    have B2 := Lib.hid (Below.on B1.out hb)
    clear hb
    go_wp2_with fail
    refine (iqs_any _ a c l _ (HG.out.on B2.out) (HK.out.on B2.out) H2.out).mono ?_
    rintro e w3 ⟨b, rfl, hbl, hqm, hb⟩
    rw [HEL.out] at hqm
    have M0 : Hid (Hw w b w3.heap.size _ l q (.slice none 0 0) Q [] w3) := Lib.hid ⟨Below.on B2.out hb, Nat.le_refl _, (Below.on B2.out hb).size, hqm, hbl, ownT_nil _ _ _⟩
    clear hb hqm hbl
    obtain ⟨e0, e1, e2, e3, e4, e5, e6, e7, e8, e9, e10, e11⟩ := HG.out.on M0.out.be
    go_wp2
    go_loopw [9, 10, 32] (fun v m n wr => ∃ i : Nat, i ≤ q ∧ n = .int .i64 i ∧ m = .int .i64 ((i * q : Nat) : Int) ∧ Hid (Hw w b w3.heap.size _ l q v Q (L i 0) wr)) (fun _ _ n _ => q - (intOf n).toNat)
    case atStart => exact ⟨0, by omega, rfl, by simp, by rw [HL0.out]; exact M0⟩
    case round =>
      obtain ⟨i, hi, rfl, rfl, M⟩ := hrel
      obtain ⟨wo, rfl⟩ : ∃ wo : World, wo = wr := ⟨_, rfl⟩
      clear e0 e1 e2 e3 e4 e5 e6 e7 e8 e9 e10 e11 M0
      by_cases hlt : i < q
      · obtain ⟨e0, e1, e2, e3, e4, e5, e6, e7, e8, e9, e10, e11⟩ := HG.out.on M.out.be
        go_wp2
        go_loopw [9, 10, 39] (fun v m n wr => ∃ k : Nat, k ≤ q ∧ n = .int .i64 k ∧ m = .int .i64 ((i * q + k : Nat) : Int) ∧ Hid (Hw w b w3.heap.size _ l q v Q (L i k) wr)) (fun _ _ n _ => q - (intOf n).toNat)
        case atStart => exact ⟨0, by omega, rfl, by simp, M⟩
        case round =>
          obtain ⟨k, hk, rfl, rfl, M1⟩ := hrel
          obtain ⟨wi, rfl⟩ : ∃ wi : World, wi = wr := ⟨_, rfl⟩
          clear e0 e1 e2 e3 e4 e5 e6 e7 e8 e9 e10 e11 M
          have hmul : i * q + k < 1000000 := by
            have : i * q ≤ 23 * 23 := Nat.mul_le_mul (by omega) (by omega)
            omega
          obtain ⟨mm, hmm⟩ : ∃ mm, i * q + k = mm := ⟨_, rfl⟩
          have HMM := Lib.hid hmm
          rw [hmm] at hmul ⊢
          clear hmm
          by_cases hlk : k < q
          · go_wp2_with fail
            refine (HT'.out i k (by omega) (by omega) _ (HG.out.on M1.out.be)).mono ?_
            rintro e wt ⟨rfl, hb⟩
            have M3 := Lib.hid (M1.out.on hb)
            clear hb M1
            obtain ⟨⟨c0, c1, c2⟩, _⟩ := box3 (Below.refl (wt.heap.size + 1) (wt.alloc (.cells #[.int .i64 (x i k), .int .i64 (i : Int), .int .i64 (k : Int)] 37)))
            have M4 := Lib.hid (M3.out.on (below_alloc wt (.cells #[.int .i64 (x i k), .int .i64 (i : Int), .int .i64 (k : Int)] 37)))
            clear M3
            have hlook := HLK.out _ _ _ M4.out.qm (HXE.out i k)
            by_cases he : Q (x i k) = i
            · have hq1 : (Q (x i k) == (i : Int)) = true := beq_iff_eq.2 he
              have HE1 := Lib.hid he
              have HLY := Lib.hid (HLy.out i k he)
              clear he
              go_wp2_with (at_builtin; refine wpAppTalk (x := (x i k, (k : Int))) HE1.out rfl _ _ rfl rfl M4.out.own (HLl.out i k (by omega) (by omega)) M4.out.sz (by simp; rfl) ?_)
              intro v' w5 ho hg
              have M5 := Lib.hid (M4.out.app ho hg)
              clear ho hg M4 c0 c1 c2 hlook hq1
              go_wp2
              go_roundw
              case rel => exact ⟨k + 1, by omega, by go_num, by rw [show i * q + (k + 1) = mm + 1 by have := HMM.out; omega]; go_num, by rw [HLY.out]; exact M5⟩
              case measure => simp [intOf]; omega
            · have hq1 : (Q (x i k) == (i : Int)) = false := beq_eq_false_iff_ne.2 he
              have HLZ := Lib.hid (HLz.out i k he)
              clear he
              go_wp2
              clear c0 c1 c2 hlook hq1
              go_roundw
              case rel => exact ⟨k + 1, by omega, by go_num, by rw [show i * q + (k + 1) = mm + 1 by have := HMM.out; omega]; go_num, by rw [HLZ.out]; exact M4⟩
              case measure => simp [intOf]; omega
          · obtain rfl : k = q := by omega
            go_wp2
            go_roundw
            case rel => exact ⟨i + 1, by omega, by go_num, by rw [show (i + 1) * k = mm by have := HMM.out; rw [Nat.succ_mul]; exact this], by rw [← HLo.out]; exact M1⟩
            case measure => simp [intOf]; omega
      · obtain rfl : i = q := by omega
        go_wp2_with fail
        refine (HSC.out _ w3.heap.size _ Q (L i 0) (by rw [HLq.out]; omega) (by rw [HLq.out]; omega) M.out.sz M.out.own).mono ?_
        rintro e ws ⟨rfl, hs, hg⟩
        have MS := Lib.hid (M.out.app hs hg)
        clear hs hg
        rw [HR.out] at MS
        clear M
        go_wp2
        refine bodyPost_ret (v := .tuple #[u9, .int .i64 ((i * i : Nat) : Int)]) ?_ rfl ?_
        rotate_left
        · exact ⟨_, _, rfl, ownT_mono MS.out.own MS.out.lo, by simp, MS.out.be⟩
        · simp [results, Tryd.results10, go_sem]
end Go.Proofs.YtahegppdfcndkaaDoor
