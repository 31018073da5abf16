/- spec: KeptBy. -/
import Derived.Test.YtahegppdfcndkaaDoorHrdS
namespace Go.Proofs.YtahegppdfcndkaaDoor
open Go.RowKit

set_option maxRecDepth 20000 in
set_option maxHeartbeats 6400000 in
theorem skept_any (g s : Int) (v : Value) (l : List Int) (w : World) (h : Ints w v l) : Calls Tryd.prog 14 #[.int .i64 g, .int .i64 s, v] w fun e w' => ∃ u m, e = .returned (.tuple #[u, .int .i64 m]) ∧ OwnT w' w.heap.size u (qOf g l) (keptAll g s l) ∧ m = keptN g s l ∧ Below w.heap.size w w' := by
  have HSS := Lib.hid sorted_any
  have HH := Lib.hid h
  obtain ⟨a, c, rfl, k1⟩ := h.opened
  clear h k1
  obtain ⟨Q, hQ⟩ : ∃ Q, qOf g l = Q := ⟨_, rfl⟩
  have MM0 : Hid (Sw w a c l (.slice (some ⟨w.heap.size, 0, none⟩) 0 0) Q [] (w.alloc (.cells #[] 37))) := Lib.hid ⟨below_alloc _ _, HH.out.below (below_alloc _ _), ownT_made9 _ _⟩
  cases h2 : askB g l
  · have HX := Lib.hid (kept_no2 (k := s) h2)
    have H2 := Lib.hid h2
    rw [HX.out.1, hQ]
    clear h2 hQ
    go_enter Tryd.func14, Tryd.ntmps14
    go_wp2_with fail
    refine (sask_any g _ l _ MM0.out.ls).mono ?_
    rintro e w1 ⟨rfl, hb⟩
    rw [H2.out]
    have MM1 := Lib.hid (MM0.out.on hb)
    clear hb MM0
    go_wp2
    refine bodyPost_ret (v := .tuple #[.slice (some ⟨w.heap.size, 0, none⟩) 0 0, .int .i64 (-1)]) ?_ rfl ?_
    rotate_left
    · exact ⟨_, _, rfl, MM1.out.own, HX.out.2.symm, MM1.out.be⟩
    · simp [results, Tryd.results14, go_sem]
  cases h1 : elB g s
  · have HX := Lib.hid (kept_no1 (l := l) h1)
    have H1 := Lib.hid h1
    have H2 := Lib.hid h2
    rw [HX.out.1, hQ]
    clear h1 h2 hQ
    go_enter Tryd.func14, Tryd.ntmps14
    go_wp2_with fail
    refine (sask_any g _ l _ MM0.out.ls).mono ?_
    rintro e w1 ⟨rfl, hb⟩
    rw [H2.out]
    have MM1 := Lib.hid (MM0.out.on hb)
    clear hb MM0
    go_wp2_with fail
    refine (sel_any g s _).mono ?_
    rintro e w2 ⟨rfl, hb⟩
    rw [H1.out]
    have MM2 := Lib.hid (MM1.out.on hb)
    clear hb MM1
    go_wp2
    refine bodyPost_ret (v := .tuple #[.slice (some ⟨w.heap.size, 0, none⟩) 0 0, .int .i64 (-1)]) ?_ rfl ?_
    rotate_left
    · exact ⟨_, _, rfl, MM2.out.own, HX.out.2.symm, MM2.out.be⟩
    · simp [results, Tryd.results14, go_sem]
  obtain ⟨g0, g4⟩ := elB_group h1
  obtain ⟨q, hq, q3, q23⟩ := ord_of g0 g4
  have HO := Lib.hid hq
  have hqn : (ord g).toNat = q := by omega
  have hel : (els g).length = q := by have := els_ord g0 g4; omega
  have HX := Lib.hid (show keptAll g s l = sortP (kepTo g s (qOf g l) q q) by rw [(kept_yes h1 h2).1, hqn])
  have HKN := Lib.hid (show keptN g s l = (q : Int) * q by rw [(kept_yes h1 h2).2, hq])
  have H1 := Lib.hid h1
  have H2 := Lib.hid h2
  have HRL := Lib.hid (show (sortP (kepTo g s Q q q)).length = q by
    have := kept_is (Q := Q) h1 fun e he => by rw [← hQ]; exact qOf_ex h2 he
    rw [hqn] at this
    rw [this, rightA_len, hel])
  have HAK := Lib.hid (show ∀ e, elB g e = true → askedB g l e = Q e from fun e he => by rw [← hQ]; exact asked_yes h2 he)
  rw [hQ] at HX ⊢
  have HE := Lib.hid (show ∀ k : Nat, (k : Int) < q → exB g k = true from fun k hk => exB_true.2 ⟨⟨g0, g4⟩, by omega, by omega⟩)
  obtain ⟨x, hx⟩ : ∃ x : Nat → Nat → Int, ∀ i k : Nat, sayUp g s i k = x i k := ⟨_, fun _ _ => rfl⟩
  have HXE := Lib.hid (show ∀ i k, elB g (x i k) = true from fun i k => by rw [← hx]; exact sayUp_el h1)
  obtain ⟨L, hL⟩ : ∃ L : Nat → Nat → List (Int × Int), ∀ i k, L i k = kepTo g s Q q i ++ kepIn g s i Q k := ⟨_, fun _ _ => rfl⟩
  have HL0 := Lib.hid (show L 0 0 = [] by rw [hL]; rfl)
  have HLl := Lib.hid (show ∀ i k, i ≤ q → k ≤ q → (L i k).length < 1000000 from fun i k hi hk => by
    rw [hL, List.length_append]
    have := kepTo_len g s Q q i
    have := kepIn_len g s (i : Int) Q k
    have : i * q ≤ 23 * 23 := Nat.mul_le_mul (by omega) (by omega)
    omega)
  have HLo := Lib.hid (show ∀ i, L i q = L (i + 1) 0 from fun i => by rw [hL, hL, kepTo_succ]; simp [kepIn_zero])
  have HLy := Lib.hid (show ∀ i k : Nat, Q (x i k) = i → L i (k + 1) = L i k ++ [(x i k, (k : Int))] from fun i k h => by rw [hL, hL, kepIn_yes (by rw [hx]; exact h), hx]; simp)
  have HLz := Lib.hid (show ∀ i k : Nat, ¬ Q (x i k) = i → L i (k + 1) = L i k from fun i k h => by rw [hL, hL, kepIn_no (by rw [hx]; exact h)])
  have HT' : Hid (∀ (i k : Nat) (_ : (i : Int) < q) (_ : (k : Int) < q) (w' : World), Calls Tryd.prog 41 #[.int .i64 g, .int .i64 s, .int .i64 i, .int .i64 k] w' fun e w'' => e = .returned (.tuple #[.agg #[.int .i64 (x i k), .int .i64 (i : Int), .int .i64 (k : Int)], .bool true]) ∧ Below w'.heap.size w' w'') :=
    Lib.hid (fun i k hi hk w' => by have := smade_yes g s i k w' H1.out (HE.out i hi) (HE.out k hk); rwa [hx] at this)
  obtain ⟨R, hR⟩ : ∃ R, sortP (kepTo g s Q q q) = R := ⟨_, rfl⟩
  have HR := Lib.hid (show sortP (L q 0) = R by rw [hL, kepIn_zero, List.append_nil]; exact hR)
  rw [hR] at HX HRL
  have HLq := Lib.hid (show (L q 0).length = q by have := HRL.out; rw [← HR.out, sortP_len] at this; exact this)
  rw [HX.out, HKN.out]
  clear hq hL hx hQ hR HX h1 h2 hqn hel HKN HRL g0 g4
  go_enter Tryd.func14, Tryd.ntmps14
  go_wp2_with fail
  refine (sask_any g _ l _ MM0.out.ls).mono ?_
  rintro e w1 ⟨rfl, hb⟩
  rw [H2.out]
  have MM1 := Lib.hid (MM0.out.on hb)
  clear hb MM0
  go_wp2_with fail
  refine (sel_any g s _).mono ?_
  rintro e w2 ⟨rfl, hb⟩
  rw [H1.out]
  have MM2 := Lib.hid (MM1.out.on hb)
  clear hb MM1
  go_wp2
  go_loopw [8, 9, 10] (fun v m n wr => ∃ i : Nat, i ≤ q ∧ n = .int .i64 i ∧ m = .int .i64 ((i * q : Nat) : Int) ∧ Hid (Sw w a c l v Q (L i 0) wr)) (fun _ _ n _ => q - (intOf n).toNat)
  case atStart => exact ⟨0, by omega, rfl, by simp, by rw [HL0.out]; exact MM2⟩
  case round =>
    obtain ⟨i, hi, rfl, rfl, M⟩ := hrel
    obtain ⟨wo, rfl⟩ : ∃ wo : World, wo = wr := ⟨_, rfl⟩
    have MM0 := M
    clear MM2 M
    go_wp2_with fail
    refine (sord_any g _).mono ?_
    rintro e w1 ⟨rfl, hb⟩
    rw [HO.out]
    have MM1 := Lib.hid (MM0.out.on hb)
    clear hb MM0
    by_cases hlt : i < q
    · have hlt1 : (i : Int) < (q : Int) := by omega
      go_wp2
      go_loopw [8, 9, 11] (fun v m n wr => ∃ k : Nat, k ≤ q ∧ n = .int .i64 k ∧ m = .int .i64 ((i * q + k : Nat) : Int) ∧ Hid (Sw w a c l v Q (L i k) wr)) (fun _ _ n _ => q - (intOf n).toNat)
      case atStart => exact ⟨0, by omega, rfl, by simp, MM1⟩
      case round =>
        obtain ⟨k, hk, rfl, rfl, M⟩ := hrel
        obtain ⟨wi, rfl⟩ : ∃ wi : World, wi = wr := ⟨_, rfl⟩
        have MM0 := M
        clear MM1 M
        have hmul : i * q + k < 1000000 := by
          have : i * q ≤ 23 * 23 := Nat.mul_le_mul (by omega) (by omega)
          omega
        obtain ⟨mm, hmm⟩ : ∃ mm, i * q + k = mm := ⟨_, rfl⟩
        have HMM := Lib.hid hmm
        rw [hmm] at hmul ⊢
        clear hmm
        go_wp2_with fail
        refine (sord_any g _).mono ?_
        rintro e w1 ⟨rfl, hb⟩
        rw [HO.out]
        have MM1 := Lib.hid (MM0.out.on hb)
        clear hb MM0
        by_cases hlk : k < q
        · have hlk1 : (k : Int) < (q : Int) := by omega
          go_wp2_with fail
          refine (HT'.out i k (by omega) (by omega) _).mono ?_
          rintro e wt ⟨rfl, hb⟩
          have M3 := Lib.hid (MM1.out.on hb)
          clear hb MM1
          have hbx := Box.made wt [.int .i64 (x i k), .int .i64 (i : Int), .int .i64 (k : Int)] 37
          have M4 := Lib.hid (M3.out.on (below_alloc wt (.cells #[.int .i64 (x i k), .int .i64 (i : Int), .int .i64 (k : Int)] 37)))
          obtain ⟨W4, hW4⟩ : ∃ W4, W4 = wt.alloc (.cells #[.int .i64 (x i k), .int .i64 (i : Int), .int .i64 (k : Int)] 37) := ⟨_, rfl⟩
          rw [show wt.alloc (.cells ([.int .i64 (x i k), .int .i64 (i : Int), .int .i64 (k : Int)] : List Value).toArray 37) = W4 from hW4.symm] at hbx
          rw [← hW4] at M4
          have HW4 := Lib.hid hW4
          clear hW4 M3
          have BX := Lib.hid hbx
          have c0 := hbx.cell 0
          simp at c0
          clear hbx
          go_wp2_with fail
          rw [← HW4.out]
          refine (sasb_any g _ _ l _ M4.out.ls).mono ?_
          rintro e w5 ⟨rfl, hb⟩
          rw [HAK.out _ (HXE.out i k)]
          have M5 := Lib.hid (M4.out.on hb)
          have hbx := BX.out.on hb
          clear hb M4 BX c0
          have c0 := hbx.cell 0
          have c1 := hbx.cell 1
          have c2 := hbx.cell 2
          simp at c0 c1 c2
          clear hbx
          by_cases he : Q (x i k) = i
          · have hq1 : (Q (x i k) == (i : Int)) = true := beq_iff_eq.2 he
            have HE1 := Lib.hid he
            have HLY := Lib.hid (HLy.out i k he)
            clear he
            go_wp2_with (at_builtin; refine wpAppTalk (x := (x i k, (k : Int))) HE1.out rfl _ _ rfl rfl M5.out.own (HLl.out i k (by omega) (by omega)) M5.out.sz rfl ?_)
            intro v' w6 ho hg
            have M6 := Lib.hid (M5.out.app HH.out ho hg)
            clear ho hg M5 c0 c1 c2 hq1
            go_wp2
            go_roundw
            case rel => exact ⟨k + 1, by omega, by go_num, by rw [show i * q + (k + 1) = mm + 1 by have := HMM.out; omega]; go_num, by rw [HLY.out]; exact M6⟩
            case measure => simp [intOf]; omega
          · have hq1 : (Q (x i k) == (i : Int)) = false := beq_eq_false_iff_ne.2 he
            have HLZ := Lib.hid (HLz.out i k he)
            clear he
            go_wp2
            clear c0 c1 c2 hq1
            go_roundw
            case rel => exact ⟨k + 1, by omega, by go_num, by rw [show i * q + (k + 1) = mm + 1 by have := HMM.out; omega]; go_num, by rw [HLZ.out]; exact M5⟩
            case measure => simp [intOf]; omega
        · obtain rfl : k = q := by omega
          have hlk1 : ¬ (k : Int) < (k : Int) := by omega
          go_wp2
          go_roundw
          case rel => exact ⟨i + 1, by omega, by go_num, by rw [show (i + 1) * k = mm by have := HMM.out; rw [Nat.succ_mul]; exact this], by rw [← HLo.out]; exact MM1⟩
          case measure => simp [intOf]; omega
    · obtain rfl : i = q := by omega
      have hlt1 : ¬ (i : Int) < (i : Int) := by omega
      go_wp2_with fail
      refine (HSS.out _ w.heap.size _ Q (L i 0) (by rw [HLq.out]; omega) MM1.out.own).mono ?_
      rintro e ws ⟨vs, rfl, hs, hb⟩
      have BS := Lib.hid (Below.on MM1.out.be hb)
      have OS := Lib.hid (ownT_mono hs MM1.out.sz)
      clear hs hb
      rw [HR.out] at OS
      go_wp2
      refine bodyPost_ret (v := .tuple #[vs, .int .i64 ((i * i : Nat) : Int)]) ?_ rfl ?_
      rotate_left
      · exact ⟨_, _, rfl, OS.out, by simp, BS.out⟩
      · simp [results, Tryd.results14, go_sem]
end Go.Proofs.YtahegppdfcndkaaDoor
