/- spec: HeardFrom, KeptBy. -/
import Derived.Test.YtahegppdfcndkaaDoorAsS
import Derived.Test.YtahegppdfcndkaaDoorHrdP
import Derived.Test.YtahegppdfcndkaaDoorSrC
namespace Go.Proofs.YtahegppdfcndkaaDoor
open Go.RowKit

theorem ownT_made9 (w : World) (Q : Int → Int) : OwnT (w.alloc (.cells #[] 37)) w.heap.size (.slice (some ⟨w.heap.size, 0, none⟩) 0 0) Q [] := ownT_made w _ rfl Q
/-- What is known while the talks are gathered. -/
structure Sw (w : World) (a : Option Addr) (c : Nat) (l : List Int) (v : Value) (Q : Int → Int) (L : List (Int × Int)) (wr : World) : Prop where
  be : Below w.heap.size w wr
  ls : Ints wr (.slice a l.length c) l
  own : OwnT wr w.heap.size v Q L
theorem Sw.on {w wr w' : World} {a : Option Addr} {c : Nat} {l : List Int} {v : Value} {Q : Int → Int} {L : List (Int × Int)} (h : Sw w a c l v Q L wr) (hb : Below wr.heap.size wr w') : Sw w a c l v Q L w' :=
  ⟨Below.on h.be hb, h.ls.below hb, ownT_below h.own hb⟩
theorem Sw.app {w wr w' : World} {a : Option Addr} {c : Nat} {l : List Int} {v v' : Value} {Q : Int → Int} {L L' : List (Int × Int)} (h : Sw w a c l v Q L wr) (h0 : Ints w (.slice a l.length c) l) (ho : OwnT w' w.heap.size v' Q L') (hg : wr.grownBy w' v.ownBlock) : Sw w a c l v' Q L' w' :=
  have hb := h.be.grown hg h.be.size (fun j hj => (h.own.lt j hj).1)
  ⟨hb, h0.below hb, ho⟩
theorem Sw.sz {w wr : World} {a : Option Addr} {c : Nat} {l : List Int} {v : Value} {Q : Int → Int} {L : List (Int × Int)} (h : Sw w a c l v Q L wr) : w.heap.size ≤ wr.heap.size := h.be.size

set_option maxRecDepth 20000 in
set_option maxHeartbeats 3200000 in
theorem sheard_any (g s : Int) (v : Value) (l : List Int) (w : World) (h : Ints w v l) : Calls Tryd.prog 8 #[.int .i64 g, .int .i64 s, v] w fun e w' => ∃ u, e = .returned u ∧ OwnT w' w.heap.size u (qOf g l) (heardAll g s l) ∧ Below w.heap.size w w' := by
  have HSS := Lib.hid sorted_any
  have HH := Lib.hid h
  obtain ⟨a, c, rfl, k1⟩ := h.opened
  clear h k1
  obtain ⟨Q, hQ⟩ : ∃ Q, qOf g l = Q := ⟨_, rfl⟩
  have M0 : Hid (Sw w a c l (.slice (some ⟨w.heap.size, 0, none⟩) 0 0) Q [] (w.alloc (.cells #[] 37))) := Lib.hid ⟨below_alloc _ _, HH.out.below (below_alloc _ _), ownT_made9 _ _⟩
  obtain ⟨o, ho⟩ : ∃ o, ord g = o := ⟨_, rfl⟩
  have HO := Lib.hid ho
  by_cases hyes : exB g s = true ∧ askB g l = true
  case neg =>
    have HX := Lib.hid (show heardAll g s l = sortP [] by
      rw [sortP_nil]
      cases h1 : exB g s
      · exact heard_no1 h1
      · cases h2 : askB g l
        · exact heard_no2 h2
        · exact absurd ⟨h1, h2⟩ hyes)
    have HN := Lib.hid hyes
    rw [HX.out, hQ]
    clear hyes hQ
    go_enter Tryd.func8, Tryd.ntmps8
    go_wp2
    go_loopw [7, 8] (fun v n wr => n = .int .i64 0 ∧ Hid (Sw w a c l v Q [] wr)) (fun _ _ _ => 0)
    case atStart => exact ⟨rfl, M0⟩
    case round =>
      obtain ⟨rfl, M⟩ := hrel
      obtain ⟨wo, rfl⟩ : ∃ wo : World, wo = wr := ⟨_, rfl⟩
      have MM0 := M
      clear M0 M
      go_wp2_with fail
      refine (sord_any g _).mono ?_
      rintro e w1 ⟨rfl, hb⟩
      rw [HO.out]
      have MM1 := Lib.hid (MM0.out.on hb)
      clear hb MM0
      by_cases h0 : 0 < o
      case neg =>
        go_wp2_with fail
        refine (HSS.out _ w.heap.size _ Q [] (by simp) MM1.out.own).mono ?_
        rintro e ws ⟨vs, rfl, hs, hb⟩
        have BS := Lib.hid (Below.on MM1.out.be hb)
        have OS := Lib.hid (ownT_mono hs MM1.out.sz)
        clear hs hb
        go_wp2
        go_ret
        exact ⟨_, rfl, OS.out, BS.out⟩
      cases h2 : askB g l
      · have H2 := Lib.hid h2
        clear h2
        go_wp2_with fail
        refine (sask_any g _ l _ MM1.out.ls).mono ?_
        rintro e w2 ⟨rfl, hb⟩
        rw [H2.out]
        have MM2 := Lib.hid (MM1.out.on hb)
        clear hb MM1
        go_wp2_with fail
        refine (HSS.out _ w.heap.size _ Q [] (by simp) MM2.out.own).mono ?_
        rintro e ws ⟨vs, rfl, hs, hb⟩
        have BS := Lib.hid (Below.on MM2.out.be hb)
        have OS := Lib.hid (ownT_mono hs MM2.out.sz)
        clear hs hb
        go_wp2
        go_ret
        exact ⟨_, rfl, OS.out, BS.out⟩
      · have H2 := Lib.hid h2
        have h1 : exB g s = false := by
          cases h1 : exB g s
          · rfl
          · exact absurd ⟨h1, h2⟩ HN.out
        have H1 := Lib.hid h1
        clear h1 h2
        go_wp2_with fail
        refine (sask_any g _ l _ MM1.out.ls).mono ?_
        rintro e w2 ⟨rfl, hb⟩
        rw [H2.out]
        have MM2 := Lib.hid (MM1.out.on hb)
        clear hb MM1
        go_wp2_with fail
        refine (sex_any g s _).mono ?_
        rintro e w3 ⟨rfl, hb⟩
        rw [H1.out]
        have MM3 := Lib.hid (MM2.out.on hb)
        clear hb MM2
        go_wp2_with fail
        refine (HSS.out _ w.heap.size _ Q [] (by simp) MM3.out.own).mono ?_
        rintro e ws ⟨vs, rfl, hs, hb⟩
        have BS := Lib.hid (Below.on MM3.out.be hb)
        have OS := Lib.hid (ownT_mono hs MM3.out.sz)
        clear hs hb
        go_wp2
        go_ret
        exact ⟨_, rfl, OS.out, BS.out⟩
  obtain ⟨h1, h2⟩ := hyes
  obtain ⟨⟨g0, g4⟩, _⟩ := exB_true.1 h1
  obtain ⟨q, hq, q3, q23⟩ := ord_of g0 g4
  obtain rfl : o = q := by omega
  obtain ⟨b1, b2⟩ := bas_bd g0 g4
  have hqn : (ord g).toNat = q := by omega
  have HX := Lib.hid (show heardAll g s l = sortP (heardL g s (qOf g l) q) by rw [heard_yes h1 h2, hqn])
  have H1 := Lib.hid h1
  have H2 := Lib.hid h2
  have HGG := Lib.hid (And.intro g0 g4)
  have HBB := Lib.hid (And.intro b1 b2)
  have HQE := Lib.hid (show ∀ e, elB g e = true → exB g (Q e) = true from fun e he => by rw [← hQ]; exact qOf_ex h2 he)
  have HAK := Lib.hid (show ∀ e, elB g e = true → askedB g l e = Q e from fun e he => by rw [← hQ]; exact asked_yes h2 he)
  rw [hQ] at HX ⊢
  obtain ⟨L, hL⟩ : ∃ L : Nat → List (Int × Int), L = heardL g s Q := ⟨_, rfl⟩
  have HLn := Lib.hid (show ∀ n, (L n).length = n from fun n => by rw [hL]; exact heardL_len _ _ _ _)
  have HL0 := Lib.hid (show L 0 = [] by rw [hL]; rfl)
  have HE := Lib.hid (show ∀ k : Nat, (k : Int) < q → exB g k = true from fun k hk => exB_true.2 ⟨⟨g0, g4⟩, by omega, by omega⟩)
  obtain ⟨x, hx⟩ : ∃ x : Nat → Int, ∀ k : Nat, gp g (bas g) (k : Int) = x k := ⟨_, fun _ => rfl⟩
  obtain ⟨y, hy⟩ : ∃ y : Nat → Int, ∀ k : Nat, tellOf g s (k : Int) (Q (x k)) = y k := ⟨_, fun _ => rfl⟩
  have HXG := Lib.hid (show ∀ k : Nat, pw (prm g) (bas g) ((k : Int) % ord g).toNat = x k from hx)
  have HLs := Lib.hid (show ∀ n, L (n + 1) = L n ++ [(x n, y n)] from fun n => by rw [hL, heardL_succ, hx, hy])
  rw [← hL] at HX
  have HXE := Lib.hid (show ∀ k : Nat, elB g (x k) = true from fun k => by rw [← hx]; exact gp_el (bas_el g0 g4) _)
  have HT' : Hid (∀ (k : Nat) (_ : (k : Int) < q) (w' : World), Calls Tryd.prog 30 #[.int .i64 g, .int .i64 s, .int .i64 k, .int .i64 (Q (x k))] w' fun e w'' => e = .returned (.tuple #[.agg #[.int .i64 (x k), .int .i64 (Q (x k)), .int .i64 (y k)], .bool true]) ∧ Below w'.heap.size w' w'') :=
    Lib.hid (fun k hk w' => by have := stalk_yes g s k (Q (x k)) w' H1.out (HE.out k hk) (HQE.out _ (HXE.out k)); rwa [hx, hy] at this)
  obtain ⟨R, hR⟩ : ∃ R, sortP (L q) = R := ⟨_, rfl⟩
  have HR := Lib.hid hR
  rw [hR] at HX
  rw [HX.out]
  clear hq hL hx hy hQ hR HX h1 h2 hqn ho g0 g4 b1 b2
  go_enter Tryd.func8, Tryd.ntmps8
  go_wp2
  go_loopw [7, 8] (fun v n wr => ∃ k : Nat, k ≤ q ∧ n = .int .i64 k ∧ Hid (Sw w a c l v Q (L k) wr)) (fun _ n _ => q - (intOf n).toNat)
  case atStart => exact ⟨0, by omega, rfl, by rw [HL0.out]; exact M0⟩
  case round =>
    obtain ⟨k, hk, rfl, M⟩ := hrel
    obtain ⟨wo, rfl⟩ : ∃ wo : World, wo = wr := ⟨_, rfl⟩
    have MM0 := M
    clear M0 M
    go_wp2_with fail
    refine (sord_any g _).mono ?_
    rintro e w1 ⟨rfl, hb⟩
    rw [HO.out]
    have MM1 := Lib.hid (MM0.out.on hb)
    clear hb MM0
    by_cases hlt : k < q
    · have hlt1 : (k : Int) < (q : Int) := by omega
      go_wp2_with fail
      refine (sask_any g _ l _ MM1.out.ls).mono ?_
      rintro e w2 ⟨rfl, hb⟩
      rw [H2.out]
      have MM2 := Lib.hid (MM1.out.on hb)
      clear hb MM1
      go_wp2_with fail
      refine (sex_any g s _).mono ?_
      rintro e w3 ⟨rfl, hb⟩
      rw [H1.out]
      have MM3 := Lib.hid (MM2.out.on hb)
      clear hb MM2
      go_wp2_with fail
      refine (sbas_any g _).mono ?_
      rintro e w4 ⟨rfl, hb⟩
      have MM4 := Lib.hid (MM3.out.on hb)
      clear hb MM3
      go_wp2_with fail
      refine (spow_any g _ _ _ HGG.out.1 HGG.out.2 (by have := HBB.out; omega) (by have := HBB.out; omega) (by omega) (by omega)).mono ?_
      rintro e w5 ⟨rfl, hb⟩
      rw [HXG.out k]
      have MM5 := Lib.hid (MM4.out.on hb)
      clear hb MM4
      go_wp2_with fail
      refine (sasb_any g _ _ l _ MM5.out.ls).mono ?_
      rintro e w6 ⟨rfl, hb⟩
      rw [HAK.out _ (HXE.out k)]
      have MM6 := Lib.hid (MM5.out.on hb)
      clear hb MM5
      go_wp2_with fail
      refine (HT'.out k hlt1 _).mono ?_
      rintro e wt ⟨rfl, hb⟩
      have M3 := Lib.hid (MM6.out.on hb)
      clear hb MM6
      obtain ⟨⟨c0, c1, c2⟩, _⟩ := box3 (Below.refl (wt.heap.size + 1) (wt.alloc (.cells #[.int .i64 (x k), .int .i64 (Q (x k)), .int .i64 (y k)] 37)))
      have M4 := Lib.hid (M3.out.on (below_alloc wt (.cells #[.int .i64 (x k), .int .i64 (Q (x k)), .int .i64 (y k)] 37)))
      clear M3
      go_wp2_with (at_builtin; refine wpAppTalk (x := (x k, y k)) rfl rfl _ _ rfl rfl M4.out.own (by rw [HLn.out]; omega) M4.out.sz (by simp; rfl) ?_)
      intro v' w7 ho hg
      have M5 := Lib.hid (M4.out.app HH.out ho hg)
      clear ho hg M4 c0 c1 c2
      go_wp2
      go_roundw
      case rel => exact ⟨k + 1, by omega, by go_num, by rw [HLs.out]; exact M5⟩
      case measure => simp [intOf]; omega
    · obtain rfl : k = q := by omega
      have hlt1 : ¬ (k : Int) < (k : Int) := by omega
      go_wp2_with fail
      refine (HSS.out _ w.heap.size _ Q (L k) (by rw [HLn.out]; omega) MM1.out.own).mono ?_
      rintro e ws ⟨vs, rfl, hs, hb⟩
      have BS := Lib.hid (Below.on MM1.out.be hb)
      have OS := Lib.hid (ownT_mono hs MM1.out.sz)
      clear hs hb
      rw [HR.out] at OS
      go_wp2
      go_ret
      exact ⟨_, rfl, OS.out, BS.out⟩
end Go.Proofs.YtahegppdfcndkaaDoor
