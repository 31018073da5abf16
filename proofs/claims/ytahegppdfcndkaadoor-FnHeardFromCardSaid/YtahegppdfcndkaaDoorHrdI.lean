/- impl: HeardFrom, KeptBy. -/
import Derived.Test.YtahegppdfcndkaaDoorAsI
import Derived.Test.YtahegppdfcndkaaDoorHrdP
namespace Go.Proofs.YtahegppdfcndkaaDoor
open Go.RowKit

theorem Qm.keptBy {w w' : World} {b k : Nat} {g : Int} {l : List Int} {row : Option Nat} (h : Qm w b g l k) (hg : w.grownBy w' row) (hne : some b ≠ row) : Qm w' b g l k := by
  obtain ⟨D, h1, h2, h3⟩ := h
  exact ⟨D, h1.kept hg hne, h2, h3⟩
/-- What is known while the talks are gathered: the map in block b, the list from block B on. -/
structure Hw (w : World) (b B : Nat) (g : Int) (l : List Int) (n : Nat) (v : Value) (Q : Int → Int) (L : List (Int × Int)) (wr : World) : Prop where
  be : Below w.heap.size w wr
  sz : B ≤ wr.heap.size
  lo : w.heap.size ≤ B
  qm : Qm wr b g l n
  bl : b < B
  own : OwnT wr B v Q L
theorem Hw.on {w wr w' : World} {b B : Nat} {g : Int} {l : List Int} {n : Nat} {v : Value} {Q : Int → Int} {L : List (Int × Int)} (h : Hw w b B g l n v Q L wr) (hb : Below wr.heap.size wr w') : Hw w b B g l n v Q L w' :=
  ⟨Below.on h.be hb, Nat.le_trans h.sz hb.size, h.lo, h.qm.on hb, h.bl, ownT_below h.own hb⟩
theorem Hw.app {w wr w' : World} {b B : Nat} {g : Int} {l : List Int} {n : Nat} {v v' : Value} {Q : Int → Int} {L L' : List (Int × Int)} (h : Hw w b B g l n v Q L wr) (ho : OwnT w' B v' Q L') (hg : wr.grownBy w' v.ownBlock) : Hw w b B g l n v' Q L' w' :=
  ⟨h.be.grown hg h.be.size (fun j hj => Nat.le_trans h.lo (h.own.lt j hj).1), Nat.le_trans h.sz hg.size, h.lo, h.qm.keptBy hg (by
    cases hv : v.ownBlock with
    | none => simp
    | some k => have := (h.own.lt k hv).1; have := h.bl; simp; omega), h.bl, ho⟩
theorem ownT_nil (w : World) (B : Nat) (Q : Int → Int) : OwnT w B (.slice none 0 0) Q [] := World.ownsRow_nil _ _ _ _

set_option maxRecDepth 20000 in
set_option maxHeartbeats 3200000 in
theorem iheard_any (g s : Int) (v : Value) (l : List Int) (w : World) (G : Gr w) (h : Ints w v l) : Calls Tryd.prog 6 #[.int .i64 g, .int .i64 s, v] w fun e w' => ∃ u, e = .returned u ∧ OwnT w' w.heap.size u (qOf g l) (heardAll g s l) ∧ Below w.heap.size w w' := by
  have HSC := Lib.hid sort_any
  have HG := Lib.hid G
  have HH := Lib.hid h
  obtain ⟨a, c, rfl, k1⟩ := h.opened
  have HK := Lib.hid k1
  clear G h k1
  cases h1 : exB g s
  · have HX := Lib.hid (heard_no1 (l := l) h1)
    have H1 := Lib.hid h1
    clear h1
    go_enter Tryd.func6, Tryd.ntmps6
    go_wp2_with fail
    refine (iex_b g s _ HG.out).mono ?_
    rintro e w1 ⟨rfl, hb⟩
    rw [H1.out]
    have B1 := Lib.hid (hb)
    clear hb
    go_wp2
    go_ret
    exact ⟨_, rfl, by rw [HX.out]; exact ownT_nil _ _ _, B1.out⟩
  cases h2 : askB g l
  · have HX := Lib.hid (heard_no2 (s := s) h2)
    have H1 := Lib.hid h1
    have H2 := Lib.hid h2
    clear h1 h2
    go_enter Tryd.func6, Tryd.ntmps6
    go_wp2_with fail
    refine (iex_b g s _ HG.out).mono ?_
    rintro e w1 ⟨rfl, hb⟩
    rw [H1.out]
    have B1 := Lib.hid (hb)
    clear hb
    go_wp2_with fail
    refine (iask_any g _ l _ (HG.out.on B1.out) (HH.out.below B1.out)).mono ?_
    rintro e w2 ⟨rfl, hb⟩
    rw [H2.out]
    have B2 := Lib.hid (Below.on B1.out hb)
    clear hb
    go_wp2
    go_ret
    exact ⟨_, rfl, by rw [HX.out]; exact ownT_nil _ _ _, B2.out⟩
  obtain ⟨⟨g0, g4⟩, _⟩ := exB_true.1 h1
  obtain ⟨q, hq, q3, q23⟩ := ord_of g0 g4
  have hqn : (ord g).toNat = q := by omega
  have hel : (els g).length = q := by have := els_ord g0 g4; omega
  have HX := Lib.hid (show heardAll g s l = sortP (heardL g s (qOf g l) q) by rw [heard_yes h1 h2, hqn])
  have H1 := Lib.hid h1
  have H2 := Lib.hid h2
  obtain ⟨Q, hQ⟩ : ∃ Q, qOf g l = Q := ⟨_, rfl⟩
  have HQE := Lib.hid (show ∀ e, elB g e = true → exB g (Q e) = true from fun e he => by rw [← hQ]; exact qOf_ex h2 he)
  have HLK := Lib.hid (show ∀ (w' : World) (b : Nat) (e : Int), Qm w' b g l q → elB g e = true → (Instr.lookup 46 (.map (some b)) (.int .i64 e) false).run Tryd.prog w' = .ok (.int .i64 (Q e)) w' from fun w' b e hm he => by rw [← hQ]; exact Qm.look (by rw [hel]; exact hm) he)
  have HEL := Lib.hid hel
  rw [hQ] at HX ⊢
  obtain ⟨L, hL⟩ : ∃ L : Nat → List (Int × Int), L = heardL g s Q := ⟨_, rfl⟩
  have HLn := Lib.hid (show ∀ n, (L n).length = n from fun n => by rw [hL]; exact heardL_len _ _ _ _)
  have HL0 := Lib.hid (show L 0 = [] by rw [hL]; rfl)
  have HE := Lib.hid (show ∀ k : Nat, (k : Int) < q → exB g k = true from fun k hk => exB_true.2 ⟨⟨g0, g4⟩, by omega, by omega⟩)
  obtain ⟨x, hx⟩ : ∃ x : Nat → Int, ∀ k : Nat, gp g (bas g) (k : Int) = x k := ⟨_, fun _ => rfl⟩
  obtain ⟨y, hy⟩ : ∃ y : Nat → Int, ∀ k : Nat, tellOf g s (k : Int) (Q (x k)) = y k := ⟨_, fun _ => rfl⟩
  have HLs := Lib.hid (show ∀ n, L (n + 1) = L n ++ [(x n, y n)] from fun n => by rw [hL, heardL_succ, hx, hy])
  rw [← hL] at HX
  have HKEY := Lib.hid (show ∀ k : Nat, (k : Int) < q → keyOf g k = x k from fun k hk => by rw [key_yes (HE.out k hk), hx])
  have HXE := Lib.hid (show ∀ k : Nat, (k : Int) < q → elB g (x k) = true from fun k hk => by rw [← HKEY.out k hk]; exact key_el (HE.out k hk))
  have HT' : Hid (∀ (k : Nat) (_ : (k : Int) < q) (w' : World) (_ : Gr w'), Calls Tryd.prog 24 #[.int .i64 g, .int .i64 s, .int .i64 k, .int .i64 (Q (x k))] w' fun e w'' => e = .returned (.tuple #[.agg #[.int .i64 (x k), .int .i64 (Q (x k)), .int .i64 (y k)], .bool true]) ∧ Below w'.heap.size w' w'') :=
    Lib.hid (fun k hk w' G' => by have := italk_yes g s k (Q (x k)) w' G' H1.out (HE.out k hk) (HQE.out _ (HXE.out k hk)); rwa [hx, hy] at this)
  obtain ⟨R, hR⟩ : ∃ R, sortP (L q) = R := ⟨_, rfl⟩
  have HR := Lib.hid hR
  rw [hR] at HX
  rw [HX.out]
  have HQ := Lib.hid hq
  clear hq hL hx hy hQ hR HX h1 h2 hqn hel
  rcases g_cases g0 g4 with rfl | rfl | rfl | rfl <;> clear g0 g4
  all_goals
    have hq := HQ.out
    simp [ord] at hq
    go_enter Tryd.func6, Tryd.ntmps6
    go_wp2_with fail
    refine (iex_b _ s _ HG.out).mono ?_
    rintro e w1 ⟨rfl, hb⟩
    rw [H1.out]
    have B1 := Lib.hid hb
    clear hb
    go_wp2_with fail
    refine (iask_any _ _ l _ (HG.out.on B1.out) (HH.out.below B1.out)).mono ?_
    rintro e w2 ⟨rfl, hb⟩
    rw [H2.out]
    have B2 := Lib.hid (Below.on B1.out hb)
    clear hb
    go_wp2_with fail
    refine (iqs_any _ a c l _ (HG.out.on B2.out) (HK.out.on B2.out) H2.out).mono ?_
    rintro e w3 ⟨b, rfl, hbl, hqm, hb⟩
    rw [HEL.out] at hqm
    have M0 : Hid (Hw w b w3.heap.size _ l q (.slice none 0 0) Q [] w3) := Lib.hid ⟨Below.on B2.out hb, Nat.le_refl _, (Below.on B2.out hb).size, hqm, hbl, ownT_nil _ _ _⟩
    clear hb hqm hbl
    obtain ⟨e0, e1, e2, e3, e4, e5, e6, e7, e8, e9, e10, e11⟩ := HG.out.on M0.out.be
    go_wp2
    go_loopw [8, 29] (fun v n wr => ∃ k : Nat, k ≤ q ∧ n = .int .i64 k ∧ Hid (Hw w b w3.heap.size _ l q v Q (L k) wr)) (fun _ n _ => q - (intOf n).toNat)
    case atStart => exact ⟨0, by omega, rfl, by rw [HL0.out]; exact M0⟩
    case round =>
      obtain ⟨k, hk, rfl, M⟩ := hrel
      obtain ⟨wo, rfl⟩ : ∃ wo : World, wo = wr := ⟨_, rfl⟩
      clear e0 e1 e2 e3 e4 e5 e6 e7 e8 e9 e10 e11 M0
      by_cases hlt : k < q
      · go_wp2_with fail
        refine (ikey_any _ k _ (HG.out.on M.out.be)).mono ?_
        rintro e w4 ⟨rfl, hb⟩
        rw [HKEY.out k (by omega)]
        have M2 := Lib.hid (M.out.on hb)
        clear hb M
        have hlk := HLK.out _ _ _ M2.out.qm (HXE.out k (by omega))
        go_wp2_with fail
        refine (HT'.out k (by omega) _ (HG.out.on M2.out.be)).mono ?_
        rintro e wt ⟨rfl, hb⟩
        have M3 := Lib.hid (M2.out.on hb)
        clear hb M2 hlk
        obtain ⟨⟨c0, c1, c2⟩, _⟩ := box3 (Below.refl (wt.heap.size + 1) (wt.alloc (.cells #[.int .i64 (x k), .int .i64 (Q (x k)), .int .i64 (y k)] 37)))
        have M4 := Lib.hid (M3.out.on (below_alloc wt (.cells #[.int .i64 (x k), .int .i64 (Q (x k)), .int .i64 (y k)] 37)))
        clear M3
        go_wp2_with (at_builtin; refine wpAppTalk (x := (x k, y k)) rfl rfl _ _ rfl rfl M4.out.own (by rw [HLn.out]; omega) M4.out.sz (by simp; rfl) ?_)
        intro v' w5 ho hg
        have M5 := Lib.hid (M4.out.app ho hg)
        clear ho hg M4 c0 c1 c2
        go_wp2
        go_roundw
        case rel => exact ⟨k + 1, by omega, by go_num, by rw [HLs.out]; exact M5⟩
        case measure => simp [intOf]; omega
      · obtain rfl : k = q := by omega
        go_wp2_with fail
        refine (HSC.out _ w3.heap.size _ Q (L k) (by rw [HLn.out]; omega) (by rw [HLn.out]; omega) M.out.sz M.out.own).mono ?_
        rintro e ws ⟨rfl, hs, hg⟩
        have MS := Lib.hid (M.out.app hs hg)
        clear hs hg
        rw [HR.out] at MS
        clear M
        go_wp2
        go_ret
        exact ⟨_, rfl, ownT_mono MS.out.own MS.out.lo, MS.out.be⟩
end Go.Proofs.YtahegppdfcndkaaDoor
