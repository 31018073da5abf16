/- spec.TalksTrue, spec.TalksMade over the contract of spec's sort. -/
import Derived.Test.YtacaeoalplggfadDoorRowJ
import Derived.Test.YtacaeoalplggfadDoorTalkS3
namespace Go.Proofs.YtacaeoalplggfadDoor
open Go.RowKit

/-- What is asked of spec.l2Sorted. -/
def SortS : Prop := ∀ (w : World) (B : Nat) (v : Value) (ask : Int) (d : List (Int × Int)), d.length ≤ 23 → OwnT w B v ask d →
  Calls Tryd.prog 30 #[v] w fun e w' => ∃ v', e = .returned v' ∧ OwnT w' w.heap.size v' ask (sortP d) ∧ Below w.heap.size w w'
theorem ownT_made (w : World) (T : TypeId) (hT : T = 35) (ask : Int) : OwnT (w.alloc (.cells #[] T)) w.heap.size (.slice (some ⟨w.heap.size, 0, none⟩) 0 0) ask [] := by
  subst hT
  exact World.ownsRow_made w #[] 0 (Nat.le_refl _) (Nat.zero_le _) rfl
theorem ownT_mono {w : World} {B B' : Nat} {v : Value} {ask : Int} {d : List (Int × Int)} (h : OwnT w B v ask d) (hB : B' ≤ B) : OwnT w B' v ask d := by
  obtain ⟨h1, h2⟩ := h
  refine ⟨h1, ?_⟩
  rcases h2 with h2 | ⟨g, cap, cur, hv, hg, r⟩
  · exact .inl h2
  · exact .inr ⟨g, cap, cur, hv, by omega, r⟩

set_option maxHeartbeats 1600000 in
theorem strue_any (SS : SortS) (g secret ask : Int) (w : World) : Calls Tryd.prog 10 #[.int .i64 g, .int .i64 secret, .int .i64 ask] w fun e w' => ∃ v, e = .returned v ∧ OwnT w' w.heap.size v ask (sortP (trueAll g secret ask)) ∧ Below w.heap.size w w' := by
  have HSS := Lib.hid SS; clear SS
  have HLn : Hid (∀ n, ((trueL g secret ask) n).length = n) := Lib.hid (fun n => trueL_len _ _ _ _)
  by_cases hg : 0 ≤ g ∧ g < 4
  · have hord : 0 < ord g := by have := ord_bd hg.1 hg.2; omega
    cases h1 : exB g secret
    · have HX := Lib.hid (show sortP (trueAll g secret ask) = [] by unfold trueAll; rw [h1, Bool.false_and, if_neg (by decide)]; exact sortP_nil)
      go_enter Tryd.func10, Tryd.ntmps10
      go_wp2
      go_loopw [7, 8] (fun v n wr => n = .int .i64 0 ∧ OwnT wr w.heap.size v ask [] ∧ Below w.heap.size w wr) (fun _ _ _ => 0)
      case atStart => exact ⟨rfl, ownT_made _ _ rfl _, (Below.refl _ _).alloc (Nat.le_refl _) _⟩
      case round =>
        obtain ⟨rfl, hown, hbr⟩ := hrel
        have O0 := Lib.hid hown
        have B0 : Hid (Below w.heap.size w wr) := Lib.hid hbr
        clear hown hbr
        go_wp2_with fail
        refine (sord_any _ _).mono ?_
        rintro e w1 ⟨rfl, hb⟩
        have B1 : Hid (Below w.heap.size w w1) := Lib.hid (B0.out.trans (hb.mono B0.out.size))
        have O1 := Lib.hid (ownT_below O0.out hb)
        clear hb
        go_wp2_with fail
        refine (sex_any _ _ _).mono ?_
        rintro e w2 ⟨rfl, hb⟩
        have B2 : Hid (Below w.heap.size w w2) := Lib.hid (B1.out.trans (hb.mono B1.out.size))
        have O2 := Lib.hid (ownT_below O1.out hb)
        clear hb
        go_wp2_with fail
        refine (HSS.out _ w.heap.size _ ask [] (by first | exact Nat.zero_le _ | (rw [HLn.out]; omega)) O2.out).mono ?_
        rintro e ws ⟨v', rfl, hs, hb⟩
        have hbs : Below w.heap.size w ws := B2.out.trans (hb.mono B2.out.size)
        have hs' := ownT_mono hs B2.out.size
        clear hb hs
        go_wp2
        go_ret
        exact ⟨_, rfl, by rw [HX.out, ← sortP_nil]; exact hs', hbs⟩
    · cases h3 : exB g ask
      · have HX := Lib.hid (show sortP (trueAll g secret ask) = [] by unfold trueAll; rw [h1, h3, Bool.and_false, if_neg (by decide)]; exact sortP_nil)
        go_enter Tryd.func10, Tryd.ntmps10
        go_wp2
        go_loopw [7, 8] (fun v n wr => n = .int .i64 0 ∧ OwnT wr w.heap.size v ask [] ∧ Below w.heap.size w wr) (fun _ _ _ => 0)
        case atStart => exact ⟨rfl, ownT_made _ _ rfl _, (Below.refl _ _).alloc (Nat.le_refl _) _⟩
        case round =>
          obtain ⟨rfl, hown, hbr⟩ := hrel
          have O0 := Lib.hid hown
          have B0 : Hid (Below w.heap.size w wr) := Lib.hid hbr
          clear hown hbr
          go_wp2_with fail
          refine (sord_any _ _).mono ?_
          rintro e w1 ⟨rfl, hb⟩
          have B1 : Hid (Below w.heap.size w w1) := Lib.hid (B0.out.trans (hb.mono B0.out.size))
          have O1 := Lib.hid (ownT_below O0.out hb)
          clear hb
          go_wp2_with fail
          refine (sex_any _ _ _).mono ?_
          rintro e w2 ⟨rfl, hb⟩
          have B2 : Hid (Below w.heap.size w w2) := Lib.hid (B1.out.trans (hb.mono B1.out.size))
          have O2 := Lib.hid (ownT_below O1.out hb)
          clear hb
          go_wp2_with fail
          refine (sex_any _ _ _).mono ?_
          rintro e w3 ⟨rfl, hb⟩
          have B3 : Hid (Below w.heap.size w w3) := Lib.hid (B2.out.trans (hb.mono B2.out.size))
          have O3 := Lib.hid (ownT_below O2.out hb)
          clear hb
          go_wp2_with fail
          refine (HSS.out _ w.heap.size _ ask [] (by first | exact Nat.zero_le _ | (rw [HLn.out]; omega)) O3.out).mono ?_
          rintro e ws ⟨v', rfl, hs, hb⟩
          have hbs : Below w.heap.size w ws := B3.out.trans (hb.mono B3.out.size)
          have hs' := ownT_mono hs B3.out.size
          clear hb hs
          go_wp2
          go_ret
          exact ⟨_, rfl, by rw [HX.out, ← sortP_nil]; exact hs', hbs⟩
      · obtain ⟨i0, hi, hz0, hz1, hz2⟩ := info_parts infoTalk
        obtain ⟨g0, g4⟩ := hg
        obtain ⟨q, hq, q3, q23⟩ := ord_of g0 g4
        have HX := Lib.hid (show trueAll g secret ask = trueL g secret ask q by unfold trueAll; rw [h1, h3, hq]; rfl)
        have HLs := Lib.hid (fun n => trueL_succ g secret ask n)
        have HK := Lib.hid (show ∀ k : Nat, (k : Int) < q → exB g k = true from fun k hk => exB_true.2 ⟨⟨g0, g4⟩, by omega, by omega⟩)
        have HT := Lib.hid (fun (k : Nat) (hk : (k : Int) < q) (w' : World) => stalk_yes g secret k ask w' h1 (HK.out k hk) h3)
        have HQ := Lib.hid hq
        clear hq HK hord
        go_enter Tryd.func10, Tryd.ntmps10
        go_wp2
        go_loopw [7, 8] (fun v n wr => ∃ k : Nat, k ≤ q ∧ n = .int .i64 k ∧ OwnT wr w.heap.size v ask (trueL g secret ask k) ∧ Below w.heap.size w wr) (fun _ n _ => q - (intOf n).toNat)
        case atStart => exact ⟨0, by omega, rfl, ownT_made _ _ rfl _, (Below.refl _ _).alloc (Nat.le_refl _) _⟩
        case round =>
          obtain ⟨k, hk, rfl, hown, hbr⟩ := hrel
          have O0 := Lib.hid hown
          have B0 : Hid (Below w.heap.size w wr) := Lib.hid hbr
          clear hown hbr
          have hln := HLn.out k
          go_wp2_with fail
          refine (sord_any _ _).mono ?_
          rintro e w1 ⟨rfl, hb⟩
          have B1 : Hid (Below w.heap.size w w1) := Lib.hid (B0.out.trans (hb.mono B0.out.size))
          have O1 := Lib.hid (ownT_below O0.out hb)
          clear hb
          rw [HQ.out]
          by_cases hlt : k < q
          · go_wp2_with fail
            refine (sex_any _ _ _).mono ?_
            rintro e w2 ⟨rfl, hb⟩
            have B2 : Hid (Below w.heap.size w w2) := Lib.hid (B1.out.trans (hb.mono B1.out.size))
            have O2 := Lib.hid (ownT_below O1.out hb)
            clear hb
            go_wp2_with fail
            refine (sex_any _ _ _).mono ?_
            rintro e w3 ⟨rfl, hb⟩
            have B3 : Hid (Below w.heap.size w w3) := Lib.hid (B2.out.trans (hb.mono B2.out.size))
            have O3 := Lib.hid (ownT_below O2.out hb)
            clear hb
            go_wp2_with fail
            refine (HT.out k (by omega) _).mono ?_
            rintro e wt ⟨rfl, hb⟩
            have hownt := ownT_below O3.out hb
            have hbt := B3.out.trans (hb.mono B3.out.size)
            clear hb O0 O1 O2 O3
            have hown3 := ownT_below hownt (below_alloc wt (.cells #[.int .i64 (gp g (bas g) (k : Int)), .int .i64 ask, .int .i64 (tellOf g secret (k : Int) ask)] 35))
            have hb3 := hbt.trans ((below_alloc wt (.cells #[.int .i64 (gp g (bas g) (k : Int)), .int .i64 ask, .int .i64 (tellOf g secret (k : Int) ask)] 35)).mono hbt.size)
            obtain ⟨⟨c0, c1, c2⟩, _⟩ := box3 (Below.refl (wt.heap.size + 1) (wt.alloc (.cells #[.int .i64 (gp g (bas g) (k : Int)), .int .i64 ask, .int .i64 (tellOf g secret (k : Int) ask)] 35)))
            have hs4 := hb3.size
            clear hownt hbt
            go_wp2_with (at_builtin; refine wpList_append_own _ rfl _ _ 25 rfl w.heap.size 35 i0 (.agg #[.int .i64 0, .int .i64 0, .int .i64 0]) 3 24 Tryd.underlying25 hi hz0 hz1 hz2 rfl (by decide) _ _ _ rfl (hown3.alloc _) ⟨(wt.alloc (.cells #[.int .i64 (gp g (bas g) (k : Int)), .int .i64 ask, .int .i64 (tellOf g secret (k : Int) ask)] 35)).heap.size, 0, none⟩ 1 1 [.int .i64 (gp g (bas g) (k : Int)), .int .i64 ask, .int .i64 (tellOf g secret (k : Int) ask)] (by simp; rfl) rfl ?c1 ?c2 ?c3 ?c4 ?c5 ?_)
            case c1 =>
              intro j u hj
              match j, hj with
              | 0, hj => simp at hj; subst hj; simp [Addr.add]
              | 1, hj => simp at hj; subst hj; simp [Addr.add]
              | 2, hj => simp at hj; subst hj; simp [Addr.add]
            case c2 => intro u hu; simp at hu; rcases hu with rfl | rfl | rfl <;> rfl
            case c3 => unfold maxLen; omega
            case c4 => omega
            case c5 => simp at hs4 ⊢; omega
            · intro v' w4 hown' hgrow _
              have R := ownT_step hown3 hb3 (by rw [hln]; exact hown') hgrow
              clear hown' hgrow hown3 hb3 c0 c1 c2
              go_wp2
              go_roundw
              case rel => exact ⟨k + 1, by omega, by go_num, by rw [HLs.out]; exact R.1, R.2⟩
              case measure => simp [intOf]; omega
          · obtain rfl : k = q := by omega
            go_wp2_with fail
            refine (HSS.out _ w.heap.size _ ask (trueL g secret ask k) (by first | exact Nat.zero_le _ | (rw [HLn.out]; omega)) O1.out).mono ?_
            rintro e ws ⟨v', rfl, hs, hb⟩
            have hbs : Below w.heap.size w ws := B1.out.trans (hb.mono B1.out.size)
            have hs' := ownT_mono hs B1.out.size
            clear hb hs
            go_wp2
            go_ret
            exact ⟨_, rfl, by rw [HX.out]; exact hs', hbs⟩
  · have hord := ord_none hg
    have HX := Lib.hid (show sortP (trueAll g secret ask) = [] by
      have h1 : exB g secret = false := exB_none hg _
      unfold trueAll; rw [h1, Bool.false_and, if_neg (by decide)]; exact sortP_nil)
    go_enter Tryd.func10, Tryd.ntmps10
    go_wp2
    go_loopw [7, 8] (fun v n wr => n = .int .i64 0 ∧ OwnT wr w.heap.size v ask [] ∧ Below w.heap.size w wr) (fun _ _ _ => 0)
    case atStart => exact ⟨rfl, ownT_made _ _ rfl _, (Below.refl _ _).alloc (Nat.le_refl _) _⟩
    case round =>
      obtain ⟨rfl, hown, hbr⟩ := hrel
      have O0 := Lib.hid hown
      have B0 : Hid (Below w.heap.size w wr) := Lib.hid hbr
      clear hown hbr
      go_wp2_with fail
      refine (sord_any _ _).mono ?_
      rintro e w1 ⟨rfl, hb⟩
      have B1 : Hid (Below w.heap.size w w1) := Lib.hid (B0.out.trans (hb.mono B0.out.size))
      have O1 := Lib.hid (ownT_below O0.out hb)
      clear hb
      go_wp2_with fail
      refine (HSS.out _ w.heap.size _ ask [] (by first | exact Nat.zero_le _ | (rw [HLn.out]; omega)) O1.out).mono ?_
      rintro e ws ⟨v', rfl, hs, hb⟩
      have hbs : Below w.heap.size w ws := B1.out.trans (hb.mono B1.out.size)
      have hs' := ownT_mono hs B1.out.size
      clear hb hs
      go_wp2
      go_ret
      exact ⟨_, rfl, by rw [HX.out, ← sortP_nil]; exact hs', hbs⟩

set_option maxHeartbeats 1600000 in
theorem smadeAll_any (SS : SortS) (g key ask : Int) (w : World) : Calls Tryd.prog 16 #[.int .i64 g, .int .i64 key, .int .i64 ask] w fun e w' => ∃ v, e = .returned v ∧ OwnT w' w.heap.size v ask (sortP (madeAll g key ask)) ∧ Below w.heap.size w w' := by
  have HSS := Lib.hid SS; clear SS
  have HLn : Hid (∀ n, ((madeL g key ask) n).length = n) := Lib.hid (fun n => madeL_len _ _ _ _)
  by_cases hg : 0 ≤ g ∧ g < 4
  · have hord : 0 < ord g := by have := ord_bd hg.1 hg.2; omega
    cases h1 : elB g key
    · have HX := Lib.hid (show sortP (madeAll g key ask) = [] by unfold madeAll; rw [h1, Bool.false_and, if_neg (by decide)]; exact sortP_nil)
      go_enter Tryd.func16, Tryd.ntmps16
      go_wp2
      go_loopw [7, 8] (fun v n wr => n = .int .i64 0 ∧ OwnT wr w.heap.size v ask [] ∧ Below w.heap.size w wr) (fun _ _ _ => 0)
      case atStart => exact ⟨rfl, ownT_made _ _ rfl _, (Below.refl _ _).alloc (Nat.le_refl _) _⟩
      case round =>
        obtain ⟨rfl, hown, hbr⟩ := hrel
        have O0 := Lib.hid hown
        have B0 : Hid (Below w.heap.size w wr) := Lib.hid hbr
        clear hown hbr
        go_wp2_with fail
        refine (sord_any _ _).mono ?_
        rintro e w1 ⟨rfl, hb⟩
        have B1 : Hid (Below w.heap.size w w1) := Lib.hid (B0.out.trans (hb.mono B0.out.size))
        have O1 := Lib.hid (ownT_below O0.out hb)
        clear hb
        go_wp2_with fail
        refine (sel_any _ _ _).mono ?_
        rintro e w2 ⟨rfl, hb⟩
        have B2 : Hid (Below w.heap.size w w2) := Lib.hid (B1.out.trans (hb.mono B1.out.size))
        have O2 := Lib.hid (ownT_below O1.out hb)
        clear hb
        go_wp2_with fail
        refine (HSS.out _ w.heap.size _ ask [] (by first | exact Nat.zero_le _ | (rw [HLn.out]; omega)) O2.out).mono ?_
        rintro e ws ⟨v', rfl, hs, hb⟩
        have hbs : Below w.heap.size w ws := B2.out.trans (hb.mono B2.out.size)
        have hs' := ownT_mono hs B2.out.size
        clear hb hs
        go_wp2
        go_ret
        exact ⟨_, rfl, by rw [HX.out, ← sortP_nil]; exact hs', hbs⟩
    · cases h3 : exB g ask
      · have HX := Lib.hid (show sortP (madeAll g key ask) = [] by unfold madeAll; rw [h1, h3, Bool.and_false, if_neg (by decide)]; exact sortP_nil)
        go_enter Tryd.func16, Tryd.ntmps16
        go_wp2
        go_loopw [7, 8] (fun v n wr => n = .int .i64 0 ∧ OwnT wr w.heap.size v ask [] ∧ Below w.heap.size w wr) (fun _ _ _ => 0)
        case atStart => exact ⟨rfl, ownT_made _ _ rfl _, (Below.refl _ _).alloc (Nat.le_refl _) _⟩
        case round =>
          obtain ⟨rfl, hown, hbr⟩ := hrel
          have O0 := Lib.hid hown
          have B0 : Hid (Below w.heap.size w wr) := Lib.hid hbr
          clear hown hbr
          go_wp2_with fail
          refine (sord_any _ _).mono ?_
          rintro e w1 ⟨rfl, hb⟩
          have B1 : Hid (Below w.heap.size w w1) := Lib.hid (B0.out.trans (hb.mono B0.out.size))
          have O1 := Lib.hid (ownT_below O0.out hb)
          clear hb
          go_wp2_with fail
          refine (sel_any _ _ _).mono ?_
          rintro e w2 ⟨rfl, hb⟩
          have B2 : Hid (Below w.heap.size w w2) := Lib.hid (B1.out.trans (hb.mono B1.out.size))
          have O2 := Lib.hid (ownT_below O1.out hb)
          clear hb
          go_wp2_with fail
          refine (sex_any _ _ _).mono ?_
          rintro e w3 ⟨rfl, hb⟩
          have B3 : Hid (Below w.heap.size w w3) := Lib.hid (B2.out.trans (hb.mono B2.out.size))
          have O3 := Lib.hid (ownT_below O2.out hb)
          clear hb
          go_wp2_with fail
          refine (HSS.out _ w.heap.size _ ask [] (by first | exact Nat.zero_le _ | (rw [HLn.out]; omega)) O3.out).mono ?_
          rintro e ws ⟨v', rfl, hs, hb⟩
          have hbs : Below w.heap.size w ws := B3.out.trans (hb.mono B3.out.size)
          have hs' := ownT_mono hs B3.out.size
          clear hb hs
          go_wp2
          go_ret
          exact ⟨_, rfl, by rw [HX.out, ← sortP_nil]; exact hs', hbs⟩
      · obtain ⟨i0, hi, hz0, hz1, hz2⟩ := info_parts infoTalk
        obtain ⟨g0, g4⟩ := hg
        obtain ⟨q, hq, q3, q23⟩ := ord_of g0 g4
        have HX := Lib.hid (show madeAll g key ask = madeL g key ask q by unfold madeAll; rw [h1, h3, hq]; rfl)
        have HLs := Lib.hid (fun n => madeL_succ g key ask n)
        have HK := Lib.hid (show ∀ k : Nat, (k : Int) < q → exB g k = true from fun k hk => exB_true.2 ⟨⟨g0, g4⟩, by omega, by omega⟩)
        have HT := Lib.hid (fun (k : Nat) (hk : (k : Int) < q) (w' : World) => smade_yes g key ask k w' h1 h3 (HK.out k hk))
        have HQ := Lib.hid hq
        clear hq HK hord
        go_enter Tryd.func16, Tryd.ntmps16
        go_wp2
        go_loopw [7, 8] (fun v n wr => ∃ k : Nat, k ≤ q ∧ n = .int .i64 k ∧ OwnT wr w.heap.size v ask (madeL g key ask k) ∧ Below w.heap.size w wr) (fun _ n _ => q - (intOf n).toNat)
        case atStart => exact ⟨0, by omega, rfl, ownT_made _ _ rfl _, (Below.refl _ _).alloc (Nat.le_refl _) _⟩
        case round =>
          obtain ⟨k, hk, rfl, hown, hbr⟩ := hrel
          have O0 := Lib.hid hown
          have B0 : Hid (Below w.heap.size w wr) := Lib.hid hbr
          clear hown hbr
          have hln := HLn.out k
          go_wp2_with fail
          refine (sord_any _ _).mono ?_
          rintro e w1 ⟨rfl, hb⟩
          have B1 : Hid (Below w.heap.size w w1) := Lib.hid (B0.out.trans (hb.mono B0.out.size))
          have O1 := Lib.hid (ownT_below O0.out hb)
          clear hb
          rw [HQ.out]
          by_cases hlt : k < q
          · go_wp2_with fail
            refine (sel_any _ _ _).mono ?_
            rintro e w2 ⟨rfl, hb⟩
            have B2 : Hid (Below w.heap.size w w2) := Lib.hid (B1.out.trans (hb.mono B1.out.size))
            have O2 := Lib.hid (ownT_below O1.out hb)
            clear hb
            go_wp2_with fail
            refine (sex_any _ _ _).mono ?_
            rintro e w3 ⟨rfl, hb⟩
            have B3 : Hid (Below w.heap.size w w3) := Lib.hid (B2.out.trans (hb.mono B2.out.size))
            have O3 := Lib.hid (ownT_below O2.out hb)
            clear hb
            go_wp2_with fail
            refine (HT.out k (by omega) _).mono ?_
            rintro e wt ⟨rfl, hb⟩
            have hownt := ownT_below O3.out hb
            have hbt := B3.out.trans (hb.mono B3.out.size)
            clear hb O0 O1 O2 O3
            have hown3 := ownT_below hownt (below_alloc wt (.cells #[.int .i64 (sayUp g key ask (k : Int)), .int .i64 ask, .int .i64 ((k : Int))] 35))
            have hb3 := hbt.trans ((below_alloc wt (.cells #[.int .i64 (sayUp g key ask (k : Int)), .int .i64 ask, .int .i64 ((k : Int))] 35)).mono hbt.size)
            obtain ⟨⟨c0, c1, c2⟩, _⟩ := box3 (Below.refl (wt.heap.size + 1) (wt.alloc (.cells #[.int .i64 (sayUp g key ask (k : Int)), .int .i64 ask, .int .i64 ((k : Int))] 35)))
            have hs4 := hb3.size
            clear hownt hbt
            go_wp2_with (at_builtin; refine wpList_append_own _ rfl _ _ 25 rfl w.heap.size 35 i0 (.agg #[.int .i64 0, .int .i64 0, .int .i64 0]) 3 24 Tryd.underlying25 hi hz0 hz1 hz2 rfl (by decide) _ _ _ rfl (hown3.alloc _) ⟨(wt.alloc (.cells #[.int .i64 (sayUp g key ask (k : Int)), .int .i64 ask, .int .i64 ((k : Int))] 35)).heap.size, 0, none⟩ 1 1 [.int .i64 (sayUp g key ask (k : Int)), .int .i64 ask, .int .i64 ((k : Int))] (by simp; rfl) rfl ?c1 ?c2 ?c3 ?c4 ?c5 ?_)
            case c1 =>
              intro j u hj
              match j, hj with
              | 0, hj => simp at hj; subst hj; simp [Addr.add]
              | 1, hj => simp at hj; subst hj; simp [Addr.add]
              | 2, hj => simp at hj; subst hj; simp [Addr.add]
            case c2 => intro u hu; simp at hu; rcases hu with rfl | rfl | rfl <;> rfl
            case c3 => unfold maxLen; omega
            case c4 => omega
            case c5 => simp at hs4 ⊢; omega
            · intro v' w4 hown' hgrow _
              have R := ownT_step hown3 hb3 (by rw [hln]; exact hown') hgrow
              clear hown' hgrow hown3 hb3 c0 c1 c2
              go_wp2
              go_roundw
              case rel => exact ⟨k + 1, by omega, by go_num, by rw [HLs.out]; exact R.1, R.2⟩
              case measure => simp [intOf]; omega
          · obtain rfl : k = q := by omega
            go_wp2_with fail
            refine (HSS.out _ w.heap.size _ ask (madeL g key ask k) (by first | exact Nat.zero_le _ | (rw [HLn.out]; omega)) O1.out).mono ?_
            rintro e ws ⟨v', rfl, hs, hb⟩
            have hbs : Below w.heap.size w ws := B1.out.trans (hb.mono B1.out.size)
            have hs' := ownT_mono hs B1.out.size
            clear hb hs
            go_wp2
            go_ret
            exact ⟨_, rfl, by rw [HX.out]; exact hs', hbs⟩
  · have hord := ord_none hg
    have HX := Lib.hid (show sortP (madeAll g key ask) = [] by
      have h1 : elB g key = false := elB_none hg _
      unfold madeAll; rw [h1, Bool.false_and, if_neg (by decide)]; exact sortP_nil)
    go_enter Tryd.func16, Tryd.ntmps16
    go_wp2
    go_loopw [7, 8] (fun v n wr => n = .int .i64 0 ∧ OwnT wr w.heap.size v ask [] ∧ Below w.heap.size w wr) (fun _ _ _ => 0)
    case atStart => exact ⟨rfl, ownT_made _ _ rfl _, (Below.refl _ _).alloc (Nat.le_refl _) _⟩
    case round =>
      obtain ⟨rfl, hown, hbr⟩ := hrel
      have O0 := Lib.hid hown
      have B0 : Hid (Below w.heap.size w wr) := Lib.hid hbr
      clear hown hbr
      go_wp2_with fail
      refine (sord_any _ _).mono ?_
      rintro e w1 ⟨rfl, hb⟩
      have B1 : Hid (Below w.heap.size w w1) := Lib.hid (B0.out.trans (hb.mono B0.out.size))
      have O1 := Lib.hid (ownT_below O0.out hb)
      clear hb
      go_wp2_with fail
      refine (HSS.out _ w.heap.size _ ask [] (by first | exact Nat.zero_le _ | (rw [HLn.out]; omega)) O1.out).mono ?_
      rintro e ws ⟨v', rfl, hs, hb⟩
      have hbs : Below w.heap.size w ws := B1.out.trans (hb.mono B1.out.size)
      have hs' := ownT_mono hs B1.out.size
      clear hb hs
      go_wp2
      go_ret
      exact ⟨_, rfl, by rw [HX.out, ← sortP_nil]; exact hs', hbs⟩

end Go.Proofs.YtacaeoalplggfadDoor
