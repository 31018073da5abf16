/- impl.TalksMade over the contract of the sort. -/
import Derived.Test.YtacaeoalplggfadDoorRowI
namespace Go.Proofs.YtacaeoalplggfadDoor
open Go.RowKit

def madeL (g key ask : Int) (n : Nat) : List (Int × Int) := (List.range n).map fun k : Nat => (sayUp g key ask (k : Int), (k : Int))
theorem madeL_succ (g key ask : Int) (n : Nat) : madeL g key ask (n + 1) = madeL g key ask n ++ [(sayUp g key ask (n : Int), (n : Int))] := by unfold madeL; rw [List.range_succ, List.map_append]; rfl
theorem madeL_len (g key ask : Int) (n : Nat) : (madeL g key ask n).length = n := by unfold madeL; simp
def madeAll (g key ask : Int) : List (Int × Int) := if elB g key && exB g ask then madeL g key ask (ord g).toNat else []

set_option maxHeartbeats 1600000 in
theorem imadeAll_any (SC : SortC) (g key ask : Int) (w : World) (G : Gr w) : Calls Tryd.prog 12 #[.int .i64 g, .int .i64 key, .int .i64 ask] w fun e w' => ∃ v, e = .returned v ∧ OwnT w' w.heap.size v ask (sortP (madeAll g key ask)) ∧ Below w.heap.size w w' := by
  have HSC := Lib.hid SC; clear SC
  have B0 := Lib.hid (Below.refl w.heap.size w)
  cases h1 : elB g key
  · have HX := Lib.hid (show sortP (madeAll g key ask) = [] by unfold madeAll; rw [h1, Bool.false_and, if_neg (by decide)]; exact sortP_nil)
    go_enter Tryd.func12, Tryd.ntmps12
    go_wp2_with fail
    refine (iel_b _ _ _ G).mono ?_
    rintro e w1 ⟨rfl, hb⟩
    go_wp2
    go_ret
    exact ⟨_, rfl, by rw [HX.out]; exact World.ownsRow_nil _ _ _ _, hb⟩
  · cases h3 : exB g ask
    · have HX := Lib.hid (show sortP (madeAll g key ask) = [] by unfold madeAll; rw [h1, h3, Bool.and_false, if_neg (by decide)]; exact sortP_nil)
      go_enter Tryd.func12, Tryd.ntmps12
      go_wp2_with fail
      refine (iel_b _ _ _ G).mono ?_
      rintro e w1 ⟨rfl, hb⟩
      have B1 : Hid (Below w.heap.size w w1) := Lib.hid hb
      clear hb
      go_wp2_with fail
      refine (iex_b _ _ _ (G.on B1.out)).mono ?_
      rintro e w2 ⟨rfl, hb⟩
      have B2 : Hid (Below w.heap.size w w2) := Lib.hid (B1.out.trans (hb.mono B1.out.size))
      clear hb
      go_wp2
      go_ret
      exact ⟨_, rfl, by rw [HX.out]; exact World.ownsRow_nil _ _ _ _, B2.out⟩
    · obtain ⟨i0, hi, hz0, hz1, hz2⟩ := info_parts infoTalk
      obtain ⟨g0, g4⟩ := elB_group h1
      obtain ⟨q, hq, q3, q23⟩ := ord_of g0 g4
      have HX := Lib.hid (show madeAll g key ask = madeL g key ask q by unfold madeAll; rw [h1, h3, hq]; rfl)
      obtain ⟨L, hL⟩ : ∃ L : Nat → List (Int × Int), L = madeL g key ask := ⟨_, rfl⟩
      have HLn := Lib.hid (show ∀ n, (L n).length = n from fun n => by rw [hL]; exact madeL_len _ _ _ _)
      have HL0 := Lib.hid (show L 0 = [] by rw [hL]; rfl)
      have HK := Lib.hid (show ∀ k : Nat, (k : Int) < q → exB g k = true from fun k hk => exB_true.2 ⟨⟨g0, g4⟩, by omega, by omega⟩)
      obtain ⟨x, hx⟩ : ∃ x : Nat → Int, ∀ k : Nat, sayUp g key ask (k : Int) = x k := ⟨_, fun _ => rfl⟩
      have HLs := Lib.hid (show ∀ n, L (n + 1) = L n ++ [(x n, (n : Int))] from fun n => by rw [hL, madeL_succ, hx])
      rw [← hL] at HX
      have HT := Lib.hid (fun (k : Nat) (hk : (k : Int) < q) (w' : World) (G' : Gr w') => imade_yes g key ask k w' G' h1 h3 (HK.out k hk))
      have HT' : Hid (∀ (k : Nat) (_ : (k : Int) < q) (w' : World) (_ : Gr w'), Calls Tryd.prog 34 #[.int .i64 g, .int .i64 key, .int .i64 ask, .int .i64 k] w' fun e w'' => e = .returned (.tuple #[.agg #[.int .i64 (x k), .int .i64 ask, .int .i64 (k : Int)], .bool true]) ∧ Below w'.heap.size w' w'') := Lib.hid (fun k hk w' G' => by have := HT.out k hk w' G'; rwa [hx] at this)
      obtain ⟨T, hT⟩ : ∃ T, sortP (madeAll g key ask) = T := ⟨_, rfl⟩
      have HXT := Lib.hid (show sortP (L q) = T by rw [← HX.out]; exact hT)
      rw [hT]
      have HQ := Lib.hid hq
      clear hq hL hx HT HK hT HX
      rcases g_cases g0 g4 with rfl | rfl | rfl | rfl <;> clear g0 g4
      all_goals
        have hq := HQ.out
        simp [ord] at hq
        go_enter Tryd.func12, Tryd.ntmps12
        go_wp2_with fail
        refine (iel_b _ _ _ G).mono ?_
        rintro e w1 ⟨rfl, hb⟩
        have B1 : Hid (Below w.heap.size w w1) := Lib.hid hb
        clear hb
        go_wp2_with fail
        refine (iex_b _ _ _ (G.on B1.out)).mono ?_
        rintro e w2 ⟨rfl, hb⟩
        have B2 : Hid (Below w.heap.size w w2) := Lib.hid (B1.out.trans (hb.mono B1.out.size))
        clear hb
        obtain ⟨e0, e1, e2, e3, e4, e5, e6, e7, e8, e9, e10, e11⟩ := G.on B2.out
        go_wp2
        go_loopw [7, 25] (fun v n wr => ∃ k : Nat, k ≤ q ∧ n = .int .i64 k ∧ OwnT wr w.heap.size v ask (L k) ∧ Below w.heap.size w wr) (fun _ n _ => q - (intOf n).toNat)
        case atStart => exact ⟨0, by omega, rfl, by rw [HL0.out]; exact World.ownsRow_nil _ _ _ _, B2.out⟩
        case round =>
          obtain ⟨k, hk, rfl, hown, hbr⟩ := hrel
          clear e0 e1 e2 e3 e4 e5 e6 e7 e8 e9 e10 e11
          have hln := HLn.out k
          by_cases hlt : k < q
          · go_wp2_with fail
            refine (HT'.out k (by omega) _ (G.on hbr)).mono ?_
            rintro e wt ⟨rfl, hb⟩
            have hownt := ownT_below hown hb
            have hbt := hbr.trans (hb.mono hbr.size)
            clear hb hown
            obtain ⟨w3, hw3⟩ : ∃ wz, wz = wt.alloc (.cells #[.int .i64 (x k), .int .i64 ask, .int .i64 (k : Int)] 35) := ⟨_, rfl⟩
            have hba : Below wt.heap.size wt w3 := by rw [hw3]; exact below_alloc _ _
            have hown3 := ownT_below hownt hba
            have hb3 := hbt.trans (hba.mono hbt.size)
            obtain ⟨⟨c0, c1, c2⟩, _⟩ := box3 (Below.refl (wt.heap.size + 1) (wt.alloc (.cells #[.int .i64 (x k), .int .i64 ask, .int .i64 (k : Int)] 35)))
            have hs3 : w3.heap.size = wt.heap.size + 1 := by rw [hw3]; simp
            have HW3 := Lib.hid hw3
            rw [hw3] at hown3 hb3
            have hs4 := hb3.size
            clear hba hw3 hownt hbt
            go_wp2_with (at_builtin; refine wpList_append_own _ rfl _ _ 25 rfl w.heap.size 35 i0 (.agg #[.int .i64 0, .int .i64 0, .int .i64 0]) 3 24 Tryd.underlying25 hi hz0 hz1 hz2 rfl (by decide) _ _ _ rfl (hown3.alloc _) ⟨(wt.alloc (.cells #[.int .i64 (x k), .int .i64 ask, .int .i64 (k : Int)] 35)).heap.size, 0, none⟩ 1 1 [.int .i64 (x k), .int .i64 ask, .int .i64 (k : Int)] (by simp; rfl) rfl ?c1 ?c2 ?c3 ?c4 ?c5 ?_)
            case c1 =>
              intro j u hj
              match j, hj with
              | 0, hj => simp at hj; subst hj; simp [Addr.add]
              | 1, hj => simp at hj; subst hj; simp [Addr.add]
              | 2, hj => simp at hj; subst hj; simp [Addr.add]
            case c2 => intro u hu; simp at hu; rcases hu with rfl | rfl | rfl <;> rfl
            case c3 => unfold maxLen; omega
            case c4 => omega
            case c5 => simp at hs4 ⊢; omega
            · intro v' w4 hown' hgrow _
              have R := ownT_step hown3 hb3 (by rw [hln]; exact hown') hgrow
              clear hown' hgrow hown3 hb3 c0 c1 c2
              go_wp2
              go_roundw
              case rel => exact ⟨k + 1, by omega, by go_num, by rw [HLs.out]; exact R.1, R.2⟩
              case measure => simp [intOf]; omega
          · obtain rfl : k = q := by omega
            have hlen : (L k).length ≤ 23 := by rw [HLn.out]; omega
            have hlen1 : 1 ≤ (L k).length := by rw [HLn.out]; omega
            go_wp2_with fail
            refine (HSC.out _ w.heap.size _ ask (L k) hlen1 hlen hbr.size hown).mono ?_
            rintro e ws ⟨rfl, hs, hg⟩
            have hbs : Below w.heap.size w ws := hbr.grown hg hbr.size (fun j hj => (hown.lt j hj).1)
            have hs' : OwnT ws w.heap.size u7 ask T := by rw [← HXT.out]; exact hs
            clear hs hown hg
            go_wp2
            go_ret
            exact ⟨_, rfl, hs', hbs⟩
end Go.Proofs.YtacaeoalplggfadDoor
