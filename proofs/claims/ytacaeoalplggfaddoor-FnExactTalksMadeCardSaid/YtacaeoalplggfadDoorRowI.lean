/- Lists of talks: rows of structs; impl.TalksTrue, impl.TalksMade over the contract of the sort. -/
import Derived.Test.YtacaeoalplggfadDoorImplT
import Derived.Test.YtacaeoalplggfadDoorWalkG
namespace Go.Proofs.YtacaeoalplggfadDoor
open Go.RowKit

/-- A talk of a list whose talks have one question, as its three cells. -/
def encT (ask : Int) (x : Int × Int) : List Value := [.int .i64 x.1, .int .i64 ask, .int .i64 x.2]
abbrev OwnT (w : World) (B : Nat) (v : Value) (ask : Int) (d : List (Int × Int)) : Prop := w.ownsRow B 35 3 v d.length (d.flatMap (encT ask))
theorem ownT_below {w w' : World} {B : Nat} {v : Value} {ask : Int} {d : List (Int × Int)} (h : OwnT w B v ask d) (hb : Below w.heap.size w w') : OwnT w' B v ask d := by
  have hg : w.grownBy w' none := ⟨hb.os, hb.tape, hb.output, hb.size, fun k hk _ => hb.block k hk⟩
  exact h.kept hg (by cases hv : v.ownBlock <;> simp)
theorem infoTalk : (Tryd.prog.info? 35).map (fun i => (i.zero, i.size, i.bytes)) = some (some (.agg #[.int .i64 0, .int .i64 0, .int .i64 0]), 3, 24) := by kernel_rfl
theorem ownT_step {w w3 w4 : World} {v v' : Value} {ask a b : Int} {d : List (Int × Int)} {o : Obj} (hown : OwnT w3 w.heap.size v ask d) (hb : Below w.heap.size w w3)
    (hown' : w4.ownsRow w.heap.size 35 3 v' (d.length + 1) (d.flatMap (encT ask) ++ [.int .i64 a, .int .i64 ask, .int .i64 b])) (hg : (w3.alloc o).grownBy w4 v.ownBlock) :
    OwnT w4 w.heap.size v' ask (d ++ [(a, b)]) ∧ Below w.heap.size w w4 :=
  ⟨by unfold OwnT; rw [List.length_append, List.flatMap_append]; simpa [encT] using hown', (hb.alloc hb.size o).grown hg (by simp; have := hb.size; omega) (fun j hj => (hown.lt j hj).1)⟩

/-- The order of the lists: by Say, then by Tell. -/
def ltP (x y : Int × Int) : Bool := decide (x.1 < y.1) || (decide (x.1 = y.1) && decide (x.2 < y.2))
def sortP (d : List (Int × Int)) : List (Int × Int) := d.mergeSort fun x y => !ltP y x
theorem sortP_nil : sortP [] = [] := by simp [sortP]
/-- What is asked of impl.sortTalks. -/
def SortC : Prop := ∀ (w : World) (B : Nat) (v : Value) (ask : Int) (d : List (Int × Int)), 1 ≤ d.length → d.length ≤ 23 → B ≤ w.heap.size → OwnT w B v ask d →
  Calls Tryd.prog 27 #[v] w fun e w' => e = .returned (.tuple #[]) ∧ OwnT w' B v ask (sortP d) ∧ w.grownBy w' v.ownBlock

def trueL (g secret ask : Int) (n : Nat) : List (Int × Int) := (List.range n).map fun k : Nat => (gp g (bas g) (k : Int), tellOf g secret (k : Int) ask)
theorem trueL_succ (g secret ask : Int) (n : Nat) : trueL g secret ask (n + 1) = trueL g secret ask n ++ [(gp g (bas g) (n : Int), tellOf g secret (n : Int) ask)] := by unfold trueL; rw [List.range_succ, List.map_append]; rfl
theorem trueL_len (g secret ask : Int) (n : Nat) : (trueL g secret ask n).length = n := by unfold trueL; simp
def trueAll (g secret ask : Int) : List (Int × Int) := if exB g secret && exB g ask then trueL g secret ask (ord g).toNat else []

set_option maxHeartbeats 1600000 in
theorem itrue_any (SC : SortC) (g secret ask : Int) (w : World) (G : Gr w) : Calls Tryd.prog 8 #[.int .i64 g, .int .i64 secret, .int .i64 ask] w fun e w' => ∃ v, e = .returned v ∧ OwnT w' w.heap.size v ask (sortP (trueAll g secret ask)) ∧ Below w.heap.size w w' := by
  have HSC := Lib.hid SC; clear SC
  have B0 := Lib.hid (Below.refl w.heap.size w)
  cases h1 : exB g secret
  · have HX := Lib.hid (show sortP (trueAll g secret ask) = [] by unfold trueAll; rw [h1, Bool.false_and, if_neg (by decide)]; exact sortP_nil)
    go_enter Tryd.func8, Tryd.ntmps8
    go_wp2_with fail
    refine (iex_b _ _ _ G).mono ?_
    rintro e w1 ⟨rfl, hb⟩
    go_wp2
    go_ret
    exact ⟨_, rfl, by rw [HX.out]; exact World.ownsRow_nil _ _ _ _, hb⟩
  · cases h3 : exB g ask
    · have HX := Lib.hid (show sortP (trueAll g secret ask) = [] by unfold trueAll; rw [h1, h3, Bool.and_false, if_neg (by decide)]; exact sortP_nil)
      go_enter Tryd.func8, Tryd.ntmps8
      go_wp2_with fail
      refine (iex_b _ _ _ G).mono ?_
      rintro e w1 ⟨rfl, hb⟩
      have B1 : Hid (Below w.heap.size w w1) := Lib.hid hb
      clear hb
      go_wp2_with fail
      refine (iex_b _ _ _ (G.on B1.out)).mono ?_
      rintro e w2 ⟨rfl, hb⟩
      have B2 : Hid (Below w.heap.size w w2) := Lib.hid (B1.out.trans (hb.mono B1.out.size))
      clear hb
      go_wp2
      go_ret
      exact ⟨_, rfl, by rw [HX.out]; exact World.ownsRow_nil _ _ _ _, B2.out⟩
    · obtain ⟨i0, hi, hz0, hz1, hz2⟩ := info_parts infoTalk
      obtain ⟨⟨g0, g4⟩, _, _⟩ := exB_true.1 h1
      obtain ⟨q, hq, q3, q23⟩ := ord_of g0 g4
      have HX := Lib.hid (show trueAll g secret ask = trueL g secret ask q by unfold trueAll; rw [h1, h3, hq]; rfl)
      obtain ⟨L, hL⟩ : ∃ L : Nat → List (Int × Int), L = trueL g secret ask := ⟨_, rfl⟩
      have HLn := Lib.hid (show ∀ n, (L n).length = n from fun n => by rw [hL]; exact trueL_len _ _ _ _)
      have HL0 := Lib.hid (show L 0 = [] by rw [hL]; rfl)
      have HK := Lib.hid (show ∀ k : Nat, (k : Int) < q → exB g k = true from fun k hk => exB_true.2 ⟨⟨g0, g4⟩, by omega, by omega⟩)
      obtain ⟨x, hx⟩ : ∃ x : Nat → Int, ∀ k : Nat, gp g (bas g) (k : Int) = x k := ⟨_, fun _ => rfl⟩
      obtain ⟨y, hy⟩ : ∃ y : Nat → Int, ∀ k : Nat, tellOf g secret (k : Int) ask = y k := ⟨_, fun _ => rfl⟩
      have HLs := Lib.hid (show ∀ n, L (n + 1) = L n ++ [(x n, y n)] from fun n => by rw [hL, trueL_succ, hx, hy])
      rw [← hL] at HX
      have HT := Lib.hid (fun (k : Nat) (hk : (k : Int) < q) (w' : World) (G' : Gr w') => italk_yes g secret k ask w' G' h1 (HK.out k hk) h3)
      have HT' : Hid (∀ (k : Nat) (_ : (k : Int) < q) (w' : World) (_ : Gr w'), Calls Tryd.prog 26 #[.int .i64 g, .int .i64 secret, .int .i64 k, .int .i64 ask] w' fun e w'' => e = .returned (.tuple #[.agg #[.int .i64 (x k), .int .i64 ask, .int .i64 (y k)], .bool true]) ∧ Below w'.heap.size w' w'') := Lib.hid (fun k hk w' G' => by have := HT.out k hk w' G'; rwa [hx, hy] at this)
      obtain ⟨T, hT⟩ : ∃ T, sortP (trueAll g secret ask) = T := ⟨_, rfl⟩
      have HXT := Lib.hid (show sortP (L q) = T by rw [← HX.out]; exact hT)
      rw [hT]
      have HQ := Lib.hid hq
      clear hq hL hx hy HT HK hT HX
      rcases g_cases g0 g4 with rfl | rfl | rfl | rfl <;> clear g0 g4
      all_goals
        have hq := HQ.out
        simp [ord] at hq
        go_enter Tryd.func8, Tryd.ntmps8
        go_wp2_with fail
        refine (iex_b _ _ _ G).mono ?_
        rintro e w1 ⟨rfl, hb⟩
        have B1 : Hid (Below w.heap.size w w1) := Lib.hid hb
        clear hb
        go_wp2_with fail
        refine (iex_b _ _ _ (G.on B1.out)).mono ?_
        rintro e w2 ⟨rfl, hb⟩
        have B2 : Hid (Below w.heap.size w w2) := Lib.hid (B1.out.trans (hb.mono B1.out.size))
        clear hb
        obtain ⟨e0, e1, e2, e3, e4, e5, e6, e7, e8, e9, e10, e11⟩ := G.on B2.out
        go_wp2
        go_loopw [7, 25] (fun v n wr => ∃ k : Nat, k ≤ q ∧ n = .int .i64 k ∧ OwnT wr w.heap.size v ask (L k) ∧ Below w.heap.size w wr) (fun _ n _ => q - (intOf n).toNat)
        case atStart => exact ⟨0, by omega, rfl, by rw [HL0.out]; exact World.ownsRow_nil _ _ _ _, B2.out⟩
        case round =>
          obtain ⟨k, hk, rfl, hown, hbr⟩ := hrel
          clear e0 e1 e2 e3 e4 e5 e6 e7 e8 e9 e10 e11
          have hln := HLn.out k
          by_cases hlt : k < q
          · go_wp2_with fail
            refine (HT'.out k (by omega) _ (G.on hbr)).mono ?_
            rintro e wt ⟨rfl, hb⟩
            have hownt := ownT_below hown hb
            have hbt := hbr.trans (hb.mono hbr.size)
            clear hb hown
            obtain ⟨w3, hw3⟩ : ∃ wz, wz = wt.alloc (.cells #[.int .i64 (x k), .int .i64 ask, .int .i64 (y k)] 35) := ⟨_, rfl⟩
            have hba : Below wt.heap.size wt w3 := by rw [hw3]; exact below_alloc _ _
            have hown3 := ownT_below hownt hba
            have hb3 := hbt.trans (hba.mono hbt.size)
            obtain ⟨⟨c0, c1, c2⟩, _⟩ := box3 (Below.refl (wt.heap.size + 1) (wt.alloc (.cells #[.int .i64 (x k), .int .i64 ask, .int .i64 (y k)] 35)))
            have hs3 : w3.heap.size = wt.heap.size + 1 := by rw [hw3]; simp
            have HW3 := Lib.hid hw3
            rw [hw3] at hown3 hb3
            have hs4 := hb3.size
            clear hba hw3 hownt hbt
            go_wp2_with (at_builtin; refine wpList_append_own _ rfl _ _ 25 rfl w.heap.size 35 i0 (.agg #[.int .i64 0, .int .i64 0, .int .i64 0]) 3 24 Tryd.underlying25 hi hz0 hz1 hz2 rfl (by decide) _ _ _ rfl (hown3.alloc _) ⟨(wt.alloc (.cells #[.int .i64 (x k), .int .i64 ask, .int .i64 (y k)] 35)).heap.size, 0, none⟩ 1 1 [.int .i64 (x k), .int .i64 ask, .int .i64 (y k)] (by simp; rfl) rfl ?c1 ?c2 ?c3 ?c4 ?c5 ?_)
            case c1 =>
              intro j u hj
              match j, hj with
              | 0, hj => simp at hj; subst hj; simp [Addr.add]
              | 1, hj => simp at hj; subst hj; simp [Addr.add]
              | 2, hj => simp at hj; subst hj; simp [Addr.add]
            case c2 => intro u hu; simp at hu; rcases hu with rfl | rfl | rfl <;> rfl
            case c3 => unfold maxLen; omega
            case c4 => omega
            case c5 => simp at hs4 ⊢; omega
            · intro v' w4 hown' hgrow _
              have R := ownT_step hown3 hb3 (by rw [hln]; exact hown') hgrow
              clear hown' hgrow hown3 hb3 c0 c1 c2
              go_wp2
              go_roundw
              case rel => exact ⟨k + 1, by omega, by go_num, by rw [HLs.out]; exact R.1, R.2⟩
              case measure => simp [intOf]; omega
          · obtain rfl : k = q := by omega
            have hlen : (L k).length ≤ 23 := by rw [HLn.out]; omega
            have hlen1 : 1 ≤ (L k).length := by rw [HLn.out]; omega
            go_wp2_with fail
            refine (HSC.out _ w.heap.size _ ask (L k) hlen1 hlen hbr.size hown).mono ?_
            rintro e ws ⟨rfl, hs, hg⟩
            have hbs : Below w.heap.size w ws := hbr.grown hg hbr.size (fun j hj => (hown.lt j hj).1)
            have hs' : OwnT ws w.heap.size u7 ask T := by rw [← HXT.out]; exact hs
            clear hs hown hg
            go_wp2
            go_ret
            exact ⟨_, rfl, hs', hbs⟩
end Go.Proofs.YtacaeoalplggfadDoor
