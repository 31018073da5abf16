/- spec: TurnMade. -/
import Derived.Test.YtipndddmjgjgpabDoorTokS
import Derived.Test.YtipndddmjgjgpabDoorBSol
namespace Go.Proofs.YtipndddmjgjgpabDoor
open Go.RowKit

theorem boxes3w {w : World} (P R O : List Value) (T1 T2 T3 : TypeId) : Hid (∃ W : World, W = ((w.alloc (.cells P.toArray T1)).alloc (.cells R.toArray T2)).alloc (.cells O.toArray T3) ∧ W.heap.size = w.heap.size + 1 + 1 + 1 ∧
    Below w.heap.size w W ∧ Box W w.heap.size P ∧ Box W (w.heap.size + 1) R ∧ Box W (w.heap.size + 1 + 1) O) := by
  obtain ⟨h1, h2, h3, h4⟩ := boxes3 (w := w) (P := P) (R := R) (O := O) (T1 := T1) (T2 := T2) (T3 := T3) (Below.refl _ _)
  exact Lib.hid ⟨_, rfl, by simp, h4, h1, h2, h3⟩
theorem below_set4 {w w1 : World} {N : Nat} {x y z t : Value} (h : Below w.heap.size w w1) (hN : w.heap.size ≤ N) : Below w.heap.size w ((((w1.setCell ⟨N, 0, none⟩ x).setCell ⟨N, 1, none⟩ y).setCell ⟨N, 2, none⟩ z).setCell ⟨N, 3, none⟩ t) := (((h.setCell hN _).setCell hN _).setCell hN _).setCell hN _
theorem own_set4 {w1 : World} {N B B' : Nat} {v x y z t : Value} {xs : List Int} (h : Own w1 B v xs) (n1 : N < B) (hB : B' ≤ B) : Own ((((w1.setCell ⟨N, 0, none⟩ x).setCell ⟨N, 1, none⟩ y).setCell ⟨N, 2, none⟩ z).setCell ⟨N, 3, none⟩ t) B' v xs := by
  have hh : ∀ (w : World) (j : Nat) (y : Value), Own w B v xs → Own (w.setCell ⟨N, j, none⟩ y) B v xs := fun w j y h => own_heap h fun b hb => Below.heap_setCell _ _ _ _ (by have := (h.lt b hb).1; show b ≠ N; omega)
  exact own_mono (hh _ _ _ (hh _ _ _ (hh _ _ _ (hh _ _ _ h)))) hB
def TrnPost (w : World) (sp : Int) (S : List Int) (ask : Int) (tl : List Int) (b : Bool) (e : Ending) (w' : World) : Prop :=
  ∃ v u, e = .returned (.tuple #[.agg #[.int .i64 sp, v, .int .i64 ask, u], .bool b]) ∧ Own w' w.heap.size v S ∧ Own w' w.heap.size u tl ∧ (∀ k, v.ownBlock = some k → u.ownBlock = some k → False) ∧ Below w.heap.size w w'
def MdPost (p : Int) (g : List Int) (q : Int) (h : List Int) (ask : Int) (tell : List Int) (w : World) (e : Ending) (w' : World) : Prop :=
  if mdT p g q h ask tell then TrnPost w p (mov tell (frm ask g h)) ask tell true e w' else TrnPost w 0 [] 0 [] false e w'

set_option maxRecDepth 20000 in
set_option maxHeartbeats 800000 in
theorem stmd_no (p q ask : Int) (ga ha : Option Addr) (gn gc hn hk : Nat) (tv : Value) (g h tell : List Int) (w : World) (hg : Ints w (.slice ga gn gc) g) (hh : Ints w (.slice ha hn hk) h) (ht : Ints w tv tell) (hp : intIn p) (hq : intIn q) (hs : ∀ j, j < g.length → intIn (nth g j)) (hs' : ∀ j, j < h.length → intIn (nth h j)) (hb : mdT p g q h ask tell = false) :
    Calls Tryd.prog 45 #[.agg #[.int .i64 p, (.slice ga gn gc)], .agg #[.int .i64 q, (.slice ha hn hk)], .int .i64 ask, tv] w (MdPost p g q h ask tell w) := by
  have HB3 := boxes3w (w := w) [.int .i64 p, (.slice ga gn gc)] [.int .i64 q, (.slice ha hn hk)] [.int .i64 0, .slice none 0 0, .int .i64 0, .slice none 0 0] 25 25 50
  obtain ⟨W, hWe, hWs, hW, b0, b1, b2⟩ := HB3.out
  have B0 : Hid (Below W.heap.size W (((w.alloc (.cells #[.int .i64 p, (.slice ga gn gc)] 25)).alloc (.cells #[.int .i64 q, (.slice ha hn hk)] 25)).alloc (.cells #[.int .i64 0, .slice none 0 0, .int .i64 0, .slice none 0 0] 50))) := Lib.hid (by rw [hWe]; exact Below.refl _ _)
  have HW := Lib.hid hW
  have HWS := Lib.hid hWs
  have BG := Lib.hid b0
  have BH := Lib.hid b1
  have BO := Lib.hid b2
  have HG := Lib.hid (show ∀ w', Below W.heap.size W w' → Ints w' (.slice ga gn gc) g from fun w' hb => (hg.below hW).below hb)
  have HH := Lib.hid (show ∀ w', Below W.heap.size W w' → Ints w' (.slice ha hn hk) h from fun w' hb => (hh.below hW).below hb)
  have HT := Lib.hid (show ∀ w', Below W.heap.size W w' → Ints w' tv tell from fun w' hb => (ht.below hW).below hb)
  have HSG := Lib.hid hs
  have HSH := Lib.hid hs'
  have HP := Lib.hid hp
  have HQ := Lib.hid hq
  have FIN : Hid (∀ w', Below W.heap.size W w' → Below w.heap.size w w') := Lib.hid fun w' hb => hW.trans (hb.mono hW.size)
  clear HB3 hWe hWs hW b0 b1 b2 hg hh ht hs hs' hp hq
  cases k1 : gkB p g
  · have HX := Lib.hid (show mdT p g q h ask tell = false by exact hb)
    have cg0 := (BG.out.on B0.out).cell 0
    have cg1 := (BG.out.on B0.out).cell 1
    have ch0 := (BH.out.on B0.out).cell 0
    have ch1 := (BH.out.on B0.out).cell 1
    simp at cg0 cg1 ch0 ch1
    go_enter Tryd.func45, Tryd.ntmps45
    go_wp2_with fail
    refine (sgk_is k1 (HG.out _ B0.out) HP.out HSG.out).mono ?_
    rintro e w1 ⟨rfl, hb⟩
    have B1 := Lib.hid (Below.on B0.out hb)
    clear cg0 cg1 ch0 ch1
    clear hb
    have cg0 := (BG.out.on B1.out).cell 0
    have cg1 := (BG.out.on B1.out).cell 1
    have ch0 := (BH.out.on B1.out).cell 0
    have ch1 := (BH.out.on B1.out).cell 1
    simp at cg0 cg1 ch0 ch1
    have co0 := (BO.out.on B1.out).cell 0
    have co1 := (BO.out.on B1.out).cell 1
    have co2 := (BO.out.on B1.out).cell 2
    have co3 := (BO.out.on B1.out).cell 3
    simp at co0 co1 co2 co3
    have f0 := (BO.out.on B1.out).frozen 0
    have f1 := (BO.out.on B1.out).frozen 1
    have f2 := (BO.out.on B1.out).frozen 2
    have f3 := (BO.out.on B1.out).frozen 3
    have FF := Lib.hid (FIN.out _ B1.out)
    go_wp2
    refine bodyPost_ret (v := .tuple #[.agg #[.int .i64 0, .slice none 0 0, .int .i64 0, .slice none 0 0], .bool false]) ?_ rfl ?_
    · simp [results, Tryd.results45, go_sem, co0, co1, co2, co3]
    · unfold MdPost
      rw [HX.out]
      exact ⟨_, _, rfl, World.ownsRow_nil _ _ _ _, World.ownsRow_nil _ _ _ _, fun k hk => (by cases hk), (by first | exact below_set4 FF.out (by omega) | exact FF.out)⟩
  cases k2 : gkB q h
  · have HX := Lib.hid (show mdT p g q h ask tell = false by exact hb)
    have cg0 := (BG.out.on B0.out).cell 0
    have cg1 := (BG.out.on B0.out).cell 1
    have ch0 := (BH.out.on B0.out).cell 0
    have ch1 := (BH.out.on B0.out).cell 1
    simp at cg0 cg1 ch0 ch1
    go_enter Tryd.func45, Tryd.ntmps45
    go_wp2_with fail
    refine (sgk_is k1 (HG.out _ B0.out) HP.out HSG.out).mono ?_
    rintro e w1 ⟨rfl, hb⟩
    have B1 := Lib.hid (Below.on B0.out hb)
    clear cg0 cg1 ch0 ch1
    clear hb
    have cg0 := (BG.out.on B1.out).cell 0
    have cg1 := (BG.out.on B1.out).cell 1
    have ch0 := (BH.out.on B1.out).cell 0
    have ch1 := (BH.out.on B1.out).cell 1
    simp at cg0 cg1 ch0 ch1
    go_wp2_with fail
    refine (sgk_is k2 (HH.out _ B1.out) HQ.out HSH.out).mono ?_
    rintro e w2 ⟨rfl, hb⟩
    have B2 := Lib.hid (Below.on B1.out hb)
    clear cg0 cg1 ch0 ch1
    clear hb
    have cg0 := (BG.out.on B2.out).cell 0
    have cg1 := (BG.out.on B2.out).cell 1
    have ch0 := (BH.out.on B2.out).cell 0
    have ch1 := (BH.out.on B2.out).cell 1
    simp at cg0 cg1 ch0 ch1
    have co0 := (BO.out.on B2.out).cell 0
    have co1 := (BO.out.on B2.out).cell 1
    have co2 := (BO.out.on B2.out).cell 2
    have co3 := (BO.out.on B2.out).cell 3
    simp at co0 co1 co2 co3
    have f0 := (BO.out.on B2.out).frozen 0
    have f1 := (BO.out.on B2.out).frozen 1
    have f2 := (BO.out.on B2.out).frozen 2
    have f3 := (BO.out.on B2.out).frozen 3
    have FF := Lib.hid (FIN.out _ B2.out)
    go_wp2
    refine bodyPost_ret (v := .tuple #[.agg #[.int .i64 0, .slice none 0 0, .int .i64 0, .slice none 0 0], .bool false]) ?_ rfl ?_
    · simp [results, Tryd.results45, go_sem, co0, co1, co2, co3]
    · unfold MdPost
      rw [HX.out]
      exact ⟨_, _, rfl, World.ownsRow_nil _ _ _ _, World.ownsRow_nil _ _ _ _, fun k hk => (by cases hk), (by first | exact below_set4 FF.out (by omega) | exact FF.out)⟩
  by_cases hpq : p = q
  rotate_left
  · have HX := Lib.hid (show mdT p g q h ask tell = false by exact hb)
    have hd : (p == q) = false := by simp [hpq]
    have hd2 : (p != q) = true := by simp [hpq]
    clear hpq
    have cg0 := (BG.out.on B0.out).cell 0
    have cg1 := (BG.out.on B0.out).cell 1
    have ch0 := (BH.out.on B0.out).cell 0
    have ch1 := (BH.out.on B0.out).cell 1
    simp at cg0 cg1 ch0 ch1
    go_enter Tryd.func45, Tryd.ntmps45
    go_wp2_with fail
    refine (sgk_is k1 (HG.out _ B0.out) HP.out HSG.out).mono ?_
    rintro e w1 ⟨rfl, hb⟩
    have B1 := Lib.hid (Below.on B0.out hb)
    clear cg0 cg1 ch0 ch1
    clear hb
    have cg0 := (BG.out.on B1.out).cell 0
    have cg1 := (BG.out.on B1.out).cell 1
    have ch0 := (BH.out.on B1.out).cell 0
    have ch1 := (BH.out.on B1.out).cell 1
    simp at cg0 cg1 ch0 ch1
    go_wp2_with fail
    refine (sgk_is k2 (HH.out _ B1.out) HQ.out HSH.out).mono ?_
    rintro e w2 ⟨rfl, hb⟩
    have B2 := Lib.hid (Below.on B1.out hb)
    clear cg0 cg1 ch0 ch1
    clear hb
    have cg0 := (BG.out.on B2.out).cell 0
    have cg1 := (BG.out.on B2.out).cell 1
    have ch0 := (BH.out.on B2.out).cell 0
    have ch1 := (BH.out.on B2.out).cell 1
    simp at cg0 cg1 ch0 ch1
    have co0 := (BO.out.on B2.out).cell 0
    have co1 := (BO.out.on B2.out).cell 1
    have co2 := (BO.out.on B2.out).cell 2
    have co3 := (BO.out.on B2.out).cell 3
    simp at co0 co1 co2 co3
    have f0 := (BO.out.on B2.out).frozen 0
    have f1 := (BO.out.on B2.out).frozen 1
    have f2 := (BO.out.on B2.out).frozen 2
    have f3 := (BO.out.on B2.out).frozen 3
    have FF := Lib.hid (FIN.out _ B2.out)
    go_wp2
    refine bodyPost_ret (v := .tuple #[.agg #[.int .i64 0, .slice none 0 0, .int .i64 0, .slice none 0 0], .bool false]) ?_ rfl ?_
    · simp [results, Tryd.results45, go_sem, co0, co1, co2, co3]
    · unfold MdPost
      rw [HX.out]
      exact ⟨_, _, rfl, World.ownsRow_nil _ _ _ _, World.ownsRow_nil _ _ _ _, fun k hk => (by cases hk), (by first | exact below_set4 FF.out (by omega) | exact FF.out)⟩
  subst hpq
  have hd : (p == p) = true := by simp
  cases k3 : odB tell p
  · have HX := Lib.hid (show mdT p g p h ask tell = false by exact hb)
    have cg0 := (BG.out.on B0.out).cell 0
    have cg1 := (BG.out.on B0.out).cell 1
    have ch0 := (BH.out.on B0.out).cell 0
    have ch1 := (BH.out.on B0.out).cell 1
    simp at cg0 cg1 ch0 ch1
    go_enter Tryd.func45, Tryd.ntmps45
    go_wp2_with fail
    refine (sgk_is k1 (HG.out _ B0.out) HP.out HSG.out).mono ?_
    rintro e w1 ⟨rfl, hb⟩
    have B1 := Lib.hid (Below.on B0.out hb)
    clear cg0 cg1 ch0 ch1
    clear hb
    have cg0 := (BG.out.on B1.out).cell 0
    have cg1 := (BG.out.on B1.out).cell 1
    have ch0 := (BH.out.on B1.out).cell 0
    have ch1 := (BH.out.on B1.out).cell 1
    simp at cg0 cg1 ch0 ch1
    go_wp2_with fail
    refine (sgk_is k2 (HH.out _ B1.out) HQ.out HSH.out).mono ?_
    rintro e w2 ⟨rfl, hb⟩
    have B2 := Lib.hid (Below.on B1.out hb)
    clear cg0 cg1 ch0 ch1
    clear hb
    have cg0 := (BG.out.on B2.out).cell 0
    have cg1 := (BG.out.on B2.out).cell 1
    have ch0 := (BH.out.on B2.out).cell 0
    have ch1 := (BH.out.on B2.out).cell 1
    simp at cg0 cg1 ch0 ch1
    go_wp2_with fail
    refine (sod_is k3 (HT.out _ B2.out)).mono ?_
    rintro e w3 ⟨rfl, hb⟩
    have B3 := Lib.hid (Below.on B2.out hb)
    clear cg0 cg1 ch0 ch1
    clear hb
    have cg0 := (BG.out.on B3.out).cell 0
    have cg1 := (BG.out.on B3.out).cell 1
    have ch0 := (BH.out.on B3.out).cell 0
    have ch1 := (BH.out.on B3.out).cell 1
    simp at cg0 cg1 ch0 ch1
    have co0 := (BO.out.on B3.out).cell 0
    have co1 := (BO.out.on B3.out).cell 1
    have co2 := (BO.out.on B3.out).cell 2
    have co3 := (BO.out.on B3.out).cell 3
    simp at co0 co1 co2 co3
    have f0 := (BO.out.on B3.out).frozen 0
    have f1 := (BO.out.on B3.out).frozen 1
    have f2 := (BO.out.on B3.out).frozen 2
    have f3 := (BO.out.on B3.out).frozen 3
    have FF := Lib.hid (FIN.out _ B3.out)
    go_wp2
    refine bodyPost_ret (v := .tuple #[.agg #[.int .i64 0, .slice none 0 0, .int .i64 0, .slice none 0 0], .bool false]) ?_ rfl ?_
    · simp [results, Tryd.results45, go_sem, co0, co1, co2, co3]
    · unfold MdPost
      rw [HX.out]
      exact ⟨_, _, rfl, World.ownsRow_nil _ _ _ _, World.ownsRow_nil _ _ _ _, fun k hk => (by cases hk), (by first | exact below_set4 FF.out (by omega) | exact FF.out)⟩
  cases k4 : (decide (0 ≤ ask) && decide (ask ≤ 1))
  · have HX := Lib.hid (show mdT p g p h ask tell = false by exact hb)
    have cg0 := (BG.out.on B0.out).cell 0
    have cg1 := (BG.out.on B0.out).cell 1
    have ch0 := (BH.out.on B0.out).cell 0
    have ch1 := (BH.out.on B0.out).cell 1
    simp at cg0 cg1 ch0 ch1
    go_enter Tryd.func45, Tryd.ntmps45
    go_wp2_with fail
    refine (sgk_is k1 (HG.out _ B0.out) HP.out HSG.out).mono ?_
    rintro e w1 ⟨rfl, hb⟩
    have B1 := Lib.hid (Below.on B0.out hb)
    clear cg0 cg1 ch0 ch1
    clear hb
    have cg0 := (BG.out.on B1.out).cell 0
    have cg1 := (BG.out.on B1.out).cell 1
    have ch0 := (BH.out.on B1.out).cell 0
    have ch1 := (BH.out.on B1.out).cell 1
    simp at cg0 cg1 ch0 ch1
    go_wp2_with fail
    refine (sgk_is k2 (HH.out _ B1.out) HQ.out HSH.out).mono ?_
    rintro e w2 ⟨rfl, hb⟩
    have B2 := Lib.hid (Below.on B1.out hb)
    clear cg0 cg1 ch0 ch1
    clear hb
    have cg0 := (BG.out.on B2.out).cell 0
    have cg1 := (BG.out.on B2.out).cell 1
    have ch0 := (BH.out.on B2.out).cell 0
    have ch1 := (BH.out.on B2.out).cell 1
    simp at cg0 cg1 ch0 ch1
    go_wp2_with fail
    refine (sod_is k3 (HT.out _ B2.out)).mono ?_
    rintro e w3 ⟨rfl, hb⟩
    have B3 := Lib.hid (Below.on B2.out hb)
    clear cg0 cg1 ch0 ch1
    clear hb
    have cg0 := (BG.out.on B3.out).cell 0
    have cg1 := (BG.out.on B3.out).cell 1
    have ch0 := (BH.out.on B3.out).cell 0
    have ch1 := (BH.out.on B3.out).cell 1
    simp at cg0 cg1 ch0 ch1
    go_wp2_with fail
    refine (l1In_tb k4 _).mono ?_
    rintro e wx ⟨rfl, rfl⟩
    have co0 := (BO.out.on B3.out).cell 0
    have co1 := (BO.out.on B3.out).cell 1
    have co2 := (BO.out.on B3.out).cell 2
    have co3 := (BO.out.on B3.out).cell 3
    simp at co0 co1 co2 co3
    have f0 := (BO.out.on B3.out).frozen 0
    have f1 := (BO.out.on B3.out).frozen 1
    have f2 := (BO.out.on B3.out).frozen 2
    have f3 := (BO.out.on B3.out).frozen 3
    have FF := Lib.hid (FIN.out _ B3.out)
    go_wp2
    refine bodyPost_ret (v := .tuple #[.agg #[.int .i64 0, .slice none 0 0, .int .i64 0, .slice none 0 0], .bool false]) ?_ rfl ?_
    · simp [results, Tryd.results45, go_sem, co0, co1, co2, co3]
    · unfold MdPost
      rw [HX.out]
      exact ⟨_, _, rfl, World.ownsRow_nil _ _ _ _, World.ownsRow_nil _ _ _ _, fun k hk => (by cases hk), (by first | exact below_set4 FF.out (by omega) | exact FF.out)⟩
  exact absurd (show mdT p g p h ask tell = true by unfold mdT btB; rw [k1, k2, k3, k4]; simp) (by rw [hb]; decide)

set_option maxRecDepth 20000 in
set_option maxHeartbeats 800000 in
theorem stmd_0 (p q ask : Int) (ga ha : Option Addr) (gn gc hn hk : Nat) (tv : Value) (g h tell : List Int) (w : World) (hg : Ints w (.slice ga gn gc) g) (hh : Ints w (.slice ha hn hk) h) (ht : Ints w tv tell) (hp : intIn p) (hq : intIn q) (hs : ∀ j, j < g.length → intIn (nth g j)) (hs' : ∀ j, j < h.length → intIn (nth h j)) (hb : mdT p g q h ask tell = true) (hask : (ask == 1) = false) :
    Calls Tryd.prog 45 #[.agg #[.int .i64 p, (.slice ga gn gc)], .agg #[.int .i64 q, (.slice ha hn hk)], .int .i64 ask, tv] w (MdPost p g q h ask tell w) := by
  have hm := mdT_true.1 hb
  obtain rfl := hm.e
  have k1 := gkB_true.2 hm.gg
  have k2 := gkB_true.2 hm.gh
  have k3 := odB_true.2 hm.o
  have k4 : (decide (0 ≤ ask) && decide (ask ≤ 1)) = true := by rw [decide_eq_true hm.a0, decide_eq_true hm.a1]; rfl
  have hd : (p == p) = true := by simp
  obtain ⟨ta0, tc, etv, k5⟩ := ht.opened
  obtain ⟨u, hu⟩ : ∃ u, tell.length = u := ⟨_, rfl⟩
  have hu5 : 1 ≤ u ∧ u ≤ 5 := by have := hm.o.len; have := hm.gg.p1; have := hm.gg.p5; omega
  rw [hu] at etv
  obtain ⟨TL, etl, _, _⟩ := k5.get 0 (by omega)
  subst etl
  have HTC := Lib.hid (show ∀ w', Below w.heap.size w w' → ∀ j, j < u → w'.cell? ⟨TL, j, none⟩ = some (.int .i64 (nth tell j)) from fun w' hb j hj => by
    obtain ⟨M, e1, hl, e2⟩ := k5.get j (by omega)
    cases e1
    exact (hb.cell (p := ⟨TL, j, none⟩) hl).trans e2)
  subst etv
  have HU := Lib.hid hu
  have HX : Hid (mdT p g p h ask tell = true ∧ mov tell (frm ask g h) = mov tell g) := Lib.hid ⟨hb, by rw [show frm ask g h = g by unfold frm; simp at hask; simp [hask]]⟩
  have HGK : Hid (Gk p g) := Lib.hid hm.gg
  have HOD := Lib.hid hm.o
  clear hm hb k5 hu
  have HB3 := boxes3w (w := w) [.int .i64 p, (.slice ga gn gc)] [.int .i64 p, (.slice ha hn hk)] [.int .i64 0, .slice none 0 0, .int .i64 0, .slice none 0 0] 25 25 50
  obtain ⟨W, hWe, hWs, hW, b0, b1, b2⟩ := HB3.out
  have B0 : Hid (Below W.heap.size W (((w.alloc (.cells #[.int .i64 p, (.slice ga gn gc)] 25)).alloc (.cells #[.int .i64 p, (.slice ha hn hk)] 25)).alloc (.cells #[.int .i64 0, .slice none 0 0, .int .i64 0, .slice none 0 0] 50))) := Lib.hid (by rw [hWe]; exact Below.refl _ _)
  have HW := Lib.hid hW
  have HWS := Lib.hid hWs
  have BG := Lib.hid b0
  have BH := Lib.hid b1
  have BO := Lib.hid b2
  have HG := Lib.hid (show ∀ w', Below W.heap.size W w' → Ints w' (.slice ga gn gc) g from fun w' hb => (hg.below hW).below hb)
  have HH := Lib.hid (show ∀ w', Below W.heap.size W w' → Ints w' (.slice ha hn hk) h from fun w' hb => (hh.below hW).below hb)
  have HT := Lib.hid (show ∀ w', Below W.heap.size W w' → Ints w' (.slice (some ⟨TL, 0, none⟩) u tc) tell from fun w' hb => (ht.below hW).below hb)
  have HSG := Lib.hid hs
  have HSH := Lib.hid hs'
  have HP := Lib.hid hp
  have HQ := Lib.hid hq
  have FIN : Hid (∀ w', Below W.heap.size W w' → Below w.heap.size w w') := Lib.hid fun w' hb => hW.trans (hb.mono hW.size)
  clear HB3 hWe hWs hW b0 b1 b2 hg hh ht hs hs' hp hq
  have cg0 := (BG.out.on B0.out).cell 0
  have cg1 := (BG.out.on B0.out).cell 1
  have ch0 := (BH.out.on B0.out).cell 0
  have ch1 := (BH.out.on B0.out).cell 1
  simp at cg0 cg1 ch0 ch1
  go_enter Tryd.func45, Tryd.ntmps45
  go_wp2_with fail
  refine (sgk_is k1 (HG.out _ B0.out) HP.out HSG.out).mono ?_
  rintro e w1 ⟨rfl, hb⟩
  have B1 := Lib.hid (Below.on B0.out hb)
  clear cg0 cg1 ch0 ch1
  clear hb
  have cg0 := (BG.out.on B1.out).cell 0
  have cg1 := (BG.out.on B1.out).cell 1
  have ch0 := (BH.out.on B1.out).cell 0
  have ch1 := (BH.out.on B1.out).cell 1
  simp at cg0 cg1 ch0 ch1
  go_wp2_with fail
  refine (sgk_is k2 (HH.out _ B1.out) HQ.out HSH.out).mono ?_
  rintro e w2 ⟨rfl, hb⟩
  have B2 := Lib.hid (Below.on B1.out hb)
  clear cg0 cg1 ch0 ch1
  clear hb
  have cg0 := (BG.out.on B2.out).cell 0
  have cg1 := (BG.out.on B2.out).cell 1
  have ch0 := (BH.out.on B2.out).cell 0
  have ch1 := (BH.out.on B2.out).cell 1
  simp at cg0 cg1 ch0 ch1
  go_wp2_with fail
  refine (sod_is k3 (HT.out _ B2.out)).mono ?_
  rintro e w3 ⟨rfl, hb⟩
  have B3 := Lib.hid (Below.on B2.out hb)
  clear cg0 cg1 ch0 ch1
  clear hb
  have cg0 := (BG.out.on B3.out).cell 0
  have cg1 := (BG.out.on B3.out).cell 1
  have ch0 := (BH.out.on B3.out).cell 0
  have ch1 := (BH.out.on B3.out).cell 1
  simp at cg0 cg1 ch0 ch1
  go_wp2_with fail
  refine (l1In_tb k4 _).mono ?_
  rintro e wx ⟨rfl, rfl⟩
  have B4 : Hid (Below W.heap.size W (w3.alloc (.cells #[.int .i64 p, (.slice ga gn gc)] 25))) := Lib.hid (Below.on B3.out (below_grow w3 (.cells #[.int .i64 p, (.slice ga gn gc)] 25)))
  go_wp2_with fail
  refine (smov_any p (.slice ga gn gc) (.slice (some ⟨TL, 0, none⟩) u tc) g tell _ (HG.out _ B4.out) (HT.out _ B4.out) HGK.out HOD.out).mono ?_
  rintro e w5 ⟨mv, rfl, om, hb⟩
  obtain ⟨va, vc, hv⟩ := om.form
  obtain ⟨n, hnn⟩ : ∃ n, (mov tell g).length = n := ⟨_, rfl⟩
  rw [hnn] at hv
  subst hv
  have B5 := Lib.hid (Below.on B4.out hb)
  have OM := Lib.hid om
  have SZ : Hid (W.heap.size ≤ (w3.alloc (.cells #[.int .i64 p, (.slice ga gn gc)] 25)).heap.size ∧ W.heap.size ≤ w5.heap.size) := Lib.hid ⟨B4.out.size, B5.out.size⟩
  clear cg0 cg1 ch0 ch1
  clear hb om hnn
  have O2 := own_made' w5
  have HTC2 := HTC.out _ (FIN.out _ (Below.on B5.out (below_grow w5 (.cells #[] 3))))
  have hu9 : ([] : List Int).length + u < 1000000000 := by simp; omega
  go_wp2_with (at_builtin; refine wpAppInts (xs := []) (ys := tell) rfl _ _ rfl rfl O2 HU.out hu9 (by simp) rfl HTC2 ?_)
  intro tv w6 o3 g3
  have O3 := Lib.hid (show Own w6 w5.heap.size tv tell from o3)
  have B6 := Lib.hid ((below_grow w5 (.cells #[] 3)).grown g3 (by simp) (fun k hk => (O2.lt k hk).1))
  have BW6 := Lib.hid (Below.on B5.out B6.out)
  have OM6 := Lib.hid (own_below OM.out B6.out)
  obtain ⟨ta, tcc, htv⟩ := Own.form (show Own w6 w5.heap.size tv tell from o3)
  rw [HU.out] at htv
  subst htv
  have AP : Hid (∀ k, (Value.slice va n vc).ownBlock = some k → (Value.slice ta u tcc).ownBlock = some k → False) := Lib.hid fun k h1 h2 => by
    have := (OM.out.lt k h1).2; have := (O3.out.lt k h2).1; omega
  clear o3 g3 O2 HTC2 hu9
  have co0 := (BO.out.on BW6.out).cell 0
  have co1 := (BO.out.on BW6.out).cell 1
  have co2 := (BO.out.on BW6.out).cell 2
  have co3 := (BO.out.on BW6.out).cell 3
  simp at co0 co1 co2 co3
  have f0 := (BO.out.on BW6.out).frozen 0
  have f1 := (BO.out.on BW6.out).frozen 1
  have f2 := (BO.out.on BW6.out).frozen 2
  have f3 := (BO.out.on BW6.out).frozen 3
  have FF := Lib.hid (FIN.out _ BW6.out)
  have NN : Hid (w.heap.size + 1 + 1 < (w3.alloc (.cells #[.int .i64 p, (.slice ga gn gc)] 25)).heap.size ∧ w.heap.size + 1 + 1 < w5.heap.size ∧ w.heap.size ≤ (w3.alloc (.cells #[.int .i64 p, (.slice ga gn gc)] 25)).heap.size ∧ w.heap.size ≤ w5.heap.size) := Lib.hid (by have := HWS.out; have := SZ.out; omega)
  go_wp2
  refine bodyPost_ret (v := .tuple #[.agg #[.int .i64 p, .slice va n vc, .int .i64 ask, .slice ta u tcc], .bool true]) ?_ rfl ?_
  · simp [results, Tryd.results45, go_sem, co0, co1, co2, co3]
  · unfold MdPost
    rw [HX.out.1, HX.out.2]
    exact ⟨_, _, rfl, own_set4 OM6.out NN.out.1 NN.out.2.2.1, own_set4 O3.out NN.out.2.1 NN.out.2.2.2, AP.out, below_set4 FF.out (by omega)⟩

set_option maxRecDepth 20000 in
set_option maxHeartbeats 800000 in
theorem stmd_1 (p q ask : Int) (ga ha : Option Addr) (gn gc hn hk : Nat) (tv : Value) (g h tell : List Int) (w : World) (hg : Ints w (.slice ga gn gc) g) (hh : Ints w (.slice ha hn hk) h) (ht : Ints w tv tell) (hp : intIn p) (hq : intIn q) (hs : ∀ j, j < g.length → intIn (nth g j)) (hs' : ∀ j, j < h.length → intIn (nth h j)) (hb : mdT p g q h ask tell = true) (hask : (ask == 1) = true) :
    Calls Tryd.prog 45 #[.agg #[.int .i64 p, (.slice ga gn gc)], .agg #[.int .i64 q, (.slice ha hn hk)], .int .i64 ask, tv] w (MdPost p g q h ask tell w) := by
  have hm := mdT_true.1 hb
  obtain rfl := hm.e
  have k1 := gkB_true.2 hm.gg
  have k2 := gkB_true.2 hm.gh
  have k3 := odB_true.2 hm.o
  have k4 : (decide (0 ≤ ask) && decide (ask ≤ 1)) = true := by rw [decide_eq_true hm.a0, decide_eq_true hm.a1]; rfl
  have hd : (p == p) = true := by simp
  obtain ⟨ta0, tc, etv, k5⟩ := ht.opened
  obtain ⟨u, hu⟩ : ∃ u, tell.length = u := ⟨_, rfl⟩
  have hu5 : 1 ≤ u ∧ u ≤ 5 := by have := hm.o.len; have := hm.gg.p1; have := hm.gg.p5; omega
  rw [hu] at etv
  obtain ⟨TL, etl, _, _⟩ := k5.get 0 (by omega)
  subst etl
  have HTC := Lib.hid (show ∀ w', Below w.heap.size w w' → ∀ j, j < u → w'.cell? ⟨TL, j, none⟩ = some (.int .i64 (nth tell j)) from fun w' hb j hj => by
    obtain ⟨M, e1, hl, e2⟩ := k5.get j (by omega)
    cases e1
    exact (hb.cell (p := ⟨TL, j, none⟩) hl).trans e2)
  subst etv
  have HU := Lib.hid hu
  have HX : Hid (mdT p g p h ask tell = true ∧ mov tell (frm ask g h) = mov tell h) := Lib.hid ⟨hb, by rw [show frm ask g h = h by unfold frm; simp at hask; simp [hask]]⟩
  have HGK : Hid (Gk p h) := Lib.hid hm.gh
  have HOD := Lib.hid hm.o
  clear hm hb k5 hu
  have HB3 := boxes3w (w := w) [.int .i64 p, (.slice ga gn gc)] [.int .i64 p, (.slice ha hn hk)] [.int .i64 0, .slice none 0 0, .int .i64 0, .slice none 0 0] 25 25 50
  obtain ⟨W, hWe, hWs, hW, b0, b1, b2⟩ := HB3.out
  have B0 : Hid (Below W.heap.size W (((w.alloc (.cells #[.int .i64 p, (.slice ga gn gc)] 25)).alloc (.cells #[.int .i64 p, (.slice ha hn hk)] 25)).alloc (.cells #[.int .i64 0, .slice none 0 0, .int .i64 0, .slice none 0 0] 50))) := Lib.hid (by rw [hWe]; exact Below.refl _ _)
  have HW := Lib.hid hW
  have HWS := Lib.hid hWs
  have BG := Lib.hid b0
  have BH := Lib.hid b1
  have BO := Lib.hid b2
  have HG := Lib.hid (show ∀ w', Below W.heap.size W w' → Ints w' (.slice ga gn gc) g from fun w' hb => (hg.below hW).below hb)
  have HH := Lib.hid (show ∀ w', Below W.heap.size W w' → Ints w' (.slice ha hn hk) h from fun w' hb => (hh.below hW).below hb)
  have HT := Lib.hid (show ∀ w', Below W.heap.size W w' → Ints w' (.slice (some ⟨TL, 0, none⟩) u tc) tell from fun w' hb => (ht.below hW).below hb)
  have HSG := Lib.hid hs
  have HSH := Lib.hid hs'
  have HP := Lib.hid hp
  have HQ := Lib.hid hq
  have FIN : Hid (∀ w', Below W.heap.size W w' → Below w.heap.size w w') := Lib.hid fun w' hb => hW.trans (hb.mono hW.size)
  clear HB3 hWe hWs hW b0 b1 b2 hg hh ht hs hs' hp hq
  have cg0 := (BG.out.on B0.out).cell 0
  have cg1 := (BG.out.on B0.out).cell 1
  have ch0 := (BH.out.on B0.out).cell 0
  have ch1 := (BH.out.on B0.out).cell 1
  simp at cg0 cg1 ch0 ch1
  go_enter Tryd.func45, Tryd.ntmps45
  go_wp2_with fail
  refine (sgk_is k1 (HG.out _ B0.out) HP.out HSG.out).mono ?_
  rintro e w1 ⟨rfl, hb⟩
  have B1 := Lib.hid (Below.on B0.out hb)
  clear cg0 cg1 ch0 ch1
  clear hb
  have cg0 := (BG.out.on B1.out).cell 0
  have cg1 := (BG.out.on B1.out).cell 1
  have ch0 := (BH.out.on B1.out).cell 0
  have ch1 := (BH.out.on B1.out).cell 1
  simp at cg0 cg1 ch0 ch1
  go_wp2_with fail
  refine (sgk_is k2 (HH.out _ B1.out) HQ.out HSH.out).mono ?_
  rintro e w2 ⟨rfl, hb⟩
  have B2 := Lib.hid (Below.on B1.out hb)
  clear cg0 cg1 ch0 ch1
  clear hb
  have cg0 := (BG.out.on B2.out).cell 0
  have cg1 := (BG.out.on B2.out).cell 1
  have ch0 := (BH.out.on B2.out).cell 0
  have ch1 := (BH.out.on B2.out).cell 1
  simp at cg0 cg1 ch0 ch1
  go_wp2_with fail
  refine (sod_is k3 (HT.out _ B2.out)).mono ?_
  rintro e w3 ⟨rfl, hb⟩
  have B3 := Lib.hid (Below.on B2.out hb)
  clear cg0 cg1 ch0 ch1
  clear hb
  have cg0 := (BG.out.on B3.out).cell 0
  have cg1 := (BG.out.on B3.out).cell 1
  have ch0 := (BH.out.on B3.out).cell 0
  have ch1 := (BH.out.on B3.out).cell 1
  simp at cg0 cg1 ch0 ch1
  go_wp2_with fail
  refine (l1In_tb k4 _).mono ?_
  rintro e wx ⟨rfl, rfl⟩
  have B4 : Hid (Below W.heap.size W (w3.alloc (.cells #[.int .i64 p, (.slice ha hn hk)] 25))) := Lib.hid (Below.on B3.out (below_grow w3 (.cells #[.int .i64 p, (.slice ha hn hk)] 25)))
  have d0 := (BH.out.on (Below.on B3.out (below_grow w3 (.cells #[.int .i64 p, (.slice ga gn gc)] 25)))).cell 0
  have d1 := (BH.out.on (Below.on B3.out (below_grow w3 (.cells #[.int .i64 p, (.slice ga gn gc)] 25)))).cell 1
  simp only [List.getElem?_cons_zero, List.getElem?_cons_succ] at d0 d1
  go_wp2_with fail
  refine (smov_any p (.slice ha hn hk) (.slice (some ⟨TL, 0, none⟩) u tc) h tell _ (HH.out _ B4.out) (HT.out _ B4.out) HGK.out HOD.out).mono ?_
  rintro e w5 ⟨mv, rfl, om, hb⟩
  obtain ⟨va, vc, hv⟩ := om.form
  obtain ⟨n, hnn⟩ : ∃ n, (mov tell h).length = n := ⟨_, rfl⟩
  rw [hnn] at hv
  subst hv
  have B5 := Lib.hid (Below.on B4.out hb)
  have OM := Lib.hid om
  have SZ : Hid (W.heap.size ≤ (w3.alloc (.cells #[.int .i64 p, (.slice ha hn hk)] 25)).heap.size ∧ W.heap.size ≤ w5.heap.size) := Lib.hid ⟨B4.out.size, B5.out.size⟩
  clear cg0 cg1 ch0 ch1
  clear hb om hnn
  have O2 := own_made' w5
  have HTC2 := HTC.out _ (FIN.out _ (Below.on B5.out (below_grow w5 (.cells #[] 3))))
  have hu9 : ([] : List Int).length + u < 1000000000 := by simp; omega
  go_wp2_with (at_builtin; refine wpAppInts (xs := []) (ys := tell) rfl _ _ rfl rfl O2 HU.out hu9 (by simp) rfl HTC2 ?_)
  intro tv w6 o3 g3
  have O3 := Lib.hid (show Own w6 w5.heap.size tv tell from o3)
  have B6 := Lib.hid ((below_grow w5 (.cells #[] 3)).grown g3 (by simp) (fun k hk => (O2.lt k hk).1))
  have BW6 := Lib.hid (Below.on B5.out B6.out)
  have OM6 := Lib.hid (own_below OM.out B6.out)
  obtain ⟨ta, tcc, htv⟩ := Own.form (show Own w6 w5.heap.size tv tell from o3)
  rw [HU.out] at htv
  subst htv
  have AP : Hid (∀ k, (Value.slice va n vc).ownBlock = some k → (Value.slice ta u tcc).ownBlock = some k → False) := Lib.hid fun k h1 h2 => by
    have := (OM.out.lt k h1).2; have := (O3.out.lt k h2).1; omega
  clear o3 g3 O2 HTC2 hu9
  have co0 := (BO.out.on BW6.out).cell 0
  have co1 := (BO.out.on BW6.out).cell 1
  have co2 := (BO.out.on BW6.out).cell 2
  have co3 := (BO.out.on BW6.out).cell 3
  simp at co0 co1 co2 co3
  have f0 := (BO.out.on BW6.out).frozen 0
  have f1 := (BO.out.on BW6.out).frozen 1
  have f2 := (BO.out.on BW6.out).frozen 2
  have f3 := (BO.out.on BW6.out).frozen 3
  have FF := Lib.hid (FIN.out _ BW6.out)
  have NN : Hid (w.heap.size + 1 + 1 < (w3.alloc (.cells #[.int .i64 p, (.slice ha hn hk)] 25)).heap.size ∧ w.heap.size + 1 + 1 < w5.heap.size ∧ w.heap.size ≤ (w3.alloc (.cells #[.int .i64 p, (.slice ha hn hk)] 25)).heap.size ∧ w.heap.size ≤ w5.heap.size) := Lib.hid (by have := HWS.out; have := SZ.out; omega)
  go_wp2
  refine bodyPost_ret (v := .tuple #[.agg #[.int .i64 p, .slice va n vc, .int .i64 ask, .slice ta u tcc], .bool true]) ?_ rfl ?_
  · simp [results, Tryd.results45, go_sem, co0, co1, co2, co3]
  · unfold MdPost
    rw [HX.out.1, HX.out.2]
    exact ⟨_, _, rfl, own_set4 OM6.out NN.out.1 NN.out.2.2.1, own_set4 O3.out NN.out.2.1 NN.out.2.2.2, AP.out, below_set4 FF.out (by omega)⟩

theorem stmd_any (p q ask : Int) (gv hv tv : Value) (g h tell : List Int) (w : World) (hg : Ints w gv g) (hh : Ints w hv h) (ht : Ints w tv tell) (hp : intIn p) (hq : intIn q) (hs : ∀ j, j < g.length → intIn (nth g j)) (hs' : ∀ j, j < h.length → intIn (nth h j)) :
    Calls Tryd.prog 45 #[.agg #[.int .i64 p, gv], .agg #[.int .i64 q, hv], .int .i64 ask, tv] w (MdPost p g q h ask tell w) := by
  obtain ⟨_, _, rfl, _⟩ := hg.opened
  obtain ⟨_, _, rfl, _⟩ := hh.opened
  cases hb : mdT p g q h ask tell
  · exact stmd_no p q ask _ _ _ _ _ _ tv g h tell w hg hh ht hp hq hs hs' hb
  · cases ha : (ask == 1)
    · exact stmd_0 p q ask _ _ _ _ _ _ tv g h tell w hg hh ht hp hq hs hs' hb ha
    · exact stmd_1 p q ask _ _ _ _ _ _ tv g h tell w hg hh ht hp hq hs hs' hb ha
end Go.Proofs.YtipndddmjgjgpabDoor
