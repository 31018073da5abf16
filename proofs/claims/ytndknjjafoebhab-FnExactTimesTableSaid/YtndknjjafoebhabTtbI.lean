/- impl: timesRow, TimesTable. -/
import Derived.Test.YtndknjjafoebhabTabI
import Derived.Test.YtndknjjafoebhabNumI
import Derived.Deep.Quiet
import Derived.Deep.RegionHeld3
import Derived.Laws.ResultCell
import Derived.Outline
import Derived.BigQuiet
namespace Go.Proofs.Ytndknjjafoebhab
open Go.RowKit

theorem OwnSS.grew {w w' : World} {lo : Nat} {v : Value} {us : List Value} {xss : List (List Int)} (h : OwnSS w lo w.heap.size v us xss) (hb : Below w.heap.size w w') : OwnSS w' lo w'.heap.size v us xss := (h.on hb).wider hb.size
/-- Two tables have a product that is one. -/
def ttB (a b : List (List Int)) : Bool := tabB a && (tabB b && (decide (a.length * b.length ≤ 12) && decide ((row a 0).length * (row b 0).length ≤ 8)))
def ttL (a b : List (List Int)) : List (List Int) := if ttB a b then timT a b else []
structure Tt (a b : List (List Int)) : Prop where
  ta : Tab a
  tb : Tab b
  r : a.length * b.length ≤ 12
  c : (row a 0).length * (row b 0).length ≤ 8
theorem ttB_true {a b : List (List Int)} : ttB a b = true ↔ Tt a b := by
  unfold ttB
  simp only [Bool.and_eq_true, decide_eq_true_eq, tabB_true]
  exact ⟨fun ⟨h1, h2, h3, h4⟩ => ⟨h1, h2, h3, h4⟩, fun h => ⟨h.ta, h.tb, h.r, h.c⟩⟩
theorem ttB_false {a b : List (List Int)} (h : ¬ Tt a b) : ttB a b = false := by
  cases hb : ttB a b
  · rfl
  · exact absurd (ttB_true.1 hb) h
theorem ttL_yes {a b : List (List Int)} (h : ttB a b = true) : ttL a b = timT a b := by simp [ttL, h]
theorem ttL_no {a b : List (List Int)} (h : ttB a b = false) : ttL a b = [] := by simp [ttL, h]
theorem ttL_len (a b : List (List Int)) : (ttL a b).length ≤ 12 := by
  cases h : ttB a b
  · rw [ttL_no h]; simp
  · rw [ttL_yes h, timT_len]; exact (ttB_true.1 h).r
theorem ttL_row (a b : List (List Int)) (j : Nat) (hj : j < (ttL a b).length) : (row (ttL a b) j).length ≤ 8 := by
  cases h : ttB a b
  · rw [ttL_no h] at hj; simp at hj
  · rw [ttL_yes h] at hj ⊢
    have k := ttB_true.1 h
    rw [(tim_row k.ta k.tb hj).1]; exact k.c
theorem bit_mul {x y : Int} (hx : x = 0 ∨ x = 1) (hy : y = 0 ∨ y = 1) : 0 ≤ x * y ∧ x * y ≤ 1 := by
  rcases hx with rfl | rfl <;> rcases hy with rfl | rfl <;> decide

set_option maxHeartbeats 3200000 in
theorem itrow_any (v u : Value) (r s : List Int) (w : World) (h : Ints w v r) (h' : Ints w u s) (hr : r.length ≤ 8) (hs : s.length ≤ 8) (br : ∀ j, j < r.length → nth r j = 0 ∨ nth r j = 1) (bs : ∀ j, j < s.length → nth s j = 0 ∨ nth s j = 1) :
    Calls Try.prog 19 #[v, u] w fun e w' => ∃ x, e = .returned x ∧ Own w' w.heap.size x (mulRow r s) ∧ Below w.heap.size w w' := by
  obtain ⟨a, c, rfl, k1⟩ := h.opened
  obtain ⟨a', c', rfl, k2⟩ := h'.opened
  obtain ⟨n, hn⟩ : ∃ n, r.length = n := ⟨_, rfl⟩
  obtain ⟨m, hm⟩ : ∃ m, s.length = m := ⟨_, rfl⟩
  have HC := Lib.hid (show ∀ w', Below w.heap.size w w' → ∀ k, k < n → _ from fun w' hb k hk => (k1.on hb).get k (by rw [hn]; exact hk))
  have HD := Lib.hid (show ∀ w', Below w.heap.size w w' → ∀ k, k < m → _ from fun w' hb k hk => (k2.on hb).get k (by rw [hm]; exact hk))
  have BR := Lib.hid (show ∀ k, k < n → _ from fun k hk => br k (by rw [hn]; exact hk))
  have BS := Lib.hid (show ∀ k, k < m → _ from fun k hk => bs k (by rw [hm]; exact hk))
  obtain ⟨M, hM⟩ : ∃ M : Nat → List Int, M = mulTo r s := ⟨_, rfl⟩
  obtain ⟨I, hI⟩ : ∃ I : Nat → Nat → List Int, I = fun i j => mulTo r s i ++ mulIn (nth r i) s j := ⟨_, rfl⟩
  have HX : Hid (mulRow r s = M n) := Lib.hid (by rw [hM, ← hn]; rfl)
  have H0 : Hid (M 0 = []) := Lib.hid (by rw [hM]; rfl)
  have HI0 : Hid (∀ i, I i 0 = M i) := Lib.hid (fun i => by rw [hI, hM]; exact List.append_nil _)
  have HI1 : Hid (∀ i j, I i (j + 1) = I i j ++ [nth r i * nth s j]) := Lib.hid (fun i j => by rw [hI]; show mulTo r s i ++ (mulIn (nth r i) s j ++ [nth r i * nth s j]) = _; rw [List.append_assoc])
  have HIm : Hid (∀ i, I i m = M (i + 1)) := Lib.hid (fun i => by rw [hI, hM, ← hm]; rfl)
  have HL : Hid (∀ i j, i < n → j < m → (I i j).length < 1000) := Lib.hid (fun i j hi hj => by
    rw [hI]
    show (mulTo r s i ++ mulIn (nth r i) s j).length < 1000
    rw [List.length_append, mulTo_len, mulIn_len, hm]
    have := Nat.mul_le_mul (show i ≤ 8 by omega) (show m ≤ 8 by omega)
    omega)
  rw [hn] at hr ⊢
  rw [hm] at hs ⊢
  clear h h' k1 k2 br bs hn hm hM hI
  go_enter Try.func19, Try.ntmps19
  go_wp2
  go_loopw [5, 12] (fun x i wr => ∃ k : Nat, k ≤ n ∧ i = .int .i64 k ∧ Hid (Own wr w.heap.size x (M k)) ∧ Hid (Below w.heap.size w wr)) (fun _ i _ => n - (intOf i).toNat)
  case atStart => exact ⟨0, by omega, rfl, Lib.hid (by rw [H0.out]; exact World.ownsRow_nil _ _ _ _), Lib.hid (Below.refl _ _)⟩
  case round =>
    obtain ⟨k, hk, rfl, hO, hB⟩ := hrel
    obtain ⟨wo, rfl⟩ : ∃ wo : World, wo = wr := ⟨_, rfl⟩
    by_cases hlt : k < n
    · obtain ⟨g, rfl, _, hc⟩ := HC.out _ hB.out k hlt
      obtain ⟨xk, hxk⟩ : ∃ xk, nth r k = xk := ⟨_, rfl⟩
      have bxk := BR.out k hlt
      have J1 : Hid (∀ j, I k (j + 1) = I k j ++ [xk * nth s j]) := Lib.hid (fun j => by rw [HI1.out, hxk])
      have JL := Lib.hid (fun j (hj : j < m) => HL.out k j hlt hj)
      have JM := Lib.hid (HIm.out k)
      have O1 : Hid (Own wo w.heap.size u5 (I k 0)) := Lib.hid (by rw [HI0.out]; exact hO.out)
      rw [hxk] at hc bxk
      clear hxk hO
      go_wp2
      clear hc
      go_loopw [5, 18] (fun x i wr => ∃ j : Nat, j ≤ m ∧ i = .int .i64 j ∧ Hid (Own wr w.heap.size x (I k j)) ∧ Hid (Below w.heap.size w wr)) (fun _ i _ => m - (intOf i).toNat)
      case atStart => exact ⟨0, by omega, rfl, O1, hB⟩
      case round =>
        obtain ⟨j, hj, rfl, hO2, hB2⟩ := hrel
        obtain ⟨wj, rfl⟩ : ∃ wj : World, wj = wr := ⟨_, rfl⟩
        clear O1
        by_cases hjl : j < m
        · obtain ⟨g', rfl, _, hc'⟩ := HD.out _ hB2.out j hjl
          obtain ⟨yj, hyj⟩ : ∃ yj, nth s j = yj := ⟨_, rfl⟩
          have byj := BS.out j hjl
          have JJ := Lib.hid (J1.out j)
          rw [hyj] at hc' byj JJ
          obtain ⟨p1, p2⟩ := bit_mul bxk byj
          have o1 := hO2.out
          have l1 := JL.out j hjl
          have z1 := hB2.out.size
          have q1 : (-9223372036854775808 : Int) ≤ xk * yj := by omega
          have q2 : xk * yj < 9223372036854775808 := by omega
          clear hyj byj hO2
          go_wp2_with (at_builtin; refine wpAppInt rfl _ _ rfl rfl o1 (by omega) z1 rfl ?_)
          intro v2 w2 o2 g2 _
          have O2 : Hid (Own w2 w.heap.size v2 (I k (j + 1))) := Lib.hid (by rw [JJ.out]; exact o2)
          have B2 := Lib.hid (hB2.out.grown g2 z1 (fun k hk => (o1.lt k hk).1))
          clear o1 l1 z1 o2 g2 hB2 hc' p1 p2 q1 q2
          go_wp2
          go_roundw
          case rel => exact ⟨j + 1, by omega, by go_num, O2, B2⟩
          case measure => simp [intOf]; omega
        · obtain rfl : j = m := by omega
          have O2 : Hid (Own wj w.heap.size u5 (M (k + 1))) := Lib.hid (by rw [← JM.out]; exact hO2.out)
          clear hO2
          go_wp2
          go_roundw
          case rel => exact ⟨k + 1, by omega, by go_num, O2, hB2⟩
          case measure => simp [intOf]; omega
    · obtain rfl : k = n := by omega
      go_wp2
      go_ret
      exact ⟨_, rfl, by rw [HX.out]; exact hO.out, hB.out⟩

theorem itab_is {v : Value} {t : List (List Int)} {w : World} {r : Bool} (h : tabB t = r) (hi : IntSS w v t) : Calls Try.prog 8 #[v] w fun e w' => e = .returned (.bool r) ∧ Below w.heap.size w w' := by rw [← h]; exact itab_any v t w hi
/-- One walk of the text serves every order, at whatever class of worlds that the region's first world is of. -/
theorem wp_region_clx {P : Program} {C : World → Prop} {id : Nat} {Q : Exit → Act → World → Prop} {a : Act} {w : World} {l : List Oper} (hm : P.follows .mixedOrders = true) (hB : Region.lexB .any l.toArray = true) (hC : C w.drew)
    (h : wpQuiet P l.toArray C (fun a' => ∀ w', C w' → Q .normal a' w') l a) : (Code.region id l.toArray true).wp P Q a w :=
  wp_region_quiet (C := C) hm hB hC (by simpa using h)

def TtPost (a b : List (List Int)) (w : World) (e : Ending) (w' : World) : Prop := ∃ v us, e = .returned (.tuple #[v, .bool (ttB a b)]) ∧ OwnSS w' w.heap.size w'.heap.size v us (ttL a b) ∧ Below w.heap.size w w'

theorem ittb_no1 (va vb : Value) (a b : List (List Int)) (w : World) (h : IntSS w va a) (h' : IntSS w vb b) (ha : tabB a = false) : Calls Try.prog 11 #[va, vb] w (TtPost a b w) := by
  have HIA := Lib.hid (show ∀ w', Below w.heap.size w w' → IntSS w' va a from fun w' hb => h.on hb)
  have HIB := Lib.hid (show ∀ w', Below w.heap.size w w' → IntSS w' vb b from fun w' hb => h'.on hb)
  have HD : Hid (Below w.heap.size w w.drew) := Lib.hid (Below.refl _ _).drew
  have hk : ttB a b = false := ttB_false fun k => by rw [tabB_true.2 k.ta] at ha; cases ha
  have HX := Lib.hid hk
  have HY := Lib.hid (ttL_no hk)
  clear h h' hk
  go_enter Try.func11, Try.ntmps11
  go_wp2_with fail
  refine wp_region_clx (C := fun w' => Hid (Below w.heap.size w w')) (by kernel_rfl) (by kernel_rfl) HD ?_
  repeat (first | go_big_quiet_skip | (go_big_quiet_want; go_big_quiet_op; first | go_big_quiet_on | (refine ⟨_, fun _ _ => rfl, ?_⟩; go_big_quiet_on)))
  go_big_quiet_want
  go_big_quiet_op
  go_big_quiet_call ((intro hw; exact (itab_is ha (HIA.out _ hw.out)).mono fun _ _ ⟨he, hb⟩ => ⟨he, Lib.hid (Below.on hw.out hb)⟩))
  repeat (first | go_big_quiet_skip | (go_big_quiet_want; go_big_quiet_op; first | go_big_quiet_on | (refine ⟨_, fun _ _ => rfl, ?_⟩; go_big_quiet_on)))
  refine wpQuiet_nil ?_
  intro w2 hw2
  clear ha HD
  go_wp2
  go_ret2
  exact ⟨_, [], by rw [HX.out]; rfl, by rw [HY.out]; exact OwnSS.nil _ _ _, hw2.out⟩

theorem ittb_no2 (va vb : Value) (a b : List (List Int)) (w : World) (h : IntSS w va a) (h' : IntSS w vb b) (ha : tabB a = true) (hb : tabB b = false) : Calls Try.prog 11 #[va, vb] w (TtPost a b w) := by
  have HIA := Lib.hid (show ∀ w', Below w.heap.size w w' → IntSS w' va a from fun w' hb => h.on hb)
  have HIB := Lib.hid (show ∀ w', Below w.heap.size w w' → IntSS w' vb b from fun w' hb => h'.on hb)
  have HD : Hid (Below w.heap.size w w.drew) := Lib.hid (Below.refl _ _).drew
  have hk : ttB a b = false := ttB_false fun k => by rw [tabB_true.2 k.tb] at hb; cases hb
  have HX := Lib.hid hk
  have HY := Lib.hid (ttL_no hk)
  clear h h' hk
  go_enter Try.func11, Try.ntmps11
  go_wp2_with fail
  refine wp_region_clx (C := fun w' => Hid (Below w.heap.size w w')) (by kernel_rfl) (by kernel_rfl) HD ?_
  repeat (first | go_big_quiet_skip | (go_big_quiet_want; go_big_quiet_op; first | go_big_quiet_on | (refine ⟨_, fun _ _ => rfl, ?_⟩; go_big_quiet_on)))
  go_big_quiet_want
  go_big_quiet_op
  go_big_quiet_call ((intro hw; exact (itab_is ha (HIA.out _ hw.out)).mono fun _ _ ⟨he, hb⟩ => ⟨he, Lib.hid (Below.on hw.out hb)⟩))
  repeat (first | go_big_quiet_skip | (go_big_quiet_want; go_big_quiet_op; first | go_big_quiet_on | (refine ⟨_, fun _ _ => rfl, ?_⟩; go_big_quiet_on)))
  go_big_quiet_want
  go_big_quiet_op
  go_big_quiet_call ((intro hw; exact (itab_is hb (HIB.out _ hw.out)).mono fun _ _ ⟨he, hb⟩ => ⟨he, Lib.hid (Below.on hw.out hb)⟩))
  repeat (first | go_big_quiet_skip | (go_big_quiet_want; go_big_quiet_op; first | go_big_quiet_on | (refine ⟨_, fun _ _ => rfl, ?_⟩; go_big_quiet_on)))
  refine wpQuiet_nil ?_
  intro w2 hw2
  clear ha hb HD
  go_wp2
  go_ret2
  exact ⟨_, [], by rw [HX.out]; rfl, by rw [HY.out]; exact OwnSS.nil _ _ _, hw2.out⟩

theorem ittb_no3 (va vb : Value) (a b : List (List Int)) (w : World) (h : IntSS w va a) (h' : IntSS w vb b) (ha : tabB a = true) (hb : tabB b = true) (hc : ¬ a.length * b.length ≤ 12) : Calls Try.prog 11 #[va, vb] w (TtPost a b w) := by
  have HIA := Lib.hid (show ∀ w', Below w.heap.size w w' → IntSS w' va a from fun w' hb => h.on hb)
  have HIB := Lib.hid (show ∀ w', Below w.heap.size w w' → IntSS w' vb b from fun w' hb => h'.on hb)
  have HD : Hid (Below w.heap.size w w.drew) := Lib.hid (Below.refl _ _).drew
  have hk : ttB a b = false := ttB_false fun k => hc k.r
  have HX := Lib.hid hk
  have HY := Lib.hid (ttL_no hk)
  have ra := (tabB_true.1 ha).r2
  have rb := (tabB_true.1 hb).r2
  obtain ⟨aa, ac, rfl, _⟩ := id h.opened
  obtain ⟨ba, bc, rfl, _⟩ := id h'.opened
  obtain ⟨n, hn⟩ : ∃ n, a.length = n := ⟨_, rfl⟩
  obtain ⟨m, hm⟩ : ∃ m, b.length = m := ⟨_, rfl⟩
  rw [hn] at hc ra HIA ⊢
  rw [hm] at hc rb HIB ⊢
  have hp := Nat.mul_le_mul ra rb
  have p1 : (12 : Int) < (n : Int) * (m : Int) := by rw [← Int.natCast_mul]; omega
  have p2 : (n : Int) * (m : Int) ≤ 144 := by rw [← Int.natCast_mul]; omega
  have q1 : IntKind.wrap .i64 ((n : Int) * (m : Int)) = (n : Int) * (m : Int) := wrap_small _ (by omega) (by omega)
  clear h h' hk hp hc hn hm
  go_enter Try.func11, Try.ntmps11
  go_wp2_with fail
  refine wp_region_clx (C := fun w' => Hid (Below w.heap.size w w')) (by kernel_rfl) (by kernel_rfl) HD ?_
  repeat (first | go_big_quiet_skip | (go_big_quiet_want; go_big_quiet_op; first | go_big_quiet_on | (refine ⟨_, fun _ _ => rfl, ?_⟩; go_big_quiet_on)))
  go_big_quiet_want
  go_big_quiet_op
  go_big_quiet_call ((intro hw; exact (itab_is ha (HIA.out _ hw.out)).mono fun _ _ ⟨he, hb⟩ => ⟨he, Lib.hid (Below.on hw.out hb)⟩))
  repeat (first | go_big_quiet_skip | (go_big_quiet_want; go_big_quiet_op; first | go_big_quiet_on | (refine ⟨_, fun _ _ => rfl, ?_⟩; go_big_quiet_on)))
  go_big_quiet_want
  go_big_quiet_op
  go_big_quiet_call ((intro hw; exact (itab_is hb (HIB.out _ hw.out)).mono fun _ _ ⟨he, hb⟩ => ⟨he, Lib.hid (Below.on hw.out hb)⟩))
  repeat (first | go_big_quiet_skip | (go_big_quiet_want; go_big_quiet_op; first | go_big_quiet_on | (refine ⟨_, fun _ _ => rfl, ?_⟩; go_big_quiet_on)))
  refine wpQuiet_nil ?_
  intro w2 hw2
  clear ha hb HD
  go_wp2
  go_ret2
  exact ⟨_, [], by rw [HX.out]; rfl, by rw [HY.out]; exact OwnSS.nil _ _ _, hw2.out⟩

theorem ittb_no4 (va vb : Value) (a b : List (List Int)) (w : World) (h : IntSS w va a) (h' : IntSS w vb b) (ha : tabB a = true) (hb : tabB b = true) (hc : a.length * b.length ≤ 12) (hd : ¬ (row a 0).length * (row b 0).length ≤ 8) : Calls Try.prog 11 #[va, vb] w (TtPost a b w) := by
  have HIA := Lib.hid (show ∀ w', Below w.heap.size w w' → IntSS w' va a from fun w' hb => h.on hb)
  have HIB := Lib.hid (show ∀ w', Below w.heap.size w w' → IntSS w' vb b from fun w' hb => h'.on hb)
  have HD : Hid (Below w.heap.size w w.drew) := Lib.hid (Below.refl _ _).drew
  have hk : ttB a b = false := ttB_false fun k => hd k.c
  have HX := Lib.hid hk
  have HY := Lib.hid (ttL_no hk)
  have ta := tabB_true.1 ha
  have tb := tabB_true.1 hb
  have ra := ta.r2
  have rb := tb.r2
  have ra1 := ta.r1
  have rb1 := tb.r1
  have ca := ta.a2
  have cb := tb.a2
  obtain ⟨aa, ac, rfl, k1⟩ := id h.opened
  obtain ⟨ba, bc, rfl, k2⟩ := id h'.opened
  have HCA := Lib.hid (show ∀ w', Below w.heap.size w w' → ∀ k, k < a.length → _ from fun w' hb k hk => (k1.on hb).get k hk)
  have HCB := Lib.hid (show ∀ w', Below w.heap.size w w' → ∀ k, k < b.length → _ from fun w' hb k hk => (k2.on hb).get k hk)
  obtain ⟨GA, x0, rfl, hGA, hx0, hxi⟩ := k1.get 0 (by omega)
  obtain ⟨xa, xc, rfl, _⟩ := hxi.opened
  obtain ⟨GB, y0, rfl, hGB, hy0, hyi⟩ := k2.get 0 (by omega)
  obtain ⟨ya, yc, rfl, _⟩ := hyi.opened
  have LA := Lib.hid (show ∀ w', Below w.heap.size w w' → w'.cell? ⟨GA, 0, none⟩ = _ from fun w' hb => (hb.cell (p := ⟨GA, 0, none⟩) hGA).trans hx0)
  have LB := Lib.hid (show ∀ w', Below w.heap.size w w' → w'.cell? ⟨GB, 0, none⟩ = _ from fun w' hb => (hb.cell (p := ⟨GB, 0, none⟩) hGB).trans hy0)
  obtain ⟨n, hn⟩ : ∃ n, a.length = n := ⟨_, rfl⟩
  obtain ⟨m, hm⟩ : ∃ m, b.length = m := ⟨_, rfl⟩
  obtain ⟨p, hp⟩ : ∃ p, (row a 0).length = p := ⟨_, rfl⟩
  obtain ⟨q, hq⟩ : ∃ q, (row b 0).length = q := ⟨_, rfl⟩
  rw [hn] at hc ra ra1 HIA HCA ⊢
  rw [hm] at hc rb rb1 HIB HCB ⊢
  rw [hp] at hd ca LA
  rw [hq] at hd cb LB
  have hpq := Nat.mul_le_mul ca cb
  have p1 : decide ((12 : Int) < (n : Int) * (m : Int)) = false := by rw [← Int.natCast_mul]; exact decide_eq_false (by omega)
  have p1' : (n : Int) * (m : Int) ≤ 12 := by rw [← Int.natCast_mul]; omega
  have p2 : 0 ≤ (n : Int) * (m : Int) := by rw [← Int.natCast_mul]; omega
  have p3 : (p : Int) * (q : Int) ≤ 144 := by rw [← Int.natCast_mul]; omega
  have p4 : 0 ≤ (p : Int) * (q : Int) := by rw [← Int.natCast_mul]; omega
  have q1 : IntKind.wrap .i64 ((n : Int) * (m : Int)) = (n : Int) * (m : Int) := wrap_small _ (by omega) (by omega)
  have q2 : IntKind.wrap .i64 ((p : Int) * (q : Int)) = (p : Int) * (q : Int) := wrap_small _ (by omega) (by omega)
  have n0 : (0 : Int) < (n : Int) := by omega
  have m0 : (0 : Int) < (m : Int) := by omega
  have p5 : (8 : Int) < (p : Int) * (q : Int) := by rw [← Int.natCast_mul]; omega
  clear h h' hk hc hd hn hm hp hq hpq k1 k2 hx0 hxi hy0 hyi ta tb
  go_enter Try.func11, Try.ntmps11
  go_wp2_with fail
  refine wp_region_clx (C := fun w' => Hid (Below w.heap.size w w')) (by kernel_rfl) (by kernel_rfl) HD ?_
  repeat (first | go_big_quiet_skip | (go_big_quiet_want; go_big_quiet_op; first | go_big_quiet_on | (refine ⟨_, fun _ _ => rfl, ?_⟩; go_big_quiet_on)))
  go_big_quiet_want
  go_big_quiet_op
  go_big_quiet_call ((intro hw; exact (itab_is ha (HIA.out _ hw.out)).mono fun _ _ ⟨he, hb⟩ => ⟨he, Lib.hid (Below.on hw.out hb)⟩))
  repeat (first | go_big_quiet_skip | (go_big_quiet_want; go_big_quiet_op; first | go_big_quiet_on | (refine ⟨_, fun _ _ => rfl, ?_⟩; go_big_quiet_on)))
  go_big_quiet_want
  go_big_quiet_op
  go_big_quiet_call ((intro hw; exact (itab_is hb (HIB.out _ hw.out)).mono fun _ _ ⟨he, hb⟩ => ⟨he, Lib.hid (Below.on hw.out hb)⟩))
  repeat (first | go_big_quiet_skip | (go_big_quiet_want; go_big_quiet_op; first | go_big_quiet_on | (refine ⟨_, fun _ _ => rfl, ?_⟩; go_big_quiet_on)))
  go_big_quiet_want
  go_big_quiet_op
  refine ⟨.slice xa p xc, fun w' hw' => ?_, ?_⟩
  · have q := LA.out w' hw'.out
    simp [go_sem, q]
  go_big_quiet_on
  repeat (first | go_big_quiet_skip | (go_big_quiet_want; go_big_quiet_op; first | go_big_quiet_on | (refine ⟨_, fun _ _ => rfl, ?_⟩; go_big_quiet_on)))
  go_big_quiet_want
  go_big_quiet_op
  refine ⟨.slice ya q yc, fun w' hw' => ?_, ?_⟩
  · have q := LB.out w' hw'.out
    simp [go_sem, q]
  go_big_quiet_on
  repeat (first | go_big_quiet_skip | (go_big_quiet_want; go_big_quiet_op; first | go_big_quiet_on | (refine ⟨_, fun _ _ => rfl, ?_⟩; go_big_quiet_on)))
  refine wpQuiet_nil ?_
  intro w2 hw2
  clear ha hb HD
  go_wp2
  go_ret2
  exact ⟨_, [], by rw [HX.out]; rfl, by rw [HY.out]; exact OwnSS.nil _ _ _, hw2.out⟩

set_option maxHeartbeats 3200000 in
theorem ittb_yes (va vb : Value) (a b : List (List Int)) (w : World) (h : IntSS w va a) (h' : IntSS w vb b) (ha : tabB a = true) (hb : tabB b = true) (hc : a.length * b.length ≤ 12) (hd : (row a 0).length * (row b 0).length ≤ 8) : Calls Try.prog 11 #[va, vb] w (TtPost a b w) := by
  have HIA := Lib.hid (show ∀ w', Below w.heap.size w w' → IntSS w' va a from fun w' hb => h.on hb)
  have HIB := Lib.hid (show ∀ w', Below w.heap.size w w' → IntSS w' vb b from fun w' hb => h'.on hb)
  have HD : Hid (Below w.heap.size w w.drew) := Lib.hid (Below.refl _ _).drew
  have hk : ttB a b = true := ttB_true.2 ⟨tabB_true.1 ha, tabB_true.1 hb, hc, hd⟩
  have HX := Lib.hid hk
  have ta := tabB_true.1 ha
  have tb := tabB_true.1 hb
  have ra := ta.r2
  have rb := tb.r2
  have ra1 := ta.r1
  have rb1 := tb.r1
  have ca := ta.a2
  have cb := tb.a2
  obtain ⟨aa, ac, rfl, k1⟩ := id h.opened
  obtain ⟨ba, bc, rfl, k2⟩ := id h'.opened
  have HCA := Lib.hid (show ∀ k, k < a.length → ∃ G x, aa = some ⟨G, 0, none⟩ ∧ (∀ w', Below w.heap.size w w' → w'.cell? ⟨G, k, none⟩ = some x) ∧ (∃ ax cx, x = .slice ax (row a k).length cx) ∧ ∀ w', Below w.heap.size w w' → Ints w' x (row a k) from fun k hk => by
    obtain ⟨G, x, e1, hl, e2, e3⟩ := k1.get k hk
    obtain ⟨ax, cx, e4, _⟩ := e3.opened
    exact ⟨G, x, e1, fun w' hb => (hb.cell (p := ⟨G, k, none⟩) hl).trans e2, ⟨ax, cx, e4⟩, fun w' hb => e3.below hb⟩)
  have HCB := Lib.hid (show ∀ w', Below w.heap.size w w' → ∀ k, k < b.length → _ from fun w' hb k hk => (k2.on hb).get k hk)
  obtain ⟨GA, x0, rfl, hGA, hx0, hxi⟩ := k1.get 0 (by omega)
  obtain ⟨xa, xc, rfl, _⟩ := hxi.opened
  obtain ⟨GB, y0, rfl, hGB, hy0, hyi⟩ := k2.get 0 (by omega)
  obtain ⟨ya, yc, rfl, _⟩ := hyi.opened
  have LA := Lib.hid (show ∀ w', Below w.heap.size w w' → w'.cell? ⟨GA, 0, none⟩ = _ from fun w' hb => (hb.cell (p := ⟨GA, 0, none⟩) hGA).trans hx0)
  have LB := Lib.hid (show ∀ w', Below w.heap.size w w' → w'.cell? ⟨GB, 0, none⟩ = _ from fun w' hb => (hb.cell (p := ⟨GB, 0, none⟩) hGB).trans hy0)
  obtain ⟨n, hn⟩ : ∃ n, a.length = n := ⟨_, rfl⟩
  obtain ⟨m, hm⟩ : ∃ m, b.length = m := ⟨_, rfl⟩
  obtain ⟨p, hp⟩ : ∃ p, (row a 0).length = p := ⟨_, rfl⟩
  obtain ⟨q, hq⟩ : ∃ q, (row b 0).length = q := ⟨_, rfl⟩
  obtain ⟨T, hT⟩ : ∃ T : Nat → List (List Int), T = timTo a b := ⟨_, rfl⟩
  obtain ⟨I, hI⟩ : ∃ I : Nat → Nat → List (List Int), I = fun i j => timTo a b i ++ timIn (row a i) b j := ⟨_, rfl⟩
  have HY : Hid (ttL a b = T n) := Lib.hid (by rw [ttL_yes hk, hT, ← hn]; rfl)
  have H0 : Hid (T 0 = []) := Lib.hid (by rw [hT]; rfl)
  have HI0 : Hid (∀ i, I i 0 = T i) := Lib.hid (fun i => by rw [hI, hT]; exact List.append_nil _)
  have HI1 : Hid (∀ i j, I i (j + 1) = I i j ++ [mulRow (row a i) (row b j)]) := Lib.hid (fun i j => by rw [hI]; show timTo a b i ++ (timIn (row a i) b j ++ [mulRow (row a i) (row b j)]) = _; rw [List.append_assoc])
  have HIm : Hid (∀ i, I i m = T (i + 1)) := Lib.hid (fun i => by rw [hI, hT, ← hm]; rfl)
  have HL : Hid (∀ i j, i < n → j < m → (I i j).length < 1000) := Lib.hid (fun i j hi hj => by
    rw [hI]
    show (timTo a b i ++ timIn (row a i) b j).length < 1000
    rw [List.length_append, timTo_len, timIn_len, hm]
    have := Nat.mul_le_mul (show i ≤ 12 by omega) (show m ≤ 12 by omega)
    omega)
  have HRA := Lib.hid (show ∀ k, k < n → (row a k).length ≤ 8 ∧ ∀ j, j < (row a k).length → nth (row a k) j = 0 ∨ nth (row a k) j = 1 from fun k hk => ⟨by rw [ta.len k (by omega)]; exact ca, fun j hj => ta.bit k j (by omega) hj⟩)
  have HRB := Lib.hid (show ∀ k, k < m → (row b k).length ≤ 8 ∧ ∀ j, j < (row b k).length → nth (row b k) j = 0 ∨ nth (row b k) j = 1 from fun k hk => ⟨by rw [tb.len k (by omega)]; exact cb, fun j hj => tb.bit k j (by omega) hj⟩)
  rw [hn] at hc ra ra1 HIA HCA ⊢
  rw [hm] at hc rb rb1 HIB HCB ⊢
  rw [hp] at hd ca LA
  rw [hq] at hd cb LB
  have hpq := Nat.mul_le_mul ca cb
  have p1 : decide ((12 : Int) < (n : Int) * (m : Int)) = false := by rw [← Int.natCast_mul]; exact decide_eq_false (by omega)
  have p1' : (n : Int) * (m : Int) ≤ 12 := by rw [← Int.natCast_mul]; omega
  have p2 : 0 ≤ (n : Int) * (m : Int) := by rw [← Int.natCast_mul]; omega
  have p3 : (p : Int) * (q : Int) ≤ 144 := by rw [← Int.natCast_mul]; omega
  have p4 : 0 ≤ (p : Int) * (q : Int) := by rw [← Int.natCast_mul]; omega
  have q1 : IntKind.wrap .i64 ((n : Int) * (m : Int)) = (n : Int) * (m : Int) := wrap_small _ (by omega) (by omega)
  have q2 : IntKind.wrap .i64 ((p : Int) * (q : Int)) = (p : Int) * (q : Int) := wrap_small _ (by omega) (by omega)
  have n0 : (0 : Int) < (n : Int) := by omega
  have m0 : (0 : Int) < (m : Int) := by omega
  have p5 : decide ((8 : Int) < (p : Int) * (q : Int)) = false := by rw [← Int.natCast_mul]; exact decide_eq_false (by omega)
  clear h h' hk hc hd hn hm hp hq hpq k1 k2 hx0 hxi hy0 hyi ta tb hT hI
  go_enter Try.func11, Try.ntmps11
  go_wp2_with fail
  refine wp_region_clx (C := fun w' => Hid (Below w.heap.size w w')) (by kernel_rfl) (by kernel_rfl) HD ?_
  repeat (first | go_big_quiet_skip | (go_big_quiet_want; go_big_quiet_op; first | go_big_quiet_on | (refine ⟨_, fun _ _ => rfl, ?_⟩; go_big_quiet_on)))
  go_big_quiet_want
  go_big_quiet_op
  go_big_quiet_call ((intro hw; exact (itab_is ha (HIA.out _ hw.out)).mono fun _ _ ⟨he, hb⟩ => ⟨he, Lib.hid (Below.on hw.out hb)⟩))
  repeat (first | go_big_quiet_skip | (go_big_quiet_want; go_big_quiet_op; first | go_big_quiet_on | (refine ⟨_, fun _ _ => rfl, ?_⟩; go_big_quiet_on)))
  go_big_quiet_want
  go_big_quiet_op
  go_big_quiet_call ((intro hw; exact (itab_is hb (HIB.out _ hw.out)).mono fun _ _ ⟨he, hb⟩ => ⟨he, Lib.hid (Below.on hw.out hb)⟩))
  repeat (first | go_big_quiet_skip | (go_big_quiet_want; go_big_quiet_op; first | go_big_quiet_on | (refine ⟨_, fun _ _ => rfl, ?_⟩; go_big_quiet_on)))
  go_big_quiet_want
  go_big_quiet_op
  refine ⟨.slice xa p xc, fun w' hw' => ?_, ?_⟩
  · have q := LA.out w' hw'.out
    simp [go_sem, q]
  go_big_quiet_on
  repeat (first | go_big_quiet_skip | (go_big_quiet_want; go_big_quiet_op; first | go_big_quiet_on | (refine ⟨_, fun _ _ => rfl, ?_⟩; go_big_quiet_on)))
  go_big_quiet_want
  go_big_quiet_op
  refine ⟨.slice ya q yc, fun w' hw' => ?_, ?_⟩
  · have q := LB.out w' hw'.out
    simp [go_sem, q]
  go_big_quiet_on
  repeat (first | go_big_quiet_skip | (go_big_quiet_want; go_big_quiet_op; first | go_big_quiet_on | (refine ⟨_, fun _ _ => rfl, ?_⟩; go_big_quiet_on)))
  refine wpQuiet_nil ?_
  intro w2 hw2
  clear ha hb HD p1 p1' p2 p3 p4 p5 q1 q2
  go_wp2
  go_loopw [6, 41] (fun x i wr => ∃ k : Nat, k ≤ n ∧ i = .int .i64 k ∧ Hid (∃ us, OwnSS wr w.heap.size wr.heap.size x us (T k)) ∧ Hid (Below w.heap.size w wr)) (fun _ i _ => n - (intOf i).toNat)
  case atStart => exact ⟨0, by omega, rfl, Lib.hid ⟨[], by rw [H0.out]; exact OwnSS.nil _ _ _⟩, hw2⟩
  case round =>
    obtain ⟨k, hk, rfl, hO, hB⟩ := hrel
    obtain ⟨wo, rfl⟩ : ∃ wo : World, wo = wr := ⟨_, rfl⟩
    by_cases hlt : k < n
    · obtain ⟨g, x, e1, hcx0, ⟨ax, cx, rfl⟩, hxi⟩ := HCA.out k hlt
      obtain rfl : GA = g := by cases e1; rfl
      have hcx := hcx0 _ hB.out
      have HXI := Lib.hid hxi
      have RA := Lib.hid (HRA.out k hlt)
      have J1 := Lib.hid (HI1.out k)
      have JL := Lib.hid (fun j (hj : j < m) => HL.out k j hlt hj)
      have JM := Lib.hid (HIm.out k)
      have O1 : Hid (∃ us, OwnSS wo w.heap.size wo.heap.size u6 us (I k 0)) := Lib.hid (by rw [HI0.out]; exact hO.out)
      clear e1 hxi hO hcx0
      go_wp2
      clear hcx
      go_loopw [6, 47] (fun x i wr => ∃ j : Nat, j ≤ m ∧ i = .int .i64 j ∧ Hid (∃ us, OwnSS wr w.heap.size wr.heap.size x us (I k j)) ∧ Hid (Below w.heap.size w wr)) (fun _ i _ => m - (intOf i).toNat)
      case atStart => exact ⟨0, by omega, rfl, O1, hB⟩
      case round =>
        obtain ⟨j, hj, rfl, hO2, hB2⟩ := hrel
        obtain ⟨wj, rfl⟩ : ∃ wj : World, wj = wr := ⟨_, rfl⟩
        clear O1
        by_cases hjl : j < m
        · obtain ⟨g', y, e2, _, hcy, hyi⟩ := HCB.out _ hB2.out j hjl
          obtain rfl : GB = g' := by cases e2; rfl
          obtain ⟨ay, cy, rfl, _⟩ := id hyi.opened
          have HYI := Lib.hid hyi
          have RB := Lib.hid (HRB.out j hjl)
          have JJ := Lib.hid (J1.out j)
          have l1 := JL.out j hjl
          clear e2 hyi
          go_wp2_with fail
          refine (itrow_any _ _ (row a k) (row b j) _ (HXI.out _ hB2.out) HYI.out RA.out.1 RB.out.1 RA.out.2 RB.out.2).mono ?_
          rintro e w4 ⟨rv, rfl, hrv, hb4⟩
          obtain ⟨ar, cr, hur⟩ := hrv.form
          subst hur
          have HRV := Lib.hid hrv
          have HB4 := Lib.hid hb4
          obtain ⟨us, ho⟩ := hO2.out
          have HO := Lib.hid ho
          have hul : us.length < 1000000000 := by have := ho.len; omega
          have hou := (ho.on hb4).outer
          have hlo := Nat.le_trans hB2.out.size hb4.size
          clear ho hb4 hrv hcy hO2
          go_wp2_with (at_builtin; refine wpAppRow rfl _ _ rfl rfl hou (by omega) hlo rfl rfl ?_)
          intro v5 w5 o5 g5 k5
          have O5 : Hid (∃ us, OwnSS w5 w.heap.size w5.heap.size v5 us (I k (j + 1))) := Lib.hid ⟨_, by rw [JJ.out]; exact HO.out.next hB2.out.size HB4.out HRV.out (by simpa using o5) g5 k5⟩
          have B5 := Lib.hid ((Below.on hB2.out HB4.out).grown g5 hlo (fun b hb => (HO.out.outer.lt b hb).1))
          clear o5 g5 k5 hou hlo hul l1 HO HB4 HRV hB2
          go_wp2
          go_roundw
          case rel => exact ⟨j + 1, by omega, by go_num, O5, B5⟩
          case measure => simp [intOf]; omega
        · obtain rfl : j = m := by omega
          have O2 : Hid (∃ us, OwnSS wj w.heap.size wj.heap.size u6 us (T (k + 1))) := Lib.hid (by rw [← JM.out]; exact hO2.out)
          clear hO2
          go_wp2
          go_roundw
          case rel => exact ⟨k + 1, by omega, by go_num, O2, hB2⟩
          case measure => simp [intOf]; omega
    · obtain rfl : k = n := by omega
      obtain ⟨us, ho⟩ := hO.out
      go_wp2
      go_ret2
      exact ⟨_, us, by rw [HX.out]; rfl, by rw [HY.out]; exact ho, hB.out⟩

theorem ittb_any (va vb : Value) (a b : List (List Int)) (w : World) (h : IntSS w va a) (h' : IntSS w vb b) : Calls Try.prog 11 #[va, vb] w (TtPost a b w) := by
  cases ha : tabB a
  · exact ittb_no1 va vb a b w h h' ha
  cases hb : tabB b
  · exact ittb_no2 va vb a b w h h' ha hb
  by_cases hc : a.length * b.length ≤ 12
  · by_cases hd : (row a 0).length * (row b 0).length ≤ 8
    · exact ittb_yes va vb a b w h h' ha hb hc hd
    · exact ittb_no4 va vb a b w h h' ha hb hc hd
  · exact ittb_no3 va vb a b w h h' ha hb hc
end Go.Proofs.Ytndknjjafoebhab
