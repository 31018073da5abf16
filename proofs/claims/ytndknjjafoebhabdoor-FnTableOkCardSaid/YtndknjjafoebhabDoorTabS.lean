/- spec.TableOk. -/
import Derived.Test.YtndknjjafoebhabDoorTabI
import Derived.Deep.Quiet
import Derived.Deep.RegionHeld3
import Derived.Laws.ResultCell
import Derived.Outline
import Derived.BigQuiet
namespace Go.Proofs.YtndknjjafoebhabDoor
open Go.RowKit

theorem l1In_tb {n a b : Int} {r : Bool} (h : (decide (a ≤ n) && decide (n ≤ b)) = r) (w : World) : Calls Tryd.prog 12 #[.int .i64 n, .int .i64 a, .int .i64 b] w fun e w' => e = .returned (.bool r) ∧ w = w' := by rw [← h]; exact l1In_any n a b w
/-- One walk of the text serves every order, at whatever class of worlds that the region's first world is of. -/
theorem wp_region_cls {P : Program} {C : World → Prop} {id : Nat} {Q : Exit → Act → World → Prop} {a : Act} {w : World} {l : List Oper} (hm : P.follows .mixedOrders = true) (hB : Region.lexB .any l.toArray = true) (hC : C w.drew)
    (h : wpQuiet P l.toArray C (fun a' => ∀ w', C w' → Q .normal a' w') l a) : (Code.region id l.toArray true).wp P Q a w :=
  wp_region_quiet (C := C) hm hB hC (by simpa using h)

/-- What the first k rounds of spec.TableOk have shown. -/
structure TsTo (t : List (List Int)) (k : Nat) : Prop where
  rs : TabTo t k
  u : 0 < k → 1 ≤ (row t 0).length ∧ (row t 0).length ≤ 8

set_option maxHeartbeats 6400000 in
theorem stab_any (v : Value) (t : List (List Int)) (w : World) (h : IntSS w v t) :
    Calls Tryd.prog 6 #[v] w fun e w' => e = .returned (.bool (tabB t)) ∧ Below w.heap.size w w' := by
  obtain ⟨a, c, rfl, k1⟩ := h.opened
  have hm1 := k1.max
  have HC := Lib.hid (show ∀ k, k < t.length → ∃ G x, a = some ⟨G, 0, none⟩ ∧ (∀ w', Below w.heap.size w w' → w'.cell? ⟨G, k, none⟩ = some x) ∧ ∃ ax cx, x = .slice ax (row t k).length cx ∧ (row t k).length ≤ maxLen ∧ ∀ j, j < (row t k).length → ∃ X, ax = some ⟨X, 0, none⟩ ∧ ∀ w', Below w.heap.size w w' → w'.cell? ⟨X, j, none⟩ = some (.int .i64 (nth (row t k) j)) from fun k hk => by
    obtain ⟨G, x, e1, hl, e2, e3⟩ := k1.get k hk
    obtain ⟨ax, cx, e4, e5⟩ := e3.opened
    refine ⟨G, x, e1, fun w' hb => (hb.cell (p := ⟨G, k, none⟩) hl).trans e2, ax, cx, e4, e5.max, fun j hj => ?_⟩
    obtain ⟨X, f1, f2, f3⟩ := e5.get j hj
    exact ⟨X, f1, fun w' hb => (hb.cell (p := ⟨X, j, none⟩) f2).trans f3⟩)
  obtain ⟨n, hn⟩ : ∃ n, t.length = n := ⟨_, rfl⟩
  obtain ⟨u, hu⟩ : ∃ u, (row t 0).length = u := ⟨_, rfl⟩
  have HN := Lib.hid (show ∀ p : Prop, (Tab t → p) → ¬ p → tabB t = false from fun p h1 h2 => tabB_false fun hc => h2 (h1 hc))
  have HY := Lib.hid (show 1 ≤ n → n ≤ 12 → TsTo t n → tabB t = true from by
    subst hn hu
    intro h1 h2 h5
    exact tabB_true.2 ⟨h1, h2, (h5.u h1).1, (h5.u h1).2, fun k hk => (h5.rs k hk).1, fun k j hk hj => bitB_true.1 (h5.rs k hk).2 j hj⟩)
  have H1 := Lib.hid (show Tab t → 1 ≤ n ∧ n ≤ 12 from fun h => by rw [← hn]; exact ⟨h.r1, h.r2⟩)
  have U1 := Lib.hid (show Tab t → 1 ≤ u ∧ u ≤ 8 from fun h => by rw [← hu]; exact ⟨h.a1, h.a2⟩)
  have UR := Lib.hid (show Tab t → ∀ j, j < n → (row t j).length = u ∧ ∀ i, i < (row t j).length → nth (row t j) i = 0 ∨ nth (row t j) i = 1 from fun h j hj => ⟨by rw [← hu]; exact h.len j (by rw [hn]; exact hj), fun i hi => h.bit j i (by rw [hn]; exact hj) hi⟩)
  have HU := Lib.hid hu
  rw [hn] at hm1 HC ⊢
  unfold maxLen at hm1
  clear h k1 hn
  by_cases c1 : 1 ≤ n
  case neg =>
    have HX := Lib.hid (HN.out _ H1.out (fun h => c1 h.1))
    obtain rfl : n = 0 := by omega
    have hd : (decide ((1 : Int) ≤ ((0 : Nat) : Int)) && decide (((0 : Nat) : Int) ≤ 12)) = false := by decide
    go_enter Tryd.func6, Tryd.ntmps6
    go_wp2
    go_loopw [3] (fun i wr => i = .int .i64 0 ∧ wr = w) (fun _ _ => 0)
    case atStart => exact ⟨rfl, rfl⟩
    case round =>
      obtain ⟨rfl, rfl⟩ := hrel
      go_wp2_with fail
      refine (l1In_tb hd _).mono ?_
      rintro e w1 ⟨rfl, rfl⟩
      go_wp2
      go_ret
      exact ⟨by rw [HX.out]; rfl, Below.refl _ _⟩
  obtain ⟨G0, u0, rfl, hc0, a0, c0, rfl, _, _⟩ := HC.out 0 (by omega)
  rw [hu] at hc0
  have H0 := Lib.hid hc0
  clear hc0 hu
  go_enter Tryd.func6, Tryd.ntmps6
  go_wp2
  go_loopw [3] (fun i wr => ∃ k : Nat, k ≤ n ∧ i = .int .i64 k ∧ Hid (TsTo t k) ∧ Hid (Below w.heap.size w wr)) (fun i _ => n - (intOf i).toNat)
  case atStart => exact ⟨0, by omega, rfl, Lib.hid ⟨fun j hj => by omega, fun h => by omega⟩, Lib.hid (Below.refl _ _)⟩
  case round =>
    obtain ⟨k, hk, rfl, hj, hI⟩ := hrel
    obtain ⟨wo, rfl⟩ : ∃ wo : World, wo = wr := ⟨_, rfl⟩
    by_cases hlt : k < n
    · obtain ⟨G1, x, e1, hcx, ax, cx, rfl, hlm, hcell⟩ := HC.out k hlt
      obtain rfl : G0 = G1 := by cases e1; rfl
      obtain ⟨l, hl⟩ : ∃ l, (row t k).length = l := ⟨_, rfl⟩
      have HLL := Lib.hid hl
      rw [hl] at hcx hlm hcell
      unfold maxLen at hlm
      have HROW := Lib.hid hcx
      have HCELL := Lib.hid hcell
      have hlt1 : (k : Int) < (n : Int) := by omega
      have hm0 : (0 : Int) < (n : Int) := by omega
      have HD : Hid (Below w.heap.size w wo.drew) := Lib.hid (Below.on hI.out (Below.refl _ _).drew)
      clear e1 hcx hl hcell
      by_cases hlu : l = u
      case neg =>
        have HX := Lib.hid (HN.out _ UR.out (fun h => hlu (by rw [← HLL.out]; exact (h k hlt).1)))
        have hd : ((l : Int) != (u : Int)) = true := by rw [bne_iff_ne]; omega
        go_wp2_with fail
        refine wp_region_cls (C := fun w' => Hid (Below w.heap.size w w')) (by kernel_rfl) (by kernel_rfl) HD ?_
        repeat (first | go_big_quiet_skip | (go_big_quiet_want; go_big_quiet_op; first | go_big_quiet_on | (refine ⟨_, fun _ _ => rfl, ?_⟩; go_big_quiet_on)))
        go_big_quiet_want
        go_big_quiet_op
        refine ⟨.slice ax l cx, fun w' hw' => ?_, ?_⟩
        · have q := HROW.out w' hw'.out
          simp [go_sem, q]
        go_big_quiet_on
        repeat (first | go_big_quiet_skip | (go_big_quiet_want; go_big_quiet_op; first | go_big_quiet_on | (refine ⟨_, fun _ _ => rfl, ?_⟩; go_big_quiet_on)))
        go_big_quiet_want
        go_big_quiet_op
        refine ⟨.slice a0 u c0, fun w' hw' => ?_, ?_⟩
        · have q := H0.out w' hw'.out
          simp [go_sem, q]
        go_big_quiet_on
        repeat (first | go_big_quiet_skip | (go_big_quiet_want; go_big_quiet_op; first | go_big_quiet_on | (refine ⟨_, fun _ _ => rfl, ?_⟩; go_big_quiet_on)))
        refine wpQuiet_nil ?_
        intro w2 hw2
        clear hd hlu
        go_wp2
        go_ret
        exact ⟨by rw [HX.out]; rfl, hw2.out⟩
      subst hlu
      have hd : ((l : Int) != (l : Int)) = false := by simp
      by_cases c2 : 1 ≤ l ∧ l ≤ 8
      case neg =>
        have HX := Lib.hid (HN.out _ U1.out c2)
        have hd1 : (decide (1 ≤ (l : Int)) && decide ((l : Int) ≤ 8)) = false := by simp; omega
        go_wp2_with fail
        refine wp_region_cls (C := fun w' => Hid (Below w.heap.size w w')) (by kernel_rfl) (by kernel_rfl) HD ?_
        repeat (first | go_big_quiet_skip | (go_big_quiet_want; go_big_quiet_op; first | go_big_quiet_on | (refine ⟨_, fun _ _ => rfl, ?_⟩; go_big_quiet_on)))
        go_big_quiet_want
        go_big_quiet_op
        refine ⟨.slice ax l cx, fun w' hw' => ?_, ?_⟩
        · have q := HROW.out w' hw'.out
          simp [go_sem, q]
        go_big_quiet_on
        repeat (first | go_big_quiet_skip | (go_big_quiet_want; go_big_quiet_op; first | go_big_quiet_on | (refine ⟨_, fun _ _ => rfl, ?_⟩; go_big_quiet_on)))
        go_big_quiet_want
        go_big_quiet_op
        refine ⟨.slice a0 l c0, fun w' hw' => ?_, ?_⟩
        · have q := H0.out w' hw'.out
          simp [go_sem, q]
        go_big_quiet_on
        repeat (first | go_big_quiet_skip | (go_big_quiet_want; go_big_quiet_op; first | go_big_quiet_on | (refine ⟨_, fun _ _ => rfl, ?_⟩; go_big_quiet_on)))
        go_big_quiet_want
        go_big_quiet_op
        refine ⟨.slice ax l cx, fun w' hw' => ?_, ?_⟩
        · have q := HROW.out w' hw'.out
          simp [go_sem, q]
        go_big_quiet_on
        repeat (first | go_big_quiet_skip | (go_big_quiet_want; go_big_quiet_op; first | go_big_quiet_on | (refine ⟨_, fun _ _ => rfl, ?_⟩; go_big_quiet_on)))
        go_big_quiet_want
        go_big_quiet_op
        go_big_quiet_call ((intro hw; exact (l1In_tb hd1 _).mono fun _ _ ⟨he, hb⟩ => ⟨he, by rw [← hb]; exact hw⟩))
        repeat (first | go_big_quiet_skip | (go_big_quiet_want; go_big_quiet_op; first | go_big_quiet_on | (refine ⟨_, fun _ _ => rfl, ?_⟩; go_big_quiet_on)))
        refine wpQuiet_nil ?_
        intro w2 hw2
        clear hd hd1 c2
        go_wp2
        go_ret
        exact ⟨by rw [HX.out]; rfl, hw2.out⟩
      obtain ⟨l1, l2⟩ := c2
      have hd1 : (decide (1 ≤ (l : Int)) && decide ((l : Int) ≤ 8)) = true := by simp; omega
      go_wp2_with fail
      refine wp_region_cls (C := fun w' => Hid (Below w.heap.size w w')) (by kernel_rfl) (by kernel_rfl) HD ?_
      repeat (first | go_big_quiet_skip | (go_big_quiet_want; go_big_quiet_op; first | go_big_quiet_on | (refine ⟨_, fun _ _ => rfl, ?_⟩; go_big_quiet_on)))
      go_big_quiet_want
      go_big_quiet_op
      refine ⟨.slice ax l cx, fun w' hw' => ?_, ?_⟩
      · have q := HROW.out w' hw'.out
        simp [go_sem, q]
      go_big_quiet_on
      repeat (first | go_big_quiet_skip | (go_big_quiet_want; go_big_quiet_op; first | go_big_quiet_on | (refine ⟨_, fun _ _ => rfl, ?_⟩; go_big_quiet_on)))
      go_big_quiet_want
      go_big_quiet_op
      refine ⟨.slice a0 l c0, fun w' hw' => ?_, ?_⟩
      · have q := H0.out w' hw'.out
        simp [go_sem, q]
      go_big_quiet_on
      repeat (first | go_big_quiet_skip | (go_big_quiet_want; go_big_quiet_op; first | go_big_quiet_on | (refine ⟨_, fun _ _ => rfl, ?_⟩; go_big_quiet_on)))
      go_big_quiet_want
      go_big_quiet_op
      refine ⟨.slice ax l cx, fun w' hw' => ?_, ?_⟩
      · have q := HROW.out w' hw'.out
        simp [go_sem, q]
      go_big_quiet_on
      repeat (first | go_big_quiet_skip | (go_big_quiet_want; go_big_quiet_op; first | go_big_quiet_on | (refine ⟨_, fun _ _ => rfl, ?_⟩; go_big_quiet_on)))
      go_big_quiet_want
      go_big_quiet_op
      go_big_quiet_call ((intro hw; exact (l1In_tb hd1 _).mono fun _ _ ⟨he, hb⟩ => ⟨he, by rw [← hb]; exact hw⟩))
      repeat (first | go_big_quiet_skip | (go_big_quiet_want; go_big_quiet_op; first | go_big_quiet_on | (refine ⟨_, fun _ _ => rfl, ?_⟩; go_big_quiet_on)))
      refine wpQuiet_nil ?_
      intro w2 hw2
      clear hd hd1 HD hI
      have b3 := HROW.out _ hw2.out
      go_wp2
      clear b3
      go_loopw [4] (fun i wi => ∃ j : Nat, j ≤ l ∧ i = .int .i64 j ∧ Hid (∀ i, i < j → nth (row t k) i = 0 ∨ nth (row t k) i = 1) ∧ Hid (Below w.heap.size w wi)) (fun i _ => l - (intOf i).toNat)
      case atStart => exact ⟨0, by omega, rfl, Lib.hid (fun i hi => by omega), hw2⟩
      case round =>
        obtain ⟨j, hjl, rfl, hjj, hI⟩ := hrel
        obtain ⟨wi, rfl⟩ : ∃ wi : World, wi = wr := ⟨_, rfl⟩
        have b3 := HROW.out _ hI.out
        by_cases hlj : j < l
        · obtain ⟨X, rfl, hce⟩ := HCELL.out j hlj
          have b4 := hce _ hI.out
          have hlj1 : (j : Int) < (l : Int) := by omega
          clear hce
          obtain ⟨y, hy⟩ : ∃ y, nth (row t k) j = y := ⟨_, rfl⟩
          have HYY := Lib.hid hy
          rw [hy] at b4
          clear hy
          by_cases hbit : y = 0 ∨ y = 1
          · have HJ : Hid (∀ i, i < j + 1 → nth (row t k) i = 0 ∨ nth (row t k) i = 1) := Lib.hid (fun i hi => by
              by_cases e : i < j
              · exact hjj.out i e
              · obtain rfl : i = j := by omega
                rw [HYY.out]; exact hbit)
            have hd : (decide (0 ≤ y) && decide (y ≤ 1)) = true := by simp; omega
            go_wp2_with fail
            refine (l1In_tb hd _).mono ?_
            rintro e w3 ⟨rfl, rfl⟩
            clear b3 b4 hd hbit
            go_wp2
            go_roundw
            case rel => exact ⟨j + 1, by omega, by go_num, HJ, hI⟩
            case measure => simp [intOf]; omega
          · have HX := Lib.hid (HN.out _ UR.out (fun h => hbit (by rw [← HYY.out]; exact (h k hlt).2 j (by rw [HLL.out]; exact hlj))))
            have hd : (decide (0 ≤ y) && decide (y ≤ 1)) = false := by simp; omega
            go_wp2_with fail
            refine (l1In_tb hd _).mono ?_
            rintro e w3 ⟨rfl, rfl⟩
            clear b3 b4 hd hbit
            go_wp2
            go_ret
            exact ⟨by rw [HX.out]; rfl, hI.out⟩
        · obtain rfl : j = l := by omega
          have HJ : Hid (TsTo t (k + 1)) := Lib.hid ⟨fun i hi => by
            by_cases e : i < k
            · exact hj.out.rs i e
            · obtain rfl : i = k := by omega
              exact ⟨by rw [HLL.out, HU.out], bit_yes fun i' hi' => hjj.out i' (by rw [← HLL.out]; exact hi')⟩, fun _ => by rw [HU.out]; exact ⟨l1, l2⟩⟩
          clear hj
          go_wp2
          go_roundw
          case rel => exact ⟨k + 1, by omega, by go_num, HJ, hI⟩
          case measure => simp [intOf]; omega
    · obtain rfl : k = n := by omega
      by_cases c3 : k ≤ 12
      · have HX := Lib.hid (HY.out c1 c3 hj.out)
        have hd : (decide (1 ≤ (k : Int)) && decide ((k : Int) ≤ 12)) = true := by simp; omega
        go_wp2_with fail
        refine (l1In_tb hd _).mono ?_
        rintro e w1 ⟨rfl, rfl⟩
        go_wp2
        go_ret
        exact ⟨by rw [HX.out]; rfl, hI.out⟩
      · have HX := Lib.hid (HN.out _ H1.out (fun h => c3 h.2))
        have hd : (decide (1 ≤ (k : Int)) && decide ((k : Int) ≤ 12)) = false := by simp; omega
        go_wp2_with fail
        refine (l1In_tb hd _).mono ?_
        rintro e w1 ⟨rfl, rfl⟩
        go_wp2
        go_ret
        exact ⟨by rw [HX.out]; rfl, hI.out⟩
end Go.Proofs.YtndknjjafoebhabDoor
