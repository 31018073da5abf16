/- impl.WaysOf. -/
import Derived.Test.YtljekapbcphdaabDoorEnvI
import Derived.Test.YtljekapbcphdaabDoorPureF
import Derived.Test.YtljekapbcphdaabDoorNumI
namespace Go.Proofs.YtljekapbcphdaabDoor
open Go.RowKit

theorem ways_hk {g s v : Int} (h : envI g s v = true) {q : Nat} (hq : ord g = q) {k j : Nat} (hk : k < q) (hj : j < q) : envK g s v k j = decide (wayF g s v k = (j : Int)) := by
  obtain ⟨h0, h4⟩ := envI_g h
  obtain ⟨h1, h2⟩ := envI_true.1 h
  exact envK_way h1 h2 (exB_true.2 ⟨⟨h0, h4⟩, by omega, by omega⟩) (exB_true.2 ⟨⟨h0, h4⟩, by omega, by omega⟩)
set_option maxHeartbeats 3200000 in
theorem iways_any (g s v : Int) (w : World) (G : Gr w) : Calls Tryd.prog 34 #[.int .i64 g, .int .i64 s, .int .i64 v] w fun e w' => ∃ u us, e = .returned u ∧ OwnSS w' w.heap.size w'.heap.size u us (ways g s v) ∧ Below w.heap.size w w' := by
  cases h1 : envI g s v
  · have HX := Lib.hid (ways_no h1)
    go_enter Tryd.func34, Tryd.ntmps34
    go_wp2_with fail
    refine (ienin_is h1 _ G).mono ?_
    rintro e w1 ⟨rfl, hb⟩
    go_wp2
    go_ret
    exact ⟨_, [], rfl, by rw [HX.out]; exact OwnSS.nil _ _ _, hb⟩
  · obtain ⟨g0, g4⟩ := envI_g h1
    obtain ⟨q, hq, q3, q23⟩ := ord_of g0 g4
    obtain ⟨WT, hWT⟩ : ∃ WT : Nat → List (List Int), WT = waysTo g s v := ⟨_, rfl⟩
    obtain ⟨WF, hWF⟩ : ∃ WF : Nat → Int, WF = fun k : Nat => wayF g s v k := ⟨_, rfl⟩
    have HX : Hid (ways g s v = WT q) := Lib.hid (by rw [ways_yes h1, hq, hWT]; rfl)
    have HW := Lib.hid (show ∀ k : Nat, 0 ≤ WF k ∧ WF k < q from fun k => by rw [← hq, hWF]; exact way_bd g0 g4 _)
    have HG := Lib.hid G
    have HK := Lib.hid (show ∀ (k j : Nat) (w' : World), k < q → j < q → Below w.heap.size w w' → Calls Tryd.prog 14 #[.int .i64 g, .int .i64 s, .int .i64 v, .int .i64 k, .int .i64 j] w' fun e w'' => e = .returned (.bool (decide (WF k = (j : Int)))) ∧ Below w'.heap.size w' w'' from fun k j w' hk hj hb => by rw [hWF]; exact ienk_is (ways_hk h1 hq hk hj) w' (G.on hb))
    have HWS0 := Lib.hid (show ∀ k, WT (k + 1) = WT k ++ [[WF k]] from fun k => by rw [hWT, hWF]; rfl)
    have HL := Lib.hid (show ∀ k, (WT k).length = k from fun k => by rw [hWT]; exact waysTo_len _ _ _ k)
    have H0 := Lib.hid (show WT 0 = [] from by rw [hWT]; rfl)
    have HI := Lib.hid h1
    have HQ := Lib.hid hq
    clear hq h1 G hWT hWF
    rcases g_cases g0 g4 with rfl | rfl | rfl | rfl <;> clear g0 g4
    all_goals
      have hq := HQ.out
      simp [ord] at hq
      go_enter Tryd.func34, Tryd.ntmps34
      go_wp2_with fail
      refine (ienin_is HI.out _ HG.out).mono ?_
      rintro e w1 ⟨rfl, hb⟩
      have B1 : Hid (Below w.heap.size w w1) := Lib.hid hb
      clear hb
      obtain ⟨e0, e1, e2, e3, e4, e5, e6, e7, e8, e9, e10, e11⟩ := HG.out.on B1.out
      go_wp2
      clear e0 e1 e2 e3 e4 e5 e6 e7 e8 e9 e10 e11
      go_loopw [7, 20] (fun u i wr => ∃ k : Nat, k ≤ q ∧ i = .int .i64 k ∧ Hid (∃ us, OwnSS wr w.heap.size wr.heap.size u us (WT k)) ∧ Hid (Below w.heap.size w wr)) (fun _ i _ => q - (intOf i).toNat)
      case atStart => exact ⟨0, by omega, rfl, Lib.hid ⟨[], by rw [H0.out]; exact OwnSS.nil _ _ _⟩, B1⟩
      case round =>
        obtain ⟨k, hk, rfl, hO, hB⟩ := hrel
        obtain ⟨wo, rfl⟩ : ∃ wo : World, wo = wr := ⟨_, rfl⟩
        clear B1
        by_cases hlt : k < q
        · obtain ⟨e0, e1, e2, e3, e4, e5, e6, e7, e8, e9, e10, e11⟩ := HG.out.on hB.out
          go_wp2
          clear e0 e1 e2 e3 e4 e5 e6 e7 e8 e9 e10 e11
          obtain ⟨f0, f1⟩ := HW.out k
          have HK1 := Lib.hid (fun (j : Nat) (w' : World) => HK.out k j w' hlt)
          have HWS := Lib.hid (HWS0.out k)
          obtain ⟨F, hF⟩ : ∃ F, WF k = F := ⟨_, rfl⟩
          rw [hF] at f0 f1 HWS HK1
          have HF1 : Hid (wayTo F q = [F]) := Lib.hid (wayTo_all f1)
          clear hF f1
          go_loopw [9, 27] (fun v i wr => ∃ j : Nat, j ≤ q ∧ i = .int .i64 j ∧ Hid (Own wr wo.heap.size v (wayTo F j)) ∧ Hid (Below wo.heap.size wo wr)) (fun _ i _ => q - (intOf i).toNat)
          case atStart => exact ⟨0, by omega, rfl, Lib.hid (by rw [wayTo_zero f0]; exact World.ownsRow_nil _ _ _ _), Lib.hid (Below.refl _ _)⟩
          case round =>
            obtain ⟨j, hj, rfl, hO2, hB2⟩ := hrel
            obtain ⟨wj, rfl⟩ : ∃ wj : World, wj = wr := ⟨_, rfl⟩
            have HOJ := hO2
            have HBJ := hB2
            by_cases hjl : j < q
            · have hjl1 : (j : Int) < (q : Int) := by omega
              go_wp2_with fail
              refine (HK1.out j wj hjl (Below.on hB.out HBJ.out)).mono ?_
              rintro e w1 ⟨rfl, hb1⟩
              have B1 := Lib.hid (Below.on HBJ.out hb1)
              have O1 := Lib.hid (own_below HOJ.out hb1)
              clear hb1
              have hlen := wayTo_len F j
              by_cases hF : F = (j : Int)
              · have HH : Hid (wayTo F (j + 1) = wayTo F j ++ [(j : Int)]) := Lib.hid (wayTo_hit hF)
                have hd : decide (F = (j : Int)) = true := decide_eq_true hF
                have o1 := O1.out
                have z1 := B1.out.size
                clear hF
                go_wp2_with (at_builtin; refine wpAppInt rfl _ _ rfl rfl o1 (by omega) z1 rfl ?_)
                intro v2 w2 o2 g2 _
                have O2 : Hid (Own w2 wo.heap.size v2 (wayTo F (j + 1))) := Lib.hid (by rw [HH.out]; exact o2)
                have B2 := Lib.hid (B1.out.grown g2 z1 (fun k hk => (o1.lt k hk).1))
                clear o1 z1 o2 g2 O1 B1 HOJ HBJ hO2 hB2
                go_wp2
                go_roundw
                case rel => exact ⟨j + 1, by omega, by go_num, O2, B2⟩
                case measure => simp [intOf]; omega
              · have HH : Hid (wayTo F (j + 1) = wayTo F j) := Lib.hid (wayTo_miss hF)
                have hd : decide (F = (j : Int)) = false := decide_eq_false hF
                have O2 : Hid (Own w1 wo.heap.size u9 (wayTo F (j + 1))) := Lib.hid (by rw [HH.out]; exact O1.out)
                clear hF O1 HOJ HBJ hO2 hB2
                go_wp2
                go_roundw
                case rel => exact ⟨j + 1, by omega, by go_num, O2, B1⟩
                case measure => simp [intOf]; omega
            · obtain rfl : j = q := by omega
              obtain ⟨us, ho⟩ := hO.out
              have hl1 := ho.len
              have hl2 := HL.out k
              have hul : us.length < 1000000000 := by omega
              have OR : Hid (Own wj wo.heap.size u9 [F]) := Lib.hid (by rw [← HF1.out]; exact HOJ.out)
              have orr := OR.out
              obtain ⟨ar, cr, hur⟩ := orr.form
              subst hur
              have HO := Lib.hid ho
              have hou : wj.ownsRow w.heap.size 24 1 u7 us.length us := (ho.on HBJ.out).outer
              have z1 := Nat.le_trans hB.out.size HBJ.out.size
              clear ho orr hl1 hl2
              go_wp2_with (at_builtin; refine wpAppRow rfl _ _ rfl rfl hou (by omega) z1 rfl rfl ?_)
              intro v4 w4 o4 g4 k4
              have O4 : Hid (∃ us, OwnSS w4 w.heap.size w4.heap.size v4 us (WT (k + 1))) := Lib.hid ⟨_, by rw [HWS.out]; exact HO.out.next hB.out.size HBJ.out OR.out (by simpa using o4) g4 k4⟩
              have B4 := Lib.hid ((Below.on hB.out HBJ.out).grown g4 z1 (fun k hk => (HO.out.outer.lt k hk).1))
              clear o4 g4 k4 hou HO OR z1 HOJ HBJ hO2 hB2
              go_wp2
              go_roundw
              case rel => exact ⟨k + 1, by omega, by go_num, O4, B4⟩
              case measure => simp [intOf]; omega
        · obtain rfl : k = q := by omega
          obtain ⟨us, ho⟩ := hO.out
          go_wp2
          go_ret
          exact ⟨_, us, rfl, by rw [HX.out]; exact ho, hB.out⟩

end Go.Proofs.YtljekapbcphdaabDoor
