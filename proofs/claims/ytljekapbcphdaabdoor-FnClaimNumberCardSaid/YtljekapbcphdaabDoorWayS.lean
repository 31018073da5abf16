/- spec.WaysOf. -/
import Derived.Test.YtljekapbcphdaabDoorEnvS
import Derived.Test.YtljekapbcphdaabDoorWayI
import Derived.Test.YtljekapbcphdaabDoorAllS
namespace Go.Proofs.YtljekapbcphdaabDoor
open Go.RowKit

set_option maxHeartbeats 3200000 in
theorem sways_no (g s v : Int) (w : World) (h : envI g s v = false) : Calls Tryd.prog 36 #[.int .i64 g, .int .i64 s, .int .i64 v] w fun e w' => ∃ u us, e = .returned u ∧ OwnSS w' w.heap.size w'.heap.size u us [] ∧ Below w.heap.size w w' := by
  have hn := envI_false.1 h
  have O0 := Lib.hid (ownSS_none w)
  have B0 := Lib.hid (below_grow w (.cells #[] 24))
  clear h
  go_enter Tryd.func36, Tryd.ntmps36
  go_wp2
  go_loopw [7, 8] (fun u i wr => i = .int .i64 0 ∧ Hid (∃ us, OwnSS wr w.heap.size wr.heap.size u us []) ∧ Hid (Below w.heap.size w wr)) (fun _ _ _ => 0)
  case atStart => exact ⟨rfl, Lib.hid ⟨_, O0.out⟩, B0⟩
  case round =>
    obtain ⟨rfl, hO, hB⟩ := hrel
    obtain ⟨wo, rfl⟩ : ∃ wo : World, wo = wr := ⟨_, rfl⟩
    clear O0 B0
    obtain ⟨us, ho⟩ := hO.out
    have HO := Lib.hid ho
    clear ho hO
    by_cases hg : 0 ≤ g ∧ g < 4
    · obtain ⟨o1, o2⟩ := ord_bd hg.1 hg.2
      have o3 : (0 : Int) < ord g := by omega
      clear hg o1
      go_wp2_with fail
      refine (sord_any g wo).mono ?_
      rintro e w1 ⟨rfl, hb⟩
      have B1 := Lib.hid (Below.on hB.out hb)
      have O1 := Lib.hid (HO.out.onAll hb)
      clear hb HO
      cases h1 : sndB g s
      · clear hn
        go_wp2_with fail
        refine (ssnd_is h1 w1).mono ?_
        rintro e w2 ⟨rfl, hb⟩
        have B2 := Lib.hid (Below.on B1.out hb)
        have O2 := Lib.hid (O1.out.onAll hb)
        clear hb
        go_wp2
        go_ret
        exact ⟨_, us, rfl, O2.out, B2.out⟩
      · have h2 : elB g v = false := by
          cases h2 : elB g v
          · rfl
          · exact absurd ⟨h1, h2⟩ hn
        clear hn
        go_wp2_with fail
        refine (ssnd_is h1 w1).mono ?_
        rintro e w2 ⟨rfl, hb⟩
        have B2 := Lib.hid (Below.on B1.out hb)
        have O2 := Lib.hid (O1.out.onAll hb)
        clear hb
        go_wp2_with fail
        refine (sel_q h2 w2).mono ?_
        rintro e w3 ⟨rfl, hb⟩
        have B3 := Lib.hid (Below.on B2.out hb)
        have O3 := Lib.hid (O2.out.onAll hb)
        clear hb
        go_wp2
        go_ret
        exact ⟨_, us, rfl, O3.out, B3.out⟩
    · have HN := Lib.hid (ord_none hg)
      clear hg hn
      go_wp2_with fail
      refine (sord_any g wo).mono ?_
      rintro e w1 ⟨rfl, hb⟩
      rw [HN.out]
      have B1 := Lib.hid (Below.on hB.out hb)
      have O1 := Lib.hid (HO.out.onAll hb)
      clear hb HO
      go_wp2
      go_ret
      exact ⟨_, us, rfl, O1.out, B1.out⟩

set_option maxHeartbeats 3200000 in
theorem sways_any (g s v : Int) (w : World) : Calls Tryd.prog 36 #[.int .i64 g, .int .i64 s, .int .i64 v] w fun e w' => ∃ u us, e = .returned u ∧ OwnSS w' w.heap.size w'.heap.size u us (ways g s v) ∧ Below w.heap.size w w' := by
  cases h1 : envI g s v
  · rw [ways_no h1]; exact sways_no g s v w h1
  · obtain ⟨g0, g4⟩ := envI_g h1
    obtain ⟨hs1, hs2⟩ := envI_true.1 h1
    obtain ⟨q, hq, q3, q23⟩ := ord_of g0 g4
    obtain ⟨WT, hWT⟩ : ∃ WT : Nat → List (List Int), WT = waysTo g s v := ⟨_, rfl⟩
    obtain ⟨WF, hWF⟩ : ∃ WF : Nat → Int, WF = fun k : Nat => wayF g s v k := ⟨_, rfl⟩
    have HX : Hid (ways g s v = WT q) := Lib.hid (by rw [ways_yes h1, hq, hWT]; rfl)
    have HW := Lib.hid (show ∀ k : Nat, 0 ≤ WF k ∧ WF k < q from fun k => by rw [← hq, hWF]; exact way_bd g0 g4 _)
    have HK := Lib.hid (show ∀ (k j : Nat) (w' : World), k < q → j < q → Calls Tryd.prog 13 #[.int .i64 g, .int .i64 s, .int .i64 v, .int .i64 k, .int .i64 j] w' fun e w'' => e = .returned (.bool (decide (WF k = (j : Int)))) ∧ Below w'.heap.size w' w'' from fun k j w' hk hj => by rw [hWF]; exact senk_is (ways_hk h1 hq hk hj) w')
    have HOR := Lib.hid (show ∀ w', Calls Tryd.prog 32 #[.int .i64 g] w' fun e w'' => e = .returned (.int .i64 (q : Int)) ∧ Below w'.heap.size w' w'' from fun w' => by rw [← hq]; exact sord_any g w')
    have HWS0 := Lib.hid (show ∀ k, WT (k + 1) = WT k ++ [[WF k]] from fun k => by rw [hWT, hWF]; rfl)
    have HL := Lib.hid (show ∀ k, (WT k).length = k from fun k => by rw [hWT]; exact waysTo_len _ _ _ k)
    have H0 : Hid (WT 0 = []) := Lib.hid (by rw [hWT]; rfl)
    have O0 := Lib.hid (ownSS_none w)
    have B0 := Lib.hid (below_grow w (.cells #[] 24))
    have HS1 := Lib.hid hs1
    have HS2 := Lib.hid hs2
    clear hq h1 hWT hWF g0 g4 hs1 hs2
    go_enter Tryd.func36, Tryd.ntmps36
    go_wp2
    go_loopw [7, 8] (fun u i wr => ∃ k : Nat, k ≤ q ∧ i = .int .i64 k ∧ Hid (∃ us, OwnSS wr w.heap.size wr.heap.size u us (WT k)) ∧ Hid (Below w.heap.size w wr)) (fun _ i _ => q - (intOf i).toNat)
    case atStart => exact ⟨0, by omega, rfl, Lib.hid ⟨[], by rw [H0.out]; exact O0.out⟩, B0⟩
    case round =>
      obtain ⟨k, hk, rfl, hOa, hBa⟩ := hrel
      obtain ⟨wa, rfl⟩ : ∃ wa : World, wa = wr := ⟨_, rfl⟩
      clear O0 B0
      go_wp2_with fail
      refine (HOR.out wa).mono ?_
      rintro e wb ⟨rfl, hb⟩
      have hBb := Lib.hid (Below.on hBa.out hb)
      have hOb : Hid (∃ us, OwnSS wb w.heap.size wb.heap.size u7 us (WT k)) := Lib.hid (by obtain ⟨us, ho⟩ := hOa.out; exact ⟨us, ho.onAll hb⟩)
      clear hb hOa hBa
      by_cases hlt : k < q
      · have hlt1 : (k : Int) < (q : Int) := by omega
        go_wp2_with fail
        refine (ssnd_is HS1.out wb).mono ?_
        rintro e wc ⟨rfl, hb⟩
        have hBc := Lib.hid (Below.on hBb.out hb)
        have hOc : Hid (∃ us, OwnSS wc w.heap.size wc.heap.size u7 us (WT k)) := Lib.hid (by obtain ⟨us, ho⟩ := hOb.out; exact ⟨us, ho.onAll hb⟩)
        clear hb hOb hBb
        go_wp2_with fail
        refine (sel_q HS2.out wc).mono ?_
        rintro e wo ⟨rfl, hb⟩
        have hB := Lib.hid (Below.on hBc.out hb)
        have hO : Hid (∃ us, OwnSS wo w.heap.size wo.heap.size u7 us (WT k)) := Lib.hid (by obtain ⟨us, ho⟩ := hOc.out; exact ⟨us, ho.onAll hb⟩)
        clear hb hOc hBc
        obtain ⟨f0, f1⟩ := HW.out k
        have HK1 := Lib.hid (fun (j : Nat) (w' : World) => HK.out k j w' hlt)
        have HWS := Lib.hid (HWS0.out k)
        obtain ⟨F, hF⟩ : ∃ F, WF k = F := ⟨_, rfl⟩
        rw [hF] at f0 f1 HWS HK1
        have HF1 : Hid (wayTo F q = [F]) := Lib.hid (wayTo_all f1)
        have O1x : Hid (Own (wo.alloc (.cells #[] 3)) wo.heap.size (.slice (some ⟨wo.heap.size, 0, none⟩) 0 0) (wayTo F 0)) := Lib.hid (by rw [wayTo_zero f0]; exact own_made' wo)
        have B1x := Lib.hid (below_grow wo (.cells #[] 3))
        clear hF f1
        go_wp2
        go_loopw [9, 10] (fun v i wr => ∃ j : Nat, j ≤ q ∧ i = .int .i64 j ∧ Hid (Own wr wo.heap.size v (wayTo F j)) ∧ Hid (Below wo.heap.size wo wr)) (fun _ i _ => q - (intOf i).toNat)
        case atStart => exact ⟨0, by omega, rfl, O1x, B1x⟩
        case round =>
          obtain ⟨j, hj, rfl, hO2, hB2⟩ := hrel
          obtain ⟨wj, rfl⟩ : ∃ wj : World, wj = wr := ⟨_, rfl⟩
          clear O1x B1x
          go_wp2_with fail
          refine (HOR.out wj).mono ?_
          rintro e w0 ⟨rfl, hb0⟩
          have HOJ := Lib.hid (own_below hO2.out hb0)
          have HBJ := Lib.hid (Below.on hB2.out hb0)
          clear hb0
          by_cases hjl : j < q
          · have hjl1 : (j : Int) < (q : Int) := by omega
            go_wp2_with fail
            refine (HK1.out j w0 hjl).mono ?_
            rintro e w1 ⟨rfl, hb1⟩
            have B1 := Lib.hid (Below.on HBJ.out hb1)
            have O1 := Lib.hid (own_below HOJ.out hb1)
            clear hb1
            have hlen := wayTo_len F j
            by_cases hF : F = (j : Int)
            · have HH : Hid (wayTo F (j + 1) = wayTo F j ++ [(j : Int)]) := Lib.hid (wayTo_hit hF)
              have hd : decide (F = (j : Int)) = true := decide_eq_true hF
              have o1 := O1.out
              have z1 := B1.out.size
              clear hF
              go_wp2_with (at_builtin; refine wpAppInt rfl _ _ rfl rfl o1 (by omega) z1 rfl ?_)
              intro v2 w2 o2 g2 _
              have O2 : Hid (Own w2 wo.heap.size v2 (wayTo F (j + 1))) := Lib.hid (by rw [HH.out]; exact o2)
              have B2 := Lib.hid (B1.out.grown g2 z1 (fun k hk => (o1.lt k hk).1))
              clear o1 z1 o2 g2 O1 B1 HOJ HBJ hO2 hB2
              go_wp2
              go_roundw
              case rel => exact ⟨j + 1, by omega, by go_num, O2, B2⟩
              case measure => simp [intOf]; omega
            · have HH : Hid (wayTo F (j + 1) = wayTo F j) := Lib.hid (wayTo_miss hF)
              have hd : decide (F = (j : Int)) = false := decide_eq_false hF
              have O2 : Hid (Own w1 wo.heap.size u9 (wayTo F (j + 1))) := Lib.hid (by rw [HH.out]; exact O1.out)
              clear hF O1 HOJ HBJ hO2 hB2
              go_wp2
              go_roundw
              case rel => exact ⟨j + 1, by omega, by go_num, O2, B1⟩
              case measure => simp [intOf]; omega
          · obtain rfl : j = q := by omega
            obtain ⟨us, ho⟩ := hO.out
            have hl1 := ho.len
            have hl2 := HL.out k
            have hul : us.length < 1000000000 := by omega
            have OR : Hid (Own w0 wo.heap.size u9 [F]) := Lib.hid (by rw [← HF1.out]; exact HOJ.out)
            have orr := OR.out
            obtain ⟨ar, cr, hur⟩ := orr.form
            subst hur
            have HO := Lib.hid ho
            have hou : w0.ownsRow w.heap.size 24 1 u7 us.length us := (ho.on HBJ.out).outer
            have z1 := Nat.le_trans hB.out.size HBJ.out.size
            clear ho orr hl1 hl2
            go_wp2_with (at_builtin; refine wpAppRow rfl _ _ rfl rfl hou (by omega) z1 rfl rfl ?_)
            intro v4 w4 o4 g4 k4
            have O4 : Hid (∃ us, OwnSS w4 w.heap.size w4.heap.size v4 us (WT (k + 1))) := Lib.hid ⟨_, by rw [HWS.out]; exact HO.out.next hB.out.size HBJ.out OR.out (by simpa using o4) g4 k4⟩
            have B4 := Lib.hid ((Below.on hB.out HBJ.out).grown g4 z1 (fun k hk => (HO.out.outer.lt k hk).1))
            clear o4 g4 k4 hou HO OR z1 HOJ HBJ hO2 hB2
            go_wp2
            go_roundw
            case rel => exact ⟨k + 1, by omega, by go_num, O4, B4⟩
            case measure => simp [intOf]; omega
      · obtain rfl : k = q := by omega
        obtain ⟨us, ho⟩ := hOb.out
        go_wp2
        go_ret
        exact ⟨_, us, rfl, by rw [HX.out]; exact ho, hBb.out⟩

end Go.Proofs.YtljekapbcphdaabDoor
