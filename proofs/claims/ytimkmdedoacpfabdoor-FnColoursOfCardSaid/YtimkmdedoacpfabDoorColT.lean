/- spec: l8All, ColoursOf. -/
import Derived.Test.YtimkmdedoacpfabDoorColS
import Derived.Test.YtimkmdedoacpfabDoorColL
import Derived.Test.YtimkmdedoacpfabDoorColM
import Derived.Test.YtimkmdedoacpfabDoorAllS
import Derived.Test.YtimkmdedoacpfabDoorBtsS
namespace Go.Proofs.YtimkmdedoacpfabDoor
open Go.RowKit

set_option maxRecDepth 20000 in
set_option maxHeartbeats 6400000 in
theorem sal_any (m : Nat) (w : World) (h5 : m ≤ 5) :
    Calls Tryd.prog 70 #[.int .i64 m] w fun e w' => ∃ v us, e = .returned v ∧ Full us ∧ OwnSS w' w.heap.size w'.heap.size v us (lots 3 m) ∧ Below w.heap.size w w' := by
  have O1 : Hid (∃ us, Full us ∧ OwnSS ((w.alloc (.cells #[] 3)).alloc (.cells #[.slice (some ⟨w.heap.size, 0, none⟩) 0 0] 23)) w.heap.size ((w.alloc (.cells #[] 3)).alloc (.cells #[.slice (some ⟨w.heap.size, 0, none⟩) 0 0] 23)).heap.size (.slice (some ⟨w.heap.size + 1, 0, none⟩) 1 1) us (lots 3 0)) := Lib.hid ⟨_, Full.nil.app, ownSS_one' w⟩
  have I1 := Lib.hid ((below_grow w (.cells #[] 3)).trans ((below_grow (w.alloc (.cells #[] 3)) (.cells #[.slice (some ⟨w.heap.size, 0, none⟩) 0 0] 23)).mono (by simp)))
  have HL := Lib.hid (show ∀ k, k < m → (lots 3 k).length ≤ 243 from fun k hk => lots3_len (by omega))
  have HS := Lib.hid (show ∀ k, lots 3 (k + 1) = longTo 3 (lots 3 k) (lots 3 k).length from fun _ => rfl)
  go_enter Tryd.func70, Tryd.ntmps70
  go_wp2
  go_loopw [3, 4] (fun v i wr => ∃ k : Nat, k ≤ m ∧ i = .int .i64 k ∧ Hid (∃ us, Full us ∧ OwnSS wr w.heap.size wr.heap.size v us (lots 3 k)) ∧ Hid (Below w.heap.size w wr)) (fun _ i _ => m - (intOf i).toNat)
  case atStart => exact ⟨0, by omega, rfl, Lib.hid (by have := O1.out; simpa using this), I1⟩
  case round =>
    obtain ⟨k, hk, rfl, hO, hI⟩ := hrel
    obtain ⟨wo, rfl⟩ : ∃ wo : World, wo = wr := ⟨_, rfl⟩
    clear O1 I1
    by_cases hlt : k < m
    · have hlt1 : (k : Int) < (m : Int) := by omega
      obtain ⟨us, hf, ho⟩ := hO.out
      obtain ⟨xss, hxs⟩ : ∃ xss, lots 3 k = xss := ⟨_, rfl⟩
      have hl40 : xss.length ≤ 243 := by rw [← hxs]; exact HL.out k hlt
      have hrl : ∀ j, j < xss.length → (row xss j).length = k := fun j hj => by rw [← hxs] at hj ⊢; exact lots_row hj
      rw [hxs] at ho
      obtain ⟨a, c', rfl, hcell⟩ := outer_cell ho.outer
      obtain ⟨n, hn⟩ : ∃ n, xss.length = n := ⟨_, rfl⟩
      have hul : us.length = n := by rw [ho.len]; exact hn
      have HRL := Lib.hid (show ∀ j, j < n → (row xss j).length = k from fun j hj => hrl j (by rw [hn]; exact hj))
      have HR := Lib.hid (show ∀ j, j < n → ∃ G X cx, a = some ⟨G, 0, none⟩ ∧ ∀ w', Below wo.heap.size wo w' → w'.cell? ⟨G, j, none⟩ = some (.slice (some ⟨X, 0, none⟩) k cx) ∧ ∀ i, i < k → w'.cell? ⟨X, i, none⟩ = some (.int .i64 (nth (row xss j) i)) from fun j hj => by
        have hj' : j < us.length := by rw [hul]; exact hj
        obtain ⟨G, e1, h1, e2⟩ := hcell j hj'
        obtain ⟨X, n', cx, e3⟩ := hf j hj'
        have hr := ho.rows j hj'
        have hrk := HRL.out j hj
        obtain ⟨_, _, e4⟩ := Own.form hr
        rw [hrk] at e4
        rw [e3] at e4
        cases e4
        rw [e3] at e2 hr
        refine ⟨G, X, cx, e1, fun w' hb => ⟨(hb.cell (p := ⟨G, j, none⟩) h1).trans e2, fun i hi => ?_⟩⟩
        obtain ⟨h5, h6⟩ := own_cell hr (by rw [hrk]; unfold maxLen; omega) (j := i) (by rw [hrk]; exact hi)
        exact (hb.cell (p := ⟨X, i, none⟩) h5).trans h6)
      have HX : Hid (lots 3 (k + 1) = longTo 3 xss n) := Lib.hid (by rw [HS.out, hxs, hn])
      have hn40 : n ≤ 243 := by rw [← hn]; exact hl40
      have ON : Hid (∃ us, Full us ∧ OwnSS (wo.alloc (.cells #[] 23)) wo.heap.size (wo.alloc (.cells #[] 23)).heap.size (.slice (some ⟨wo.heap.size, 0, none⟩) 0 0) us (longTo 3 xss 0)) := Lib.hid ⟨[], Full.nil, ownSS_none wo⟩
      have BN := Lib.hid (below_grow wo (.cells #[] 23))
      rw [hul]
      clear ho hl40 hrl hxs hn hul hO us hf hcell
      go_wp2
      go_loopw [5, 6] (fun v i wr => ∃ j : Nat, j ≤ n ∧ i = .int .i64 j ∧ Hid (∃ us, Full us ∧ OwnSS wr wo.heap.size wr.heap.size v us (longTo 3 xss j)) ∧ Hid (Below wo.heap.size wo wr)) (fun _ i _ => n - (intOf i).toNat)
      case atStart => exact ⟨0, by omega, rfl, ON, BN⟩
      case round =>
        obtain ⟨j, hj, rfl, hO, hB2⟩ := hrel
        obtain ⟨wj, rfl⟩ : ∃ wj : World, wj = wr := ⟨_, rfl⟩
        clear ON BN
        by_cases hjl : j < n
        · obtain ⟨G, X, cx, rfl, hcu⟩ := HR.out j hjl
          have HI := Lib.hid hcu
          have HRK := Lib.hid (HRL.out j hjl)
          have HLJ := Lib.hid (longTo3_len (L := xss) (j := j) (by omega))
          have HXJ := Lib.hid (show longTo 3 xss (j + 1) = longTo 3 xss j ++ extTo (row xss j) 3 from rfl)
          have HXE := Lib.hid (show ∀ i, longTo 3 xss j ++ extTo (row xss j) (i + 1) = (longTo 3 xss j ++ extTo (row xss j) i) ++ [row xss j ++ [(i : Int)]] from fun i => by rw [List.append_assoc]; rfl)
          have HEL := Lib.hid (show ∀ i, (longTo 3 xss j ++ extTo (row xss j) i).length = (longTo 3 xss j).length + i from fun i => by rw [List.length_append, extTo_len])
          have hjl1 : (j : Int) < (n : Int) := by omega
          clear hcu
          go_wp2
          go_loopw [5, 7] (fun v i wr => ∃ p : Nat, p ≤ 3 ∧ i = .int .i64 p ∧ Hid (∃ us, Full us ∧ OwnSS wr wo.heap.size wr.heap.size v us (longTo 3 xss j ++ extTo (row xss j) p)) ∧ Hid (Below wo.heap.size wo wr)) (fun _ i _ => 3 - (intOf i).toNat)
          case atStart => exact ⟨0, by omega, rfl, Lib.hid (by have := hO.out; simpa [extTo] using this), hB2⟩
          case round =>
            obtain ⟨p, hp, rfl, hO3, hB3⟩ := hrel
            obtain ⟨wp, rfl⟩ : ∃ wp : World, wp = wr := ⟨_, rfl⟩
            clear hO hB2
            by_cases hpl : p < 3
            · have hpl1 : (p : Int) < 3 := by omega
              obtain ⟨us, hf, ho⟩ := hO3.out
              have HO := Lib.hid ho
              have HF := Lib.hid hf
              have hul : us.length ≤ 1640 := by have h1 := ho.len; have h2 := HEL.out p; have h3 := HLJ.out; omega
              have hBA := Below.on hB3.out (below_grow wp (.cells #[] 3))
              have hcell := (HI.out _ hBA).1
              have HCI := Lib.hid (HI.out _ hBA).2
              have hrk := HRK.out
              clear hO3 ho hf hBA
              go_wp2_with (at_builtin; refine wpAppInts (xs := []) (ys := row xss j) rfl _ _ rfl rfl (own_made' wp) HRK.out (by simp; omega) (by simp) rfl HCI.out ?_)
              intro v1 w1 o1 g1
              have b1 : Below wp.heap.size wp w1 := (below_grow wp _).grown g1 (by simp) (fun k hk => ((own_made' wp).lt k hk).1)
              have o1' : Own w1 wp.heap.size v1 (row xss j) := o1
              clear hcell o1 g1
              go_wp2_with (at_builtin; refine wpAppInt rfl _ _ rfl rfl o1' (by omega) b1.size rfl ?_)
              intro v2 w2 o2 g2 _
              obtain ⟨X2, c2, rfl⟩ := own_slice o2 (by simp)
              have b2 := b1.grown g2 b1.size (fun k hk => (o1'.lt k hk).1)
              have O2 := Lib.hid o2
              have B2 := Lib.hid b2
              have hou : w2.ownsRow wo.heap.size 23 1 u5 us.length us := (HO.out.onAll b2).outer
              clear o1' b1 o2 g2 b2 HCI hrk
              go_wp2_with (at_builtin; refine wpAppRow rfl _ _ rfl rfl hou (by omega) (Nat.le_trans hB3.out.size B2.out.size) rfl rfl ?_)
              intro v4 w4 o4 g4 k4
              have O4 : Hid (∃ us, Full us ∧ OwnSS w4 wo.heap.size w4.heap.size v4 us (longTo 3 xss j ++ extTo (row xss j) (p + 1))) := Lib.hid ⟨_, HF.out.app, by rw [HXE.out]; exact HO.out.next hB3.out.size B2.out O2.out (by simpa using o4) g4 k4⟩
              have B4 := Lib.hid ((Below.on hB3.out B2.out).grown g4 (Nat.le_trans hB3.out.size B2.out.size) (fun k hk => (HO.out.outer.lt k hk).1))
              clear o4 g4 k4 hou HO B2 O2
              go_wp2
              go_roundw
              case rel => exact ⟨p + 1, by omega, by go_num, O4, B4⟩
              case measure => simp [intOf]; omega
            · obtain rfl : p = 3 := by omega
              have O4 : Hid (∃ us, Full us ∧ OwnSS wp wo.heap.size wp.heap.size u5 us (longTo 3 xss (j + 1))) := Lib.hid (by
                obtain ⟨us, hf, ho⟩ := hO3.out
                exact ⟨us, hf, by rw [HXJ.out]; exact ho⟩)
              clear hO3
              go_wp2
              go_roundw
              case rel => exact ⟨j + 1, by omega, by go_num, O4, hB3⟩
              case measure => simp [intOf]; omega
        · obtain rfl : j = n := by omega
          have O5 : Hid (∃ us, Full us ∧ OwnSS wj w.heap.size wj.heap.size u5 us (lots 3 (k + 1))) := Lib.hid (by
            obtain ⟨us, hf, ho⟩ := hO.out
            exact ⟨us, hf, by rw [HX.out]; exact ho.lower hI.out.size⟩)
          have I5 := Lib.hid (Below.on hI.out hB2.out)
          clear hO hB2
          go_wp2
          go_roundw
          case rel => exact ⟨k + 1, by omega, by go_num, O5, I5⟩
          case measure => simp [intOf]; omega
    · obtain rfl : k = m := by omega
      obtain ⟨us, hf, ho⟩ := hO.out
      go_wp2
      go_ret
      exact ⟨_, us, rfl, hf, ho, hI.out⟩

theorem cdB_ok {p : Int} {es c : List Int} (h : Fit p es c) : cdB p es c = okC es c := by unfold cdB okC; rw [fitB_true.2 h]; rfl
theorem scd_is {p : Int} {v u : Value} {es cs : List Int} {w : World} {r : Bool} (hr : cdB p es cs = r) (h : Ints w v es) (k : Ints w u cs) (hp : intIn p) (hs : ∀ j, j < es.length → intIn (nth es j)) :
    Calls Tryd.prog 23 #[.agg #[.int .i64 p, v], u] w fun e w' => e = .returned (.bool r) ∧ Below w.heap.size w w' := by rw [← hr]; exact scd_any p v u es cs w h k hp hs

set_option maxRecDepth 20000 in
set_option maxHeartbeats 6400000 in
theorem sco_any (p : Int) (v : Value) (es : List Int) (w : World) (h : Ints w v es) (hp : intIn p) (hs : ∀ j, j < es.length → intIn (nth es j)) : Calls Tryd.prog 28 #[.agg #[.int .i64 p, v]] w (SsPost (colsB p es) w) := by
  obtain ⟨ga, gc, rfl, _⟩ := h.opened
  obtain ⟨gn, hgn⟩ : ∃ gn, es.length = gn := ⟨_, rfl⟩
  rw [hgn] at h ⊢
  clear hgn
  have HIB : Hid (∃ W : World, W.heap.size = w.heap.size + 1 ∧ Below w.heap.size w W ∧ Box W w.heap.size [.int .i64 p, .slice ga gn gc] ∧ Below W.heap.size W ((w.alloc (.cells #[.int .i64 p, .slice ga gn gc] 25)).alloc (.cells #[] 23)) ∧
      OwnSS ((w.alloc (.cells #[.int .i64 p, .slice ga gn gc] 25)).alloc (.cells #[] 23)) W.heap.size ((w.alloc (.cells #[.int .i64 p, .slice ga gn gc] 25)).alloc (.cells #[] 23)).heap.size (.slice (some ⟨w.heap.size + 1, 0, none⟩) 0 0) [] []) := Lib.hid
    ⟨w.alloc (.cells #[.int .i64 p, .slice ga gn gc] 25), by simp, below_grow _ _, Box.made w [.int .i64 p, .slice ga gn gc] 25, below_grow _ _, by have := ownSS_none (w.alloc (.cells #[.int .i64 p, .slice ga gn gc] 25)); simpa using this⟩
  obtain ⟨W, hWz, hWw, hW0, hWb, hWo⟩ := HIB.out
  have HW := Lib.hid hWz
  have HWW := Lib.hid hWw
  have BX0 := Lib.hid hW0
  have I1 := Lib.hid hWb
  have O1 := Lib.hid hWo
  have HG := Lib.hid (show ∀ w', Below W.heap.size W w' → Ints w' (.slice ga gn gc) es from fun w' hb => (h.below hWw).below hb)
  have HS := Lib.hid hs
  have HP := Lib.hid hp
  clear HIB h hs hp hWz hWw hW0 hWb hWo
  cases hf : gkB p es
  · have HX := Lib.hid (colsB_no hf)
    have HF := Lib.hid hf
    clear hf
    go_enter Tryd.func28, Tryd.ntmps28
    go_wp2_with fail
    refine (sgk_is HF.out (HG.out _ I1.out) HP.out HS.out).mono ?_
    rintro e w1 ⟨rfl, hb⟩
    have I2 := Lib.hid (Below.on I1.out hb)
    have O2 := Lib.hid (O1.out.onAll hb)
    clear hb
    go_wp2
    go_ret
    exact ⟨_, [], rfl, by rw [HX.out]; exact O2.out.lower HWW.out.size, Below.on HWW.out I2.out⟩
  have HF := Lib.hid hf
  have hgk := gkB_true.1 hf
  have HGK := Lib.hid hgk
  obtain ⟨m, hm⟩ := Int.eq_ofNat_of_zero_le (show 0 ≤ p by have := hgk.p1; omega)
  subst hm
  have HM5 : Hid (m ≤ 5) := Lib.hid (by have := hgk.p5; omega)
  obtain ⟨L, hL⟩ : ∃ L, lots 3 m = L := ⟨_, rfl⟩
  obtain ⟨n, hn⟩ : ∃ n, L.length = n := ⟨_, rfl⟩
  have HX : Hid (colsB m es = solTo (okC es) L n) := Lib.hid (by rw [colsB_yes hf]; unfold cols; rw [Int.toNat_natCast, hL, ← hn, ← hL, lots_len])
  have HCG := Lib.hid (show ∀ w', Calls Tryd.prog 70 #[.int .i64 m] w' fun e w'' => ∃ v us, e = .returned v ∧ Full us ∧ OwnSS w'' w'.heap.size w''.heap.size v us L ∧ Below w'.heap.size w' w'' from fun w' => by rw [← hL]; exact sal_any m w' HM5.out)
  have HFT := Lib.hid (show ∀ j, j < n → Fit m es (row L j) from fun j hj => (lots_fit hgk).1 (by rw [Int.toNat_natCast, hL]; exact row_mem (by rw [hn]; exact hj)))
  have hn243 : n ≤ 243 := by rw [← hn, ← hL]; exact lots3_len HM5.out
  have HN := Lib.hid hn
  clear hf hgk hL hn
  go_enter Tryd.func28, Tryd.ntmps28
  go_wp2_with fail
  refine (sgk_is HF.out (HG.out _ I1.out) HP.out HS.out).mono ?_
  rintro e w1 ⟨rfl, hb⟩
  have I2 := Lib.hid (Below.on I1.out hb)
  have O2 := Lib.hid (O1.out.onAll hb)
  have s0 := (BX0.out.on I2.out).cell 0
  simp at s0
  clear hb O1
  go_wp2_with fail
  refine (HCG.out _).mono ?_
  rintro e w2 ⟨lv, us, rfl, hful, ol, hb⟩
  have SB : Hid (∃ us', SolBu W w1.heap.size w2.heap.size w2 lv us L (okC es) (.slice (some ⟨w.heap.size + 1, 0, none⟩) 0 0) us' 0) := Lib.hid
    ⟨[], O2.out.onAll hb, fun b hb' => .inl (O2.out.hi0 b hb'), fun j hj => by simp at hj, ol, Below.on I2.out hb, Nat.le_refl _, I2.out.size⟩
  obtain ⟨a, c, hv⟩ := OwnSS.form ol
  rw [HN.out] at hv
  subst hv
  have HUL : Hid (us.length = n) := Lib.hid (by rw [ol.len]; exact HN.out)
  have HFL := Lib.hid hful
  clear ol hb hful s0 O2 I1
  go_wp2
  go_loopw [3, 5] (fun v i wr => ∃ k : Nat, k ≤ n ∧ i = .int .i64 k ∧ Hid (∃ us', SolBu W w1.heap.size w2.heap.size wr (.slice a n c) us L (okC es) v us' k)) (fun _ i _ => n - (intOf i).toNat)
  case atStart => exact ⟨0, by omega, rfl, SB⟩
  case round =>
    obtain ⟨k, hk, rfl, hS⟩ := hrel
    obtain ⟨wo, rfl⟩ : ∃ wo : World, wo = wr := ⟨_, rfl⟩
    obtain ⟨us', hs⟩ := hS.out
    clear SB
    by_cases hlt : k < n
    · have hlt1 : (k : Int) < (n : Int) := by omega
      have hku : k < us.length := by rw [HUL.out]; exact hlt
      obtain ⟨a', c', ea, hcell⟩ := outer_cell hs.lots.outer
      rw [HUL.out] at ea
      cases ea
      obtain ⟨G0, rfl, hG0, hck⟩ := hcell k hku
      obtain ⟨ug, un, uc, hu⟩ := HFL.out k hku
      have HC : Hid (∀ w', Below wo.heap.size wo w' → w'.cell? ⟨G0, k, none⟩ = some (.slice (some ⟨ug, 0, none⟩) un uc)) := Lib.hid fun w' hb => (hb.cell (p := ⟨G0, k, none⟩) hG0).trans (hck.trans (by rw [hu]))
      have HSU := Lib.hid hs
      have HE : Hid (∀ w', Below wo.heap.size wo w' → Ints w' (.slice (some ⟨ug, 0, none⟩) un uc) (row L k)) := Lib.hid fun w' hb => by
        have := (Ints.of_own (HSU.out.lots.rows k hku) (by have := (HFT.out k hlt).len; have := HM5.out; unfold maxLen; omega)).below hb
        rwa [hu] at this
      have hsl := solTo_len (okC es) L k
      have hll := hs.own.len
      have HU := Lib.hid hu
      have HBX := Lib.hid hs.box
      have HBD : Hid (Below wo.heap.size wo wo.drew) := Lib.hid (Below.refl _ _).drew
      have HCD := Lib.hid (cdB_ok (HFT.out k hlt))
      clear hs hS hcell hck hu
      cases hsv : okC es (row L k)
      all_goals
        have HV := Lib.hid hsv
        have HCC := Lib.hid (HCD.out.trans hsv)
        clear hsv
        go_wp2_with fail
        refine wp_region_cls (C := fun w' => Hid (Below wo.heap.size wo w')) (by kernel_rfl) (by kernel_rfl) HBD ?_
        repeat (first | go_big_quiet_skip | (go_big_quiet_want; go_big_quiet_op; first | go_big_quiet_on | (refine ⟨_, fun _ _ => rfl, ?_⟩; go_big_quiet_on)))
        go_big_quiet_want
        go_big_quiet_op
        refine ⟨.agg #[.int .i64 m, .slice ga gn gc], fun w' hw' => ?_, ?_⟩
        · have q := BX0.out.on (Below.on HBX.out hw'.out)
          have q0 := q.cell 0
          have q1 := q.cell 1
          simp at q0 q1
          simp [go_sem, q0, q1]
        go_big_quiet_on
        repeat (first | go_big_quiet_skip | (go_big_quiet_want; go_big_quiet_op; first | go_big_quiet_on | (refine ⟨_, fun _ _ => rfl, ?_⟩; go_big_quiet_on)))
        go_big_quiet_want
        go_big_quiet_op
        refine ⟨.slice (some ⟨ug, 0, none⟩) un uc, fun w' hw' => ?_, ?_⟩
        · have q := HC.out w' hw'.out
          simp [go_sem, q]
        go_big_quiet_on
        go_big_quiet_want; go_big_quiet_op
        go_big_quiet_call ((intro hw; exact (scd_is HCC.out (HG.out _ (Below.on HBX.out hw.out)) (HE.out _ hw.out) HP.out HS.out).mono fun _ _ ⟨he, hb⟩ => ⟨he, Lib.hid (Below.on hw.out hb)⟩))
        refine wpQuiet_nil ?_
        intro w4 hw4
        have S3 := Lib.hid (HSU.out.on hw4.out)
        have hc3 := HC.out w4 hw4.out
        clear hw4 HSU HBD HE HBX
        first
          | (have S4 : Hid (∃ us', SolBu W w1.heap.size w2.heap.size w4 (.slice (some ⟨G0, 0, none⟩) n c) us L (okC es) u3 us' (k + 1)) := Lib.hid ⟨_, S3.out.pass HV.out⟩
             clear hc3 S3
             go_wp2
             go_roundw
             case rel => exact ⟨k + 1, by omega, by go_num, S4⟩
             case measure => simp [intOf]; omega)
          | (have hou := S3.out.own.outer
             have hb3 : W.heap.size ≤ w4.heap.size := S3.out.box.size
             go_wp2_with (at_builtin; refine wpAppRow rfl _ _ rfl rfl hou (by omega) hb3 rfl rfl ?_)
             intro v4 w5 o4 g4 k4
             have S4 : Hid (∃ us', SolBu W w1.heap.size w2.heap.size w5 (.slice (some ⟨G0, 0, none⟩) n c) us L (okC es) v4 us' (k + 1)) := Lib.hid ⟨_, S3.out.take hku HV.out (by rw [HU.out]; simpa [hll] using o4) g4 k4⟩
             clear o4 g4 k4 hou S3 hc3 hb3
             go_wp2
             go_roundw
             case rel => exact ⟨k + 1, by omega, by go_num, S4⟩
             case measure => simp [intOf]; omega)
    · obtain rfl : k = n := by omega
      have HSU := Lib.hid hs
      clear hs hS
      go_wp2
      go_ret
      exact ⟨_, us', rfl, by rw [HX.out]; exact HSU.out.own.lower HWW.out.size, Below.on HWW.out HSU.out.box⟩
end Go.Proofs.YtimkmdedoacpfabDoor
