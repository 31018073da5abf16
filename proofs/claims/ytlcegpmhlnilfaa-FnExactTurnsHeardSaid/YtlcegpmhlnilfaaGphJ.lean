/- impl: sameGraph, twoOk, OrderThen, OrderBack, turnAskOk. -/
import Derived.Test.YtlcegpmhlnilfaaGphI
import Derived.Test.YtlcegpmhlnilfaaBSol
import Derived.Test.YtlcegpmhlnilfaaBSp7
namespace Go.Proofs.Ytlcegpmhlnilfaa
open Go.RowKit

theorem isg_any (p q : Int) (gv hv : Value) (g h : List Int) (w : World) (hg : Ints w gv g) (hh : Ints w hv h) :
    Calls Try.prog 69 #[.agg #[.int .i64 p, gv], .agg #[.int .i64 q, hv]] w fun e w' => e = .returned (.bool (decide (p = q) && sameB g h)) ∧ Below w.heap.size w w' := by
  obtain ⟨p0, p1, pl⟩ := boxes2 (P := [.int .i64 p, gv]) (R := [.int .i64 q, hv]) (Below.refl ((w.alloc (.cells #[.int .i64 p, gv] 30)).alloc (.cells #[.int .i64 q, hv] 30)).heap.size _)
  have a0 := p0.cell 0
  have a1 := p0.cell 1
  have b0 := p1.cell 0
  have b1 := p1.cell 1
  simp at a0 a1 b0 b1
  have PL := Lib.hid pl
  have HG := Lib.hid (hg.below pl)
  have HH := Lib.hid (hh.below pl)
  clear p0 p1 pl hg hh
  by_cases e : p = q
  · have HX := Lib.hid (show (decide (p = q) && sameB g h) = sameB g h from by simp [e])
    have hd : (p == q) = true := by simp [e]
    clear e
    go_enter Try.func69, Try.ntmps69
    go_wp2_with fail
    refine (slEq_any gv hv g h _ HG.out HH.out).mono ?_
    rintro e w1 ⟨rfl, hb⟩
    have B1 := Lib.hid (Below.on PL.out hb)
    clear hb a0 a1 b0 b1
    go_wp2
    go_ret
    exact ⟨by rw [HX.out]; rfl, B1.out⟩
  · have HX := Lib.hid (show (decide (p = q) && sameB g h) = false from by simp [e])
    have hd : (p == q) = false := by simp [e]
    clear e
    go_enter Try.func69, Try.ntmps69
    go_wp2
    go_ret
    exact ⟨by rw [HX.out]; rfl, PL.out⟩
theorem isg_is {p q : Int} {gv hv : Value} {g h : List Int} {w : World} {r : Bool} (hr : (decide (p = q) && sameB g h) = r) (hg : Ints w gv g) (hh : Ints w hv h) :
    Calls Try.prog 69 #[.agg #[.int .i64 p, gv], .agg #[.int .i64 q, hv]] w fun e w' => e = .returned (.bool r) ∧ Below w.heap.size w w' := by rw [← hr]; exact isg_any p q gv hv g h w hg hh

theorem iask_any (ask : Int) (w : World) : Calls Try.prog 76 #[.int .i64 ask] w fun e w' => e = .returned (.bool (decide (0 ≤ ask) && decide (ask ≤ 1))) ∧ w = w' := by
  by_cases h0 : ask = 0
  · have HX := Lib.hid (show (decide (0 ≤ ask) && decide (ask ≤ 1)) = true by simp [h0])
    have d0 : (ask == 0) = true := by simp [h0]
    clear h0
    go_enter Try.func76, Try.ntmps76
    go_wp2
    go_ret
    exact ⟨by rw [HX.out]; rfl, rfl⟩
  have d0 : (ask == 0) = false := by simp [h0]
  by_cases h1 : ask = 1
  · have HX := Lib.hid (show (decide (0 ≤ ask) && decide (ask ≤ 1)) = true by simp [h1])
    have d1 : (ask == 1) = true := by simp [h1]
    clear h0 h1
    go_enter Try.func76, Try.ntmps76
    go_wp2
    go_ret
    exact ⟨by rw [HX.out]; rfl, rfl⟩
  · have HX := Lib.hid (show (decide (0 ≤ ask) && decide (ask ≤ 1)) = false by
      by_cases c : 0 ≤ ask
      · have : ¬ ask ≤ 1 := by omega
        simp [this]
      · simp [c])
    have d1 : (ask == 1) = false := by simp [h1]
    clear h0 h1
    go_enter Try.func76, Try.ntmps76
    go_wp2
    go_ret
    exact ⟨by rw [HX.out]; rfl, rfl⟩
theorem iask_is {ask : Int} {w : World} {b : Bool} (hb : (decide (0 ≤ ask) && decide (ask ≤ 1)) = b) : Calls Try.prog 76 #[.int .i64 ask] w fun e w' => e = .returned (.bool b) ∧ w = w' := by rw [← hb]; exact iask_any ask w

set_option maxHeartbeats 800000 in
theorem itwo_any (p q : Int) (gv hv : Value) (g h : List Int) (w : World) (hg : Ints w gv g) (hh : Ints w hv h) (hs : ∀ j, j < g.length → intIn (nth g j)) (hs' : ∀ j, j < h.length → intIn (nth h j)) :
    Calls Try.prog 58 #[.agg #[.int .i64 p, gv], .agg #[.int .i64 q, hv]] w fun e w' => e = .returned (.bool (btB p g q h)) ∧ Below w.heap.size w w' := by
  obtain ⟨p0, p1, pl⟩ := boxes2 (P := [.int .i64 p, gv]) (R := [.int .i64 q, hv]) (Below.refl ((w.alloc (.cells #[.int .i64 p, gv] 30)).alloc (.cells #[.int .i64 q, hv] 30)).heap.size _)
  have B0 := Lib.hid (Below.refl ((w.alloc (.cells #[.int .i64 p, gv] 30)).alloc (.cells #[.int .i64 q, hv] 30)).heap.size ((w.alloc (.cells #[.int .i64 p, gv] 30)).alloc (.cells #[.int .i64 q, hv] 30)))
  have BG := Lib.hid p0
  have BH := Lib.hid p1
  have PL := Lib.hid pl
  have HG := Lib.hid (show ∀ w', Below w.heap.size w w' → Ints w' gv g from fun w' hb => hg.below hb)
  have HH := Lib.hid (show ∀ w', Below w.heap.size w w' → Ints w' hv h from fun w' hb => hh.below hb)
  have HS := Lib.hid hs
  have HS' := Lib.hid hs'
  clear p0 p1 pl hg hh hs hs'
  have cg0 := (BG.out.on B0.out).cell 0
  have cg1 := (BG.out.on B0.out).cell 1
  have ch0 := (BH.out.on B0.out).cell 0
  have ch1 := (BH.out.on B0.out).cell 1
  simp at cg0 cg1 ch0 ch1
  cases k1 : gkB p g
  · have HX := Lib.hid (show btB p g q h = false by simp [btB, k1])
    go_enter Try.func58, Try.ntmps58
    go_wp2_with fail
    refine (igk_is k1 (HG.out _ PL.out) HS.out).mono ?_
    rintro e w1 ⟨rfl, hb⟩
    have B1 := Lib.hid (Below.on PL.out hb)
    clear hb cg0 cg1 ch0 ch1
    go_wp2
    go_ret
    exact ⟨by rw [HX.out]; rfl, B1.out⟩
  cases k2 : gkB q h
  · have HX := Lib.hid (show btB p g q h = false by simp [btB, k1, k2])
    go_enter Try.func58, Try.ntmps58
    go_wp2_with fail
    refine (igk_is k1 (HG.out _ PL.out) HS.out).mono ?_
    rintro e w1 ⟨rfl, hb⟩
    have B1 := Lib.hid (Below.on PL.out hb)
    have BH1 := Lib.hid (BH.out.on hb)
    clear hb cg0 cg1 ch0 ch1
    have ch0 := BH1.out.cell 0
    have ch1 := BH1.out.cell 1
    simp at ch0 ch1
    go_wp2_with fail
    refine (igk_is k2 (HH.out _ B1.out) HS'.out).mono ?_
    rintro e w2 ⟨rfl, hb⟩
    have B2 := Lib.hid (Below.on B1.out hb)
    clear hb ch0 ch1
    go_wp2
    go_ret
    exact ⟨by rw [HX.out]; rfl, B2.out⟩
  obtain ⟨b, hb0⟩ : ∃ b, decide (p = q) = b := ⟨_, rfl⟩
  have hd : (p == q) = b := by rw [← hb0]; by_cases e : p = q <;> simp [e]
  have HX := Lib.hid (show btB p g q h = b by simp [btB, k1, k2, hb0])
  clear hb0
  go_enter Try.func58, Try.ntmps58
  go_wp2_with fail
  refine (igk_is k1 (HG.out _ PL.out) HS.out).mono ?_
  rintro e w1 ⟨rfl, hb⟩
  have B1 := Lib.hid (Below.on PL.out hb)
  have BG1 := Lib.hid (BG.out.on hb)
  have BH1 := Lib.hid (BH.out.on hb)
  clear hb cg0 cg1 ch0 ch1
  have ch0 := BH1.out.cell 0
  have ch1 := BH1.out.cell 1
  simp at ch0 ch1
  go_wp2_with fail
  refine (igk_is k2 (HH.out _ B1.out) HS'.out).mono ?_
  rintro e w2 ⟨rfl, hb⟩
  have B2 := Lib.hid (Below.on B1.out hb)
  have cg0 := (BG1.out.on hb).cell 0
  clear ch0 ch1
  have ch0 := (BH1.out.on hb).cell 0
  simp at cg0 ch0
  clear hb
  go_wp2
  go_ret
  exact ⟨by rw [HX.out]; first | rfl | simp, B2.out⟩
theorem itwo_is {p q : Int} {gv hv : Value} {g h : List Int} {w : World} {r : Bool} (hr : btB p g q h = r) (hg : Ints w gv g) (hh : Ints w hv h) (hs : ∀ j, j < g.length → intIn (nth g j)) (hs' : ∀ j, j < h.length → intIn (nth h j)) :
    Calls Try.prog 58 #[.agg #[.int .i64 p, gv], .agg #[.int .i64 q, hv]] w fun e w' => e = .returned (.bool r) ∧ Below w.heap.size w w' := by rw [← hr]; exact itwo_any p q gv hv g h w hg hh hs hs'

theorem ithn_no (va vb : Value) (a b : List Int) (w : World) (h : Ints w va a) (h' : Ints w vb b) (ca : capB va) (cb : capB vb) (hb : thB a b = false) : Calls Try.prog 77 #[va, vb] w fun e w' => ∃ v, e = .returned v ∧ Own w' w.heap.size v (thL a b) ∧ Below w.heap.size w w' := by
  have HA := Lib.hid (show ∀ w', Below w.heap.size w w' → Ints w' va a from fun w' hb => h.below hb)
  have HB := Lib.hid (show ∀ w', Below w.heap.size w w' → Ints w' vb b from fun w' hb => h'.below hb)
  have HX := Lib.hid (thL_no hb)
  have CA := Lib.hid ca
  have CB := Lib.hid cb
  obtain ⟨aa, ac, rfl, _⟩ := h.opened
  obtain ⟨n, hn⟩ : ∃ n, a.length = n := ⟨_, rfl⟩
  have hab : odB a n = true → odB b n = false := fun e => by
    unfold thB at hb; rw [hn, e] at hb; simpa using hb
  rw [hn] at HA CA ⊢
  cases hra : odB a n
  · have HRA := Lib.hid hra
    clear h h' hb hn hra hab ca cb
    go_enter Try.func77, Try.ntmps77
    go_wp2_with fail
    refine (iod_is HRA.out (HA.out _ (Below.refl _ _)) CA.out).mono ?_
    rintro e w1 ⟨rfl, hb⟩
    have B1 := Lib.hid hb
    clear hb
    go_wp2
    go_ret
    exact ⟨_, rfl, by rw [HX.out]; exact World.ownsRow_nil _ _ _ _, B1.out⟩
  · have HRA := Lib.hid hra
    have HRB := Lib.hid (hab hra)
    clear h h' hb hn hra hab ca cb
    go_enter Try.func77, Try.ntmps77
    go_wp2_with fail
    refine (iod_is HRA.out (HA.out _ (Below.refl _ _)) CA.out).mono ?_
    rintro e w1 ⟨rfl, hb⟩
    have B1 := Lib.hid hb
    clear hb
    go_wp2_with fail
    refine (iod_is HRB.out (HB.out _ B1.out) CB.out).mono ?_
    rintro e w2 ⟨rfl, hb⟩
    have B2 := Lib.hid (Below.on B1.out hb)
    clear hb
    go_wp2
    go_ret
    exact ⟨_, rfl, by rw [HX.out]; exact World.ownsRow_nil _ _ _ _, B2.out⟩

set_option maxHeartbeats 1600000 in
theorem ithn_yes (va vb : Value) (a b : List Int) (w : World) (h : Ints w va a) (h' : Ints w vb b) (ca : capB va) (cb : capB vb) (hb : thB a b = true) : Calls Try.prog 77 #[va, vb] w fun e w' => ∃ v, e = .returned v ∧ Own w' w.heap.size v (thL a b) ∧ Below w.heap.size w w' := by
  have HA := Lib.hid (show ∀ w', Below w.heap.size w w' → Ints w' va a from fun w' hb => h.below hb)
  have HB := Lib.hid (show ∀ w', Below w.heap.size w w' → Ints w' vb b from fun w' hb => h'.below hb)
  have CA := Lib.hid ca
  have CB := Lib.hid cb
  obtain ⟨oa, ob⟩ := thB_true.1 hb
  obtain ⟨aa, ac, rfl, k1⟩ := h.opened
  obtain ⟨ba, bc, rfl, k2⟩ := h'.opened
  have hbl : b.length = a.length := by have := ob.len; omega
  have HC := Lib.hid (show ∀ k, k < a.length → ∃ G q H, aa = some ⟨G, 0, none⟩ ∧ (∀ w', Below w.heap.size w w' → w'.cell? ⟨G, k, none⟩ = some (.int .i64 ((q : Nat) : Int))) ∧ q < a.length ∧ ba = some ⟨H, 0, none⟩ ∧ ∀ w', Below w.heap.size w w' → w'.cell? ⟨H, q, none⟩ = some (.int .i64 (app b (nth a k))) from fun k hk => by
    obtain ⟨G, e1, hl, e2⟩ := k1.get k hk
    have hbd := oa.bd k hk
    have hal := oa.len
    obtain ⟨H, e3, hl', e4⟩ := k2.get (nth a k).toNat (by omega)
    exact ⟨G, (nth a k).toNat, H, e1, fun w' hb => by rw [show (((nth a k).toNat : Nat) : Int) = nth a k by omega]; exact (hb.cell (p := ⟨G, k, none⟩) hl).trans e2, by omega, e3, fun w' hb => (hb.cell (p := ⟨H, _, none⟩) hl').trans e4⟩)
  obtain ⟨TH, hTH⟩ : ∃ TH : Nat → List Int, TH = thenTo a b := ⟨_, rfl⟩
  have HTS := Lib.hid (show ∀ k, TH (k + 1) = TH k ++ [app b (nth a k)] from fun k => by rw [hTH]; rfl)
  have HTL := Lib.hid (show ∀ k, (TH k).length = k from fun k => by rw [hTH]; exact thenTo_len _ _ _)
  have HT0 := Lib.hid (show TH 0 = [] from by rw [hTH]; rfl)
  obtain ⟨n, hn⟩ : ∃ n, a.length = n := ⟨_, rfl⟩
  have HX := Lib.hid (show thL a b = TH n from by rw [thL_yes hb, hTH, ← hn]; rfl)
  have HRA := Lib.hid (show odB a n = true from by rw [← hn]; exact odB_true.2 oa)
  have HRB := Lib.hid (show odB b n = true from by rw [← hn]; exact odB_true.2 ob)
  have hn5 : n ≤ 5 := by have := oa.len; have := oa.m5; omega
  rw [hbl, hn] at HB CB
  rw [hbl]
  rw [hn] at HA HC CA ⊢
  clear h h' hb hn oa ob k1 k2 hbl hTH ca cb
  go_enter Try.func77, Try.ntmps77
  go_wp2_with fail
  refine (iod_is HRA.out (HA.out _ (Below.refl _ _)) CA.out).mono ?_
  rintro e w1 ⟨rfl, hb⟩
  have B1 := Lib.hid hb
  clear hb
  go_wp2_with fail
  refine (iod_is HRB.out (HB.out _ B1.out) CB.out).mono ?_
  rintro e w2 ⟨rfl, hb⟩
  have B2 := Lib.hid (Below.on B1.out hb)
  clear hb B1
  go_wp2
  go_loopw [5, 22] (fun v i wr => ∃ k : Nat, k ≤ n ∧ i = .int .i64 k ∧ Hid (Own wr w.heap.size v (TH k)) ∧ Hid (Below w.heap.size w wr)) (fun _ i _ => n - (intOf i).toNat)
  case atStart => exact ⟨0, by omega, rfl, Lib.hid (by rw [HT0.out]; exact World.ownsRow_nil _ _ _ _), B2⟩
  case round =>
    obtain ⟨k, hk, rfl, hO, hB⟩ := hrel
    obtain ⟨wo, rfl⟩ : ∃ wo : World, wo = wr := ⟨_, rfl⟩
    clear B2
    by_cases hlt : k < n
    · obtain ⟨G, q, H, rfl, hc1, hq, rfl, hc2⟩ := HC.out k hlt
      have HS := Lib.hid (HTS.out k)
      obtain ⟨y, hy⟩ : ∃ y, app b (nth a k) = y := ⟨_, rfl⟩
      rw [hy] at hc2 HS
      have hlt1 : (k : Int) < (n : Int) := by omega
      have hq1 : (q : Int) < (n : Int) := by omega
      have d1 := hc1 _ hB.out
      have d2 := hc2 _ hB.out
      have ov := hO.out
      have oz := hB.out.size
      have hll := HTL.out k
      clear hc1 hc2 hy
      go_wp2_with (at_builtin; refine wpAppInt rfl _ _ rfl rfl ov (by rw [hll]; omega) oz rfl ?_)
      intro v3 w3 o3 g3 _
      have O3 : Hid (Own w3 w.heap.size v3 (TH (k + 1))) := Lib.hid (by rw [HS.out]; exact o3)
      have B3 := Lib.hid (hB.out.grown g3 oz (fun k hk => (ov.lt k hk).1))
      clear d1 d2 ov oz o3 g3 hll
      go_wp2
      go_roundw
      case rel => exact ⟨k + 1, by omega, by go_num, O3, B3⟩
      case measure => simp [intOf]; omega
    · obtain rfl : k = n := by omega
      go_wp2
      go_ret
      exact ⟨_, rfl, by rw [HX.out]; exact hO.out, hB.out⟩
theorem ithn_any (va vb : Value) (a b : List Int) (w : World) (h : Ints w va a) (h' : Ints w vb b) (ca : capB va) (cb : capB vb) : Calls Try.prog 77 #[va, vb] w fun e w' => ∃ v, e = .returned v ∧ Own w' w.heap.size v (thL a b) ∧ Below w.heap.size w w' := by
  cases hb : thB a b
  · exact ithn_no va vb a b w h h' ca cb hb
  · exact ithn_yes va vb a b w h h' ca cb hb

theorem ibck_no (va : Value) (a : List Int) (w : World) (h : Ints w va a) (ca : capB va) (hb : odB a a.length = false) : Calls Try.prog 78 #[va] w fun e w' => ∃ v, e = .returned v ∧ Own w' w.heap.size v (bkL a) ∧ Below w.heap.size w w' := by
  have HX := Lib.hid (bkL_no hb)
  have HA := Lib.hid h
  have CA := Lib.hid ca
  obtain ⟨aa, ac, rfl, _⟩ := h.opened
  obtain ⟨n, hn⟩ : ∃ n, a.length = n := ⟨_, rfl⟩
  rw [hn] at HA CA hb ⊢
  clear h hn ca
  go_enter Try.func78, Try.ntmps78
  go_wp2_with fail
  refine (iod_is hb HA.out CA.out).mono ?_
  rintro e w1 ⟨rfl, hb1⟩
  have B1 := Lib.hid hb1
  clear hb1 hb
  go_wp2
  go_ret
  exact ⟨_, rfl, by rw [HX.out]; exact World.ownsRow_nil _ _ _ _, B1.out⟩

set_option maxHeartbeats 1600000 in
theorem ibck_yes (va : Value) (a : List Int) (w : World) (h : Ints w va a) (ca : capB va) (hb : odB a a.length = true) : Calls Try.prog 78 #[va] w fun e w' => ∃ v, e = .returned v ∧ Own w' w.heap.size v (bkL a) ∧ Below w.heap.size w w' := by
  have HA := Lib.hid h
  have CA := Lib.hid ca
  have oa := odB_true.1 hb
  obtain ⟨aa, ac, rfl, k1⟩ := h.opened
  have HC := Lib.hid (show ∀ k, k < a.length → ∃ G q, aa = some ⟨G, 0, none⟩ ∧ (∀ w', Below w.heap.size w w' → w'.cell? ⟨G, k, none⟩ = some (.int .i64 ((q : Nat) : Int))) ∧ q < a.length ∧ backTo a (k + 1) = (backTo a k).set q k from fun k hk => by
    obtain ⟨G, e1, hl, e2⟩ := k1.get k hk
    have hbd := oa.bd k hk
    have hal := oa.len
    exact ⟨G, (nth a k).toNat, e1, fun w' hb => by rw [show (((nth a k).toNat : Nat) : Int) = nth a k by omega]; exact (hb.cell (p := ⟨G, k, none⟩) hl).trans e2, by omega, rfl⟩)
  obtain ⟨BT, hBT⟩ : ∃ BT : Nat → List Int, BT = backTo a := ⟨_, rfl⟩
  obtain ⟨n, hn⟩ : ∃ n, a.length = n := ⟨_, rfl⟩
  have HX := Lib.hid (show bkL a = BT n from by rw [bkL_yes hb, hBT, ← hn]; rfl)
  have HTL := Lib.hid (show ∀ k, (BT k).length = n from fun k => by rw [hBT, backTo_len, hn])
  have HT0 := Lib.hid (show BT 0 = List.replicate n 0 from by rw [hBT, ← hn]; rfl)
  have hn5 : n ≤ 5 := by have := oa.len; have := oa.m5; omega
  have hn1 : 1 ≤ n := by have := oa.len; have := oa.m1; omega
  rw [← hBT] at HC
  rw [hn] at HA HC CA hb ⊢
  have hmk := run_make_row' (P := Try.prog) 22 3 (.int .i64 0) 8 Try.underlying22 infoInt rfl .i64 .i64 n (by omega) (by omega)
  clear h hn oa k1 hBT ca
  go_enter Try.func78, Try.ntmps78
  go_wp2_with fail
  refine (iod_is hb HA.out CA.out).mono ?_
  rintro e w1 ⟨rfl, hb1⟩
  have O1 := Lib.hid (own_make w1 n (by omega))
  have B1 := Lib.hid (Below.on hb1 (below_grow w1 (.cells (madeCells #[.int .i64 0] n) 3)))
  have Z1 := Lib.hid hb1.size
  clear hb1 hb
  go_wp2
  clear hmk
  go_loopw [16] (fun i wr => ∃ k : Nat, k ≤ n ∧ i = .int .i64 k ∧ Hid (Own wr w1.heap.size (.slice (some ⟨w1.heap.size, 0, none⟩) n n) (BT k)) ∧ Hid (Below w.heap.size w wr)) (fun i _ => n - (intOf i).toNat)
  case atStart => exact ⟨0, by omega, rfl, Lib.hid (by rw [HT0.out]; exact O1.out), B1⟩
  case round =>
    obtain ⟨k, hk, rfl, hO, hB⟩ := hrel
    obtain ⟨wo, rfl⟩ : ∃ wo : World, wo = wr := ⟨_, rfl⟩
    clear O1 B1
    by_cases hlt : k < n
    · obtain ⟨G, q, rfl, hc1, hq, hs⟩ := HC.out k hlt
      have d1 := hc1 _ hB.out
      have hlt1 : (k : Int) < (n : Int) := by omega
      have hq1 : (q : Int) < (n : Int) := by omega
      obtain ⟨⟨f1, f2⟩, s1, s2⟩ := Own.set (k := q) hO.out (HTL.out k) hq (k : Int)
      have O2 : Hid (Own (wo.setCell ⟨w1.heap.size, q, none⟩ (.int .i64 (k : Int))) w1.heap.size (.slice (some ⟨w1.heap.size, 0, none⟩) n n) (BT (k + 1))) := Lib.hid (by rw [hs]; exact s1)
      have B2 := Lib.hid (hB.out.grown s2 hB.out.size (fun b hb => by cases hb; exact Z1.out))
      clear hc1 hs s1 s2 hO hB
      go_wp2
      go_roundw
      case rel => exact ⟨k + 1, by omega, by go_num, O2, B2⟩
      case measure => simp [intOf]; omega
    · obtain rfl : k = n := by omega
      go_wp2
      go_ret
      exact ⟨_, rfl, by rw [HX.out]; exact own_mono hO.out Z1.out, hB.out⟩
theorem ibck_any (va : Value) (a : List Int) (w : World) (h : Ints w va a) (ca : capB va) : Calls Try.prog 78 #[va] w fun e w' => ∃ v, e = .returned v ∧ Own w' w.heap.size v (bkL a) ∧ Below w.heap.size w w' := by
  cases hb : odB a a.length
  · exact ibck_no va a w h ca hb
  · exact ibck_yes va a w h ca hb
end Go.Proofs.Ytlcegpmhlnilfaa
