/- impl: TurnOk, TurnOf. -/
import Derived.Test.YtlcegpmhlnilfaaTrnI
import Derived.Test.YtlcegpmhlnilfaaBSp7
namespace Go.Proofs.Ytlcegpmhlnilfaa
open Go.RowKit

theorem gk_small {p : Int} {es : List Int} (h : Gk p es) : es.length ≤ maxLen := Nat.le_trans h.few (by unfold maxLen; omega)
theorem od_small {p : Int} {o : List Int} (h : Od o p) : o.length ≤ maxLen := by have := h.len; have := h.m5; unfold maxLen; omega

theorem ofT_parts (p q ask : Int) (g h known further : List Int) : ofT p g q h known further ask = (ldB p g q h known && (odB further p && (decide (0 ≤ ask) && decide (ask ≤ 1)))) := by
  rw [ldB_is]; unfold ofT
  cases btB p g q h <;> cases odB known p <;> cases odB further p <;> cases leads g h known <;> cases decide (0 ≤ ask) <;> cases decide (ask ≤ 1) <;> rfl

set_option maxRecDepth 20000 in
set_option maxHeartbeats 1600000 in
theorem itof_no (p q ask : Int) (gv hv kv fv : Value) (g h known further : List Int) (w : World) (hg : Ints w gv g) (hh : Ints w hv h) (hkn : Ints w kv known) (hf : Ints w fv further) (ck : capB kv) (cf : capB fv) (hs : ∀ j, j < g.length → intIn (nth g j)) (hs' : ∀ j, j < h.length → intIn (nth h j)) (hb : ofT p g q h known further ask = false) :
    Calls Try.prog 49 #[.agg #[.int .i64 p, gv], .agg #[.int .i64 q, hv], kv, fv, .int .i64 ask] w (OfPost p g q h known further ask w) := by
  have HX := Lib.hid hb
  rw [ofT_parts] at hb
  have HB3 := boxes3w (w := w) [.int .i64 p, gv] [.int .i64 q, hv] [.int .i64 0, .slice none 0 0, .int .i64 0, .slice none 0 0] 30 30 60
  obtain ⟨W, hWe, hWs, hW, b0, b1, b2⟩ := HB3.out
  have B0 : Hid (Below W.heap.size W (((w.alloc (.cells #[.int .i64 p, gv] 30)).alloc (.cells #[.int .i64 q, hv] 30)).alloc (.cells #[.int .i64 0, .slice none 0 0, .int .i64 0, .slice none 0 0] 60))) := Lib.hid (by rw [hWe]; exact Below.refl _ _)
  have HWS := Lib.hid hWs
  have BG := Lib.hid b0
  have BH := Lib.hid b1
  have BO := Lib.hid b2
  have HG := Lib.hid (show ∀ w', Below W.heap.size W w' → Ints w' gv g from fun w' hb => (hg.below hW).below hb)
  have HH := Lib.hid (show ∀ w', Below W.heap.size W w' → Ints w' hv h from fun w' hb => (hh.below hW).below hb)
  have HK := Lib.hid (show ∀ w', Below W.heap.size W w' → Ints w' kv known from fun w' hb => (hkn.below hW).below hb)
  have HF := Lib.hid (show ∀ w', Below W.heap.size W w' → Ints w' fv further from fun w' hb => (hf.below hW).below hb)
  have CK := Lib.hid ck
  have CF := Lib.hid cf
  have HSG := Lib.hid hs
  have HSH := Lib.hid hs'
  have FIN : Hid (∀ w', Below W.heap.size W w' → Below w.heap.size w w') := Lib.hid fun w' hb => hW.trans (hb.mono hW.size)
  clear HB3 hWe hWs hW b0 b1 b2 hg hh hkn hf hs hs' ck cf
  have cg0 := (BG.out.on B0.out).cell 0
  have cg1 := (BG.out.on B0.out).cell 1
  have ch0 := (BH.out.on B0.out).cell 0
  have ch1 := (BH.out.on B0.out).cell 1
  simp at cg0 cg1 ch0 ch1
  cases k1 : ldB p g q h known
  · clear hb
    go_enter Try.func49, Try.ntmps49
    go_wp2_with fail
    refine (ild_is k1 (HG.out _ B0.out) (HH.out _ B0.out) (HK.out _ B0.out) CK.out HSG.out HSH.out).mono ?_
    rintro e w1 ⟨rfl, hb⟩
    have B1 := Lib.hid (Below.on B0.out hb)
    clear hb
    clear cg0 cg1 ch0 ch1
    have co0 := (BO.out.on B1.out).cell 0
    have co1 := (BO.out.on B1.out).cell 1
    have co2 := (BO.out.on B1.out).cell 2
    have co3 := (BO.out.on B1.out).cell 3
    simp at co0 co1 co2 co3
    have f0 := (BO.out.on B1.out).frozen 0
    have f1 := (BO.out.on B1.out).frozen 1
    have f2 := (BO.out.on B1.out).frozen 2
    have f3 := (BO.out.on B1.out).frozen 3
    have FF := Lib.hid (FIN.out _ B1.out)
    go_wp2
    refine bodyPost_ret (v := .tuple #[.agg #[.int .i64 0, .slice none 0 0, .int .i64 0, .slice none 0 0], .bool false]) ?_ rfl ?_
    · simp [results, Try.results49, go_sem, co0, co1, co2, co3]
    · unfold OfPost
      rw [HX.out]
      exact ⟨_, _, rfl, World.ownsRow_nil _ _ _ _, World.ownsRow_nil _ _ _ _, fun k hk => (by cases hk), (by first | exact below_set4 FF.out (by omega) | exact FF.out)⟩
  cases k2 : odB further p
  · clear hb
    go_enter Try.func49, Try.ntmps49
    go_wp2_with fail
    refine (ild_is k1 (HG.out _ B0.out) (HH.out _ B0.out) (HK.out _ B0.out) CK.out HSG.out HSH.out).mono ?_
    rintro e w1 ⟨rfl, hb⟩
    have B1 := Lib.hid (Below.on B0.out hb)
    clear hb
    clear cg0 cg1 ch0 ch1
    have cg0 := (BG.out.on B1.out).cell 0
    simp at cg0
    go_wp2_with fail
    refine (iod_is k2 (HF.out _ B1.out) CF.out).mono ?_
    rintro e w2 ⟨rfl, hb⟩
    have B2 := Lib.hid (Below.on B1.out hb)
    clear hb
    clear cg0
    have co0 := (BO.out.on B2.out).cell 0
    have co1 := (BO.out.on B2.out).cell 1
    have co2 := (BO.out.on B2.out).cell 2
    have co3 := (BO.out.on B2.out).cell 3
    simp at co0 co1 co2 co3
    have f0 := (BO.out.on B2.out).frozen 0
    have f1 := (BO.out.on B2.out).frozen 1
    have f2 := (BO.out.on B2.out).frozen 2
    have f3 := (BO.out.on B2.out).frozen 3
    have FF := Lib.hid (FIN.out _ B2.out)
    go_wp2
    refine bodyPost_ret (v := .tuple #[.agg #[.int .i64 0, .slice none 0 0, .int .i64 0, .slice none 0 0], .bool false]) ?_ rfl ?_
    · simp [results, Try.results49, go_sem, co0, co1, co2, co3]
    · unfold OfPost
      rw [HX.out]
      exact ⟨_, _, rfl, World.ownsRow_nil _ _ _ _, World.ownsRow_nil _ _ _ _, fun k hk => (by cases hk), (by first | exact below_set4 FF.out (by omega) | exact FF.out)⟩
  have k3 : (decide (0 ≤ ask) && decide (ask ≤ 1)) = false := by rw [k1, k2] at hb; simpa using hb
  clear hb
  go_enter Try.func49, Try.ntmps49
  go_wp2_with fail
  refine (ild_is k1 (HG.out _ B0.out) (HH.out _ B0.out) (HK.out _ B0.out) CK.out HSG.out HSH.out).mono ?_
  rintro e w1 ⟨rfl, hb⟩
  have B1 := Lib.hid (Below.on B0.out hb)
  clear hb
  clear cg0 cg1 ch0 ch1
  have cg0 := (BG.out.on B1.out).cell 0
  simp at cg0
  go_wp2_with fail
  refine (iod_is k2 (HF.out _ B1.out) CF.out).mono ?_
  rintro e w2 ⟨rfl, hb⟩
  have B2 := Lib.hid (Below.on B1.out hb)
  clear hb
  clear cg0
  go_wp2_with fail
  refine (iask_is k3).mono ?_
  rintro e wx ⟨rfl, rfl⟩
  have co0 := (BO.out.on B2.out).cell 0
  have co1 := (BO.out.on B2.out).cell 1
  have co2 := (BO.out.on B2.out).cell 2
  have co3 := (BO.out.on B2.out).cell 3
  simp at co0 co1 co2 co3
  have f0 := (BO.out.on B2.out).frozen 0
  have f1 := (BO.out.on B2.out).frozen 1
  have f2 := (BO.out.on B2.out).frozen 2
  have f3 := (BO.out.on B2.out).frozen 3
  have FF := Lib.hid (FIN.out _ B2.out)
  go_wp2
  refine bodyPost_ret (v := .tuple #[.agg #[.int .i64 0, .slice none 0 0, .int .i64 0, .slice none 0 0], .bool false]) ?_ rfl ?_
  · simp [results, Try.results49, go_sem, co0, co1, co2, co3]
  · unfold OfPost
    rw [HX.out]
    exact ⟨_, _, rfl, World.ownsRow_nil _ _ _ _, World.ownsRow_nil _ _ _ _, fun k hk => (by cases hk), (by first | exact below_set4 FF.out (by omega) | exact FF.out)⟩

set_option maxRecDepth 20000 in
set_option maxHeartbeats 1600000 in
theorem itof_0 (p ask : Int) (gv hv kv fv : Value) (g h known further : List Int) (w : World) (hg : Ints w gv g) (hh : Ints w hv h) (hkn : Ints w kv known) (hf : Ints w fv further) (ck : capB kv) (cf : capB fv) (hs : ∀ j, j < g.length → intIn (nth g j)) (hs' : ∀ j, j < h.length → intIn (nth h j)) (hb : ofT p g p h known further ask = true) (hask : (ask == 1) = false) :
    Calls Try.prog 49 #[.agg #[.int .i64 p, gv], .agg #[.int .i64 p, hv], kv, fv, .int .i64 ask] w (OfPost p g p h known further ask w) := by
  have hm := ofT_true.1 hb
  have HX := Lib.hid hb
  rw [ofT_parts] at hb
  obtain ⟨k1, k2, k3⟩ : ldB p g p h known = true ∧ odB further p = true ∧ (decide (0 ≤ ask) && decide (ask ≤ 1)) = true := by
    simp only [Bool.and_eq_true] at hb ⊢; exact ⟨hb.1, hb.2.1, hb.2.2⟩
  have HGM := Lib.hid (gm_yes (gmB_true.2 ⟨hm.gg, hm.of⟩))
  have HF3 := Lib.hid (show further.length ≤ 1000 by have := hm.of.len; have := hm.of.m5; omega)
  have HTO : Hid (further = toldT known further ask) := Lib.hid (by unfold toldT; simp at hask; rw [if_neg hask])
  clear hm hb
  have HB3 := boxes3w (w := w) [.int .i64 p, gv] [.int .i64 p, hv] [.int .i64 0, .slice none 0 0, .int .i64 0, .slice none 0 0] 30 30 60
  obtain ⟨W, hWe, hWs, hW, b0, b1, b2⟩ := HB3.out
  have B0 : Hid (Below W.heap.size W (((w.alloc (.cells #[.int .i64 p, gv] 30)).alloc (.cells #[.int .i64 p, hv] 30)).alloc (.cells #[.int .i64 0, .slice none 0 0, .int .i64 0, .slice none 0 0] 60))) := Lib.hid (by rw [hWe]; exact Below.refl _ _)
  have HWS := Lib.hid hWs
  have BG := Lib.hid b0
  have BH := Lib.hid b1
  have BO := Lib.hid b2
  have HG := Lib.hid (show ∀ w', Below W.heap.size W w' → Ints w' gv g from fun w' hb => (hg.below hW).below hb)
  have HH := Lib.hid (show ∀ w', Below W.heap.size W w' → Ints w' hv h from fun w' hb => (hh.below hW).below hb)
  have HK := Lib.hid (show ∀ w', Below W.heap.size W w' → Ints w' kv known from fun w' hb => (hkn.below hW).below hb)
  have HF := Lib.hid (show ∀ w', Below W.heap.size W w' → Ints w' fv further from fun w' hb => (hf.below hW).below hb)
  have CK := Lib.hid ck
  have CF := Lib.hid cf
  have HSG := Lib.hid hs
  have HSH := Lib.hid hs'
  have FIN : Hid (∀ w', Below W.heap.size W w' → Below w.heap.size w w') := Lib.hid fun w' hb => hW.trans (hb.mono hW.size)
  clear HB3 hWe hWs hW b0 b1 b2 hg hh hkn hf hs hs' ck cf
  have cg0 := (BG.out.on B0.out).cell 0
  have cg1 := (BG.out.on B0.out).cell 1
  have ch0 := (BH.out.on B0.out).cell 0
  have ch1 := (BH.out.on B0.out).cell 1
  simp at cg0 cg1 ch0 ch1
  go_enter Try.func49, Try.ntmps49
  go_wp2_with fail
  refine (ild_is k1 (HG.out _ B0.out) (HH.out _ B0.out) (HK.out _ B0.out) CK.out HSG.out HSH.out).mono ?_
  rintro e w1 ⟨rfl, hb⟩
  have B1 := Lib.hid (Below.on B0.out hb)
  clear hb
  clear cg0 cg1 ch0 ch1
  have cg0 := (BG.out.on B1.out).cell 0
  simp at cg0
  go_wp2_with fail
  refine (iod_is k2 (HF.out _ B1.out) CF.out).mono ?_
  rintro e w2 ⟨rfl, hb⟩
  have B2 := Lib.hid (Below.on B1.out hb)
  clear hb
  clear cg0
  go_wp2_with fail
  refine (iask_is k3).mono ?_
  rintro e wx ⟨rfl, rfl⟩
  go_wp2_with fail
  refine (iclone_any fv further _ (HF.out _ B2.out) HF3.out).mono ?_
  rintro e w3 ⟨cv, rfl, oc, hb⟩
  have B3 := Lib.hid (Below.on B2.out hb)
  have Z2 : Hid (W.heap.size ≤ w2.heap.size ∧ W.heap.size ≤ w3.heap.size) := Lib.hid ⟨B2.out.size, B3.out.size⟩
  have ou := oc
  rw [HTO.out] at ou
  obtain ⟨uv, huv⟩ : ∃ uv, cv = uv := ⟨_, rfl⟩
  rw [huv] at ou ⊢
  have ZU : Hid (W.heap.size ≤ w2.heap.size) := Lib.hid B2.out.size
  clear oc hb huv
  obtain ⟨ta, tcc, htv⟩ := Own.form ou
  obtain ⟨u, hu⟩ : ∃ u, (toldT known further ask).length = u := ⟨_, rfl⟩
  rw [hu] at htv
  subst htv
  have OU := Lib.hid ou
  clear ou hu
  have cg0 := (BG.out.on B3.out).cell 0
  have cg1 := (BG.out.on B3.out).cell 1
  simp at cg0 cg1
  go_wp2_with fail
  refine (igm_any p gv fv g further _ (HG.out _ B3.out) (HF.out _ B3.out) CF.out HSG.out).mono ?_
  rintro e w6 ⟨mv, rfl, om, hb⟩
  rw [HGM.out.2] at om
  rw [HGM.out.1]
  obtain ⟨va, vc, hv⟩ := om.form
  obtain ⟨n, hnn⟩ : ∃ n, (mov further g).length = n := ⟨_, rfl⟩
  rw [hnn] at hv
  subst hv
  have B6 := Lib.hid (Below.on B3.out hb)
  have OM6 := Lib.hid om
  have O3 := Lib.hid (own_below OU.out hb)
  have AP : Hid (∀ k, (Value.slice va n vc).ownBlock = some k → (Value.slice ta u tcc).ownBlock = some k → False) := Lib.hid fun k h1 h2 => by
    have := (om.lt k h1).1; have := (OU.out.lt k h2).2; omega
  have NN : Hid (w.heap.size + 1 + 1 < w3.heap.size ∧ w.heap.size + 1 + 1 < w2.heap.size ∧ w.heap.size ≤ w3.heap.size ∧ w.heap.size ≤ w2.heap.size) := Lib.hid (by have := HWS.out; have := Z2.out; have := ZU.out; have := B3.out.size; omega)
  clear hb om hnn cg0 cg1 OU
  have co0 := (BO.out.on B6.out).cell 0
  have co1 := (BO.out.on B6.out).cell 1
  have co2 := (BO.out.on B6.out).cell 2
  have co3 := (BO.out.on B6.out).cell 3
  simp at co0 co1 co2 co3
  have f0 := (BO.out.on B6.out).frozen 0
  have f1 := (BO.out.on B6.out).frozen 1
  have f2 := (BO.out.on B6.out).frozen 2
  have f3 := (BO.out.on B6.out).frozen 3
  have FF := Lib.hid (FIN.out _ B6.out)
  go_wp2
  refine bodyPost_ret (v := .tuple #[.agg #[.int .i64 p, .slice va n vc, .int .i64 ask, .slice ta u tcc], .bool true]) ?_ rfl ?_
  · simp [results, Try.results49, go_sem, co0, co1, co2, co3]
  · unfold OfPost
    rw [HX.out]
    exact ⟨_, _, rfl, own_set4 OM6.out NN.out.1 NN.out.2.2.1, own_set4 O3.out NN.out.2.1 NN.out.2.2.2, AP.out, below_set4 FF.out (by omega)⟩

set_option maxRecDepth 20000 in
set_option maxHeartbeats 1600000 in
theorem itof_1 (p ask : Int) (gv hv kv fv : Value) (g h known further : List Int) (w : World) (hg : Ints w gv g) (hh : Ints w hv h) (hkn : Ints w kv known) (hf : Ints w fv further) (ck : capB kv) (cf : capB fv) (hs : ∀ j, j < g.length → intIn (nth g j)) (hs' : ∀ j, j < h.length → intIn (nth h j)) (hb : ofT p g p h known further ask = true) (hask : (ask == 1) = true) :
    Calls Try.prog 49 #[.agg #[.int .i64 p, gv], .agg #[.int .i64 p, hv], kv, fv, .int .i64 ask] w (OfPost p g p h known further ask w) := by
  have hm := ofT_true.1 hb
  have HX := Lib.hid hb
  rw [ofT_parts] at hb
  obtain ⟨k1, k2, k3⟩ : ldB p g p h known = true ∧ odB further p = true ∧ (decide (0 ≤ ask) && decide (ask ≤ 1)) = true := by
    simp only [Bool.and_eq_true] at hb ⊢; exact ⟨hb.1, hb.2.1, hb.2.2⟩
  have HGM := Lib.hid (gm_yes (gmB_true.2 ⟨hm.gg, hm.of⟩))
  have HF3 := Lib.hid (show further.length ≤ 1000 by have := hm.of.len; have := hm.of.m5; omega)
  have HTO : Hid (thL (bkL known) further = toldT known further ask) := Lib.hid (by
    have hl := hm.ok.len
    rw [bkL_yes (odB_true.2 (by rw [hl]; exact hm.ok)), thL_yes (thB_true.2 ⟨by rw [bck_len, hl]; exact bck_od hm.ok, by rw [bck_len, hl]; exact hm.of⟩)]
    unfold toldT; simp at hask; rw [if_pos hask])
  have HB3' : Hid ((bkL known).length ≤ maxLen) := Lib.hid (by
    rw [bkL_yes (odB_true.2 (by rw [hm.ok.len]; exact hm.ok)), bck_len]; exact od_small hm.ok)
  clear hm hb
  have HB3 := boxes3w (w := w) [.int .i64 p, gv] [.int .i64 p, hv] [.int .i64 0, .slice none 0 0, .int .i64 0, .slice none 0 0] 30 30 60
  obtain ⟨W, hWe, hWs, hW, b0, b1, b2⟩ := HB3.out
  have B0 : Hid (Below W.heap.size W (((w.alloc (.cells #[.int .i64 p, gv] 30)).alloc (.cells #[.int .i64 p, hv] 30)).alloc (.cells #[.int .i64 0, .slice none 0 0, .int .i64 0, .slice none 0 0] 60))) := Lib.hid (by rw [hWe]; exact Below.refl _ _)
  have HWS := Lib.hid hWs
  have BG := Lib.hid b0
  have BH := Lib.hid b1
  have BO := Lib.hid b2
  have HG := Lib.hid (show ∀ w', Below W.heap.size W w' → Ints w' gv g from fun w' hb => (hg.below hW).below hb)
  have HH := Lib.hid (show ∀ w', Below W.heap.size W w' → Ints w' hv h from fun w' hb => (hh.below hW).below hb)
  have HK := Lib.hid (show ∀ w', Below W.heap.size W w' → Ints w' kv known from fun w' hb => (hkn.below hW).below hb)
  have HF := Lib.hid (show ∀ w', Below W.heap.size W w' → Ints w' fv further from fun w' hb => (hf.below hW).below hb)
  have CK := Lib.hid ck
  have CF := Lib.hid cf
  have HSG := Lib.hid hs
  have HSH := Lib.hid hs'
  have FIN : Hid (∀ w', Below W.heap.size W w' → Below w.heap.size w w') := Lib.hid fun w' hb => hW.trans (hb.mono hW.size)
  clear HB3 hWe hWs hW b0 b1 b2 hg hh hkn hf hs hs' ck cf
  have cg0 := (BG.out.on B0.out).cell 0
  have cg1 := (BG.out.on B0.out).cell 1
  have ch0 := (BH.out.on B0.out).cell 0
  have ch1 := (BH.out.on B0.out).cell 1
  simp at cg0 cg1 ch0 ch1
  go_enter Try.func49, Try.ntmps49
  go_wp2_with fail
  refine (ild_is k1 (HG.out _ B0.out) (HH.out _ B0.out) (HK.out _ B0.out) CK.out HSG.out HSH.out).mono ?_
  rintro e w1 ⟨rfl, hb⟩
  have B1 := Lib.hid (Below.on B0.out hb)
  clear hb
  clear cg0 cg1 ch0 ch1
  have cg0 := (BG.out.on B1.out).cell 0
  simp at cg0
  go_wp2_with fail
  refine (iod_is k2 (HF.out _ B1.out) CF.out).mono ?_
  rintro e w2 ⟨rfl, hb⟩
  have B2 := Lib.hid (Below.on B1.out hb)
  clear hb
  clear cg0
  go_wp2_with fail
  refine (iask_is k3).mono ?_
  rintro e wx ⟨rfl, rfl⟩
  go_wp2_with fail
  refine (iclone_any fv further _ (HF.out _ B2.out) HF3.out).mono ?_
  rintro e w3 ⟨cv, rfl, oc, hb⟩
  have B3 := Lib.hid (Below.on B2.out hb)
  have Z2 : Hid (W.heap.size ≤ w2.heap.size ∧ W.heap.size ≤ w3.heap.size) := Lib.hid ⟨B2.out.size, B3.out.size⟩
  clear oc hb
  go_wp2_with fail
  refine (ibck_any kv known _ (HK.out _ B3.out) CK.out).mono ?_
  rintro e w4 ⟨bv, rfl, ob, hb⟩
  have B4 := Lib.hid (Below.on B3.out hb)
  have OB := Lib.hid ob
  clear ob hb
  go_wp2_with fail
  refine (ithn_any bv fv (bkL known) further _ (Ints.of_own OB.out HB3'.out) (HF.out _ B4.out) OB.out.capped CF.out).mono ?_
  rintro e w5 ⟨uv, rfl, ou, hb⟩
  have B5 := Lib.hid (Below.on B4.out hb)
  rw [HTO.out] at ou
  have ZU : Hid (W.heap.size ≤ w4.heap.size) := Lib.hid B4.out.size
  clear hb
  obtain ⟨ta, tcc, htv⟩ := Own.form ou
  obtain ⟨u, hu⟩ : ∃ u, (toldT known further ask).length = u := ⟨_, rfl⟩
  rw [hu] at htv
  subst htv
  have OU := Lib.hid ou
  clear ou hu
  have cg0 := (BG.out.on B5.out).cell 0
  have cg1 := (BG.out.on B5.out).cell 1
  simp at cg0 cg1
  go_wp2_with fail
  refine (igm_any p gv fv g further _ (HG.out _ B5.out) (HF.out _ B5.out) CF.out HSG.out).mono ?_
  rintro e w6 ⟨mv, rfl, om, hb⟩
  rw [HGM.out.2] at om
  rw [HGM.out.1]
  obtain ⟨va, vc, hv⟩ := om.form
  obtain ⟨n, hnn⟩ : ∃ n, (mov further g).length = n := ⟨_, rfl⟩
  rw [hnn] at hv
  subst hv
  have B6 := Lib.hid (Below.on B5.out hb)
  have OM6 := Lib.hid om
  have O3 := Lib.hid (own_below OU.out hb)
  have AP : Hid (∀ k, (Value.slice va n vc).ownBlock = some k → (Value.slice ta u tcc).ownBlock = some k → False) := Lib.hid fun k h1 h2 => by
    have := (om.lt k h1).1; have := (OU.out.lt k h2).2; omega
  have NN : Hid (w.heap.size + 1 + 1 < w5.heap.size ∧ w.heap.size + 1 + 1 < w4.heap.size ∧ w.heap.size ≤ w5.heap.size ∧ w.heap.size ≤ w4.heap.size) := Lib.hid (by have := HWS.out; have := Z2.out; have := ZU.out; have := B5.out.size; omega)
  clear hb om hnn cg0 cg1 OU
  have co0 := (BO.out.on B6.out).cell 0
  have co1 := (BO.out.on B6.out).cell 1
  have co2 := (BO.out.on B6.out).cell 2
  have co3 := (BO.out.on B6.out).cell 3
  simp at co0 co1 co2 co3
  have f0 := (BO.out.on B6.out).frozen 0
  have f1 := (BO.out.on B6.out).frozen 1
  have f2 := (BO.out.on B6.out).frozen 2
  have f3 := (BO.out.on B6.out).frozen 3
  have FF := Lib.hid (FIN.out _ B6.out)
  go_wp2
  refine bodyPost_ret (v := .tuple #[.agg #[.int .i64 p, .slice va n vc, .int .i64 ask, .slice ta u tcc], .bool true]) ?_ rfl ?_
  · simp [results, Try.results49, go_sem, co0, co1, co2, co3]
  · unfold OfPost
    rw [HX.out]
    exact ⟨_, _, rfl, own_set4 OM6.out NN.out.1 NN.out.2.2.1, own_set4 O3.out NN.out.2.1 NN.out.2.2.2, AP.out, below_set4 FF.out (by omega)⟩

theorem itof_any (p q ask : Int) (gv hv kv fv : Value) (g h known further : List Int) (w : World) (hg : Ints w gv g) (hh : Ints w hv h) (hkn : Ints w kv known) (hf : Ints w fv further) (ck : capB kv) (cf : capB fv) (hs : ∀ j, j < g.length → intIn (nth g j)) (hs' : ∀ j, j < h.length → intIn (nth h j)) :
    Calls Try.prog 49 #[.agg #[.int .i64 p, gv], .agg #[.int .i64 q, hv], kv, fv, .int .i64 ask] w (OfPost p g q h known further ask w) := by
  cases hb : ofT p g q h known further ask
  · exact itof_no p q ask gv hv kv fv g h known further w hg hh hkn hf ck cf hs hs' hb
  · obtain rfl := (ofT_true.1 hb).e
    cases ha : (ask == 1)
    · exact itof_0 p ask gv hv kv fv g h known further w hg hh hkn hf ck cf hs hs' hb ha
    · exact itof_1 p ask gv hv kv fv g h known further w hg hh hkn hf ck cf hs hs' hb ha
end Go.Proofs.Ytlcegpmhlnilfaa
