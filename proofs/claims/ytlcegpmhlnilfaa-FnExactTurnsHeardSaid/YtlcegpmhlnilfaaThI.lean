/- impl.TurnsHeard. -/
import Derived.Test.YtlcegpmhlnilfaaRngU
import Derived.Test.YtlcegpmhlnilfaaBHr
import Derived.Test.YtlcegpmhlnilfaaTrnJ
import Derived.Test.YtlcegpmhlnilfaaBCmU
namespace Go.Proofs.Ytlcegpmhlnilfaa
open Go.RowKit
attribute [local go_sem] Oper.semAt_some

theorem of_ld (p q : Int) (g h known : List Int) : ofT p g q h known known 0 = ldB p g q h known := by
  rw [ldB_is]; unfold ofT
  cases odB known p <;> simp
set_option maxRecDepth 20000 in
set_option maxHeartbeats 1600000 in
theorem ihr_no (p q : Int) (gv hv : Value) (ka la : Option Addr) (kn kc ln lc : Nat) (g h known l : List Int) (w : World) (hg : Ints w gv g) (hh : Ints w hv h) (hk : Ints w (.slice ka kn kc) known) (hl : Ints w (.slice la ln lc) l) (ck : capB (.slice ka kn kc)) (hs : ∀ j, j < g.length → intIn (nth g j)) (hs' : ∀ j, j < h.length → intIn (nth h j)) (hb : hrB p g q h known l = false) :
    Calls Try.prog 18 #[.agg #[.int .i64 p, gv], .agg #[.int .i64 q, hv], (.slice ka kn kc), (.slice la ln lc)] w (UPost (hrV p g q h known l) w) := by
  have HB4 := boxes4 (w := w) [.int .i64 p, gv] [.int .i64 q, hv] [(.slice ka kn kc)] [(.slice la ln lc)] 30 30 22 22
  obtain ⟨W0, hWe, hW, b0, b1, b2, b3⟩ := HB4.out
  have B0 : Hid (Below W0.heap.size W0 ((((w.alloc (.cells #[.int .i64 p, gv] 30)).alloc (.cells #[.int .i64 q, hv] 30)).alloc (.cells #[(.slice ka kn kc)] 22)).alloc (.cells #[(.slice la ln lc)] 22))) := Lib.hid (by rw [hWe]; exact Below.refl _ _)
  have FIN : Hid (∀ w', Below W0.heap.size W0 w' → Below w.heap.size w w') := Lib.hid fun w' hb => hW.trans (hb.mono hW.size)
  have BG := Lib.hid b0
  have BH := Lib.hid b1
  have BK := Lib.hid b2
  have BT := Lib.hid b3
  have HGW := Lib.hid (show ∀ w', Below w.heap.size w w' → Ints w' gv g from fun w' hb => hg.below hb)
  have HHW := Lib.hid (show ∀ w', Below w.heap.size w w' → Ints w' hv h from fun w' hb => hh.below hb)
  have HKW := Lib.hid (show ∀ w', Below w.heap.size w w' → Ints w' (.slice ka kn kc) known from fun w' hb => hk.below hb)
  have HLW := Lib.hid (show ∀ w', Below w.heap.size w w' → Ints w' (.slice la ln lc) l from fun w' hb => hl.below hb)
  have HSG := Lib.hid hs
  have HSH := Lib.hid hs'
  have HCK := Lib.hid ck
  have a0 := (b0.on B0.out).cell 0
  have a1 := (b0.on B0.out).cell 1
  have r0 := (b1.on B0.out).cell 0
  have r1 := (b1.on B0.out).cell 1
  have s0 := (b2.on B0.out).cell 0
  have t0 := (b3.on B0.out).cell 0
  simp at a0 a1 r0 r1 s0 t0
  have HZ0 : Hid (W0.heap.size = w.heap.size + 1 + 1 + 1 + 1) := Lib.hid (by rw [hWe]; simp)
  clear HB4 hWe hW b0 b1 b2 b3 hg hh hk hl ck hs hs'
  have HB := Lib.hid hb
  unfold hrB at hb
  rw [of_ld] at hb
  cases hr : ldB p g q h known
  · clear hb
    go_enter Try.func18, Try.ntmps18
    go_wp2_with fail
    refine (ild_is hr (HGW.out _ (FIN.out _ B0.out)) (HHW.out _ (FIN.out _ B0.out)) (HKW.out _ (FIN.out _ B0.out)) HCK.out HSG.out HSH.out).mono ?_
    rintro e w1 ⟨rfl, hb⟩
    have B1 := Lib.hid (Below.on B0.out hb)
    clear hb a0 a1 r0 r1 s0 t0
    go_wp2
    go_ret
    exact ⟨_, [], rfl, OwnU.nil _ _ _, by unfold hrV; rw [HB.out]; rfl, FIN.out _ B1.out⟩
  · have hf : fouB l = false := by rw [hr] at hb; simpa using hb
    clear hb
    have HF := Lib.hid hf
    clear hf
    go_enter Try.func18, Try.ntmps18
    go_wp2_with fail
    refine (ild_is hr (HGW.out _ (FIN.out _ B0.out)) (HHW.out _ (FIN.out _ B0.out)) (HKW.out _ (FIN.out _ B0.out)) HCK.out HSG.out HSH.out).mono ?_
    rintro e w1 ⟨rfl, hb⟩
    have B1 := Lib.hid (Below.on B0.out hb)
    clear hb a0 a1 r0 r1 s0 t0
    have t0 := (BT.out.on B1.out).cell 0
    simp at t0
    go_wp2_with fail
    refine (igar_any (.slice la ln lc) l _ (HLW.out _ (FIN.out _ B1.out))).mono ?_
    rintro e w2 ⟨rfl, hb⟩
    rw [HF.out]
    have B2 := Lib.hid (Below.on B1.out hb)
    clear hb t0
    go_wp2
    go_ret
    exact ⟨_, [], rfl, OwnU.nil _ _ _, by unfold hrV; rw [HB.out]; rfl, FIN.out _ B2.out⟩

theorem outU_form {w : World} {B : Nat} {v : Value} {d : List Tu} (h : OutU w B v d) : ∃ a c, v = .slice a d.length c := by
  rcases id h.2 with ⟨rfl, h0⟩ | ⟨g, cap, cur, rfl, _⟩
  · exact ⟨none, 0, by rw [h0]⟩
  · exact ⟨_, _, rfl⟩
set_option maxRecDepth 20000 in
set_option maxHeartbeats 3200000 in
theorem ihr_yes (m : Nat) (gv hv : Value) (ka la : Option Addr) (kn kc ln lc : Nat) (g h known l : List Int) (w : World) (hg : Ints w gv g) (hh : Ints w hv h) (hk : Ints w (.slice ka kn kc) known) (hl : Ints w (.slice la ln lc) l) (ck : capB (.slice ka kn kc)) (hs : ∀ j, j < g.length → intIn (nth g j)) (hs' : ∀ j, j < h.length → intIn (nth h j)) (hb : hrB m g m h known l = true) :
    CallsIn Fence.wide 5 Try.prog 18 #[.agg #[.int .i64 m, gv], .agg #[.int .i64 m, hv], (.slice ka kn kc), (.slice la ln lc)] w (UPost (hrV m g m h known l) w) := by
  have HB4 := boxes4 (w := w) [.int .i64 m, gv] [.int .i64 m, hv] [(.slice ka kn kc)] [(.slice la ln lc)] 30 30 22 22
  obtain ⟨W0, hWe, hW, b0, b1, b2, b3⟩ := HB4.out
  have B0 : Hid (Below W0.heap.size W0 ((((w.alloc (.cells #[.int .i64 m, gv] 30)).alloc (.cells #[.int .i64 m, hv] 30)).alloc (.cells #[(.slice ka kn kc)] 22)).alloc (.cells #[(.slice la ln lc)] 22))) := Lib.hid (by rw [hWe]; exact Below.refl _ _)
  have FIN : Hid (∀ w', Below W0.heap.size W0 w' → Below w.heap.size w w') := Lib.hid fun w' hb => hW.trans (hb.mono hW.size)
  have BG := Lib.hid b0
  have BH := Lib.hid b1
  have BK := Lib.hid b2
  have BT := Lib.hid b3
  have HGW := Lib.hid (show ∀ w', Below w.heap.size w w' → Ints w' gv g from fun w' hb => hg.below hb)
  have HHW := Lib.hid (show ∀ w', Below w.heap.size w w' → Ints w' hv h from fun w' hb => hh.below hb)
  have HKW := Lib.hid (show ∀ w', Below w.heap.size w w' → Ints w' (.slice ka kn kc) known from fun w' hb => hk.below hb)
  have HLW := Lib.hid (show ∀ w', Below w.heap.size w w' → Ints w' (.slice la ln lc) l from fun w' hb => hl.below hb)
  have HSG := Lib.hid hs
  have HSH := Lib.hid hs'
  have HCK := Lib.hid ck
  have a0 := (b0.on B0.out).cell 0
  have a1 := (b0.on B0.out).cell 1
  have r0 := (b1.on B0.out).cell 0
  have r1 := (b1.on B0.out).cell 1
  have s0 := (b2.on B0.out).cell 0
  have t0 := (b3.on B0.out).cell 0
  simp at a0 a1 r0 r1 s0 t0
  have HZ0 : Hid (W0.heap.size = w.heap.size + 1 + 1 + 1 + 1) := Lib.hid (by rw [hWe]; simp)
  clear HB4 hWe hW b0 b1 b2 b3 hg hh hk hl ck hs hs'
  have HB := Lib.hid hb
  have hb2 : ofT m g m h known known 0 = true ∧ fouB l = true := by
    unfold hrB at hb
    simpa using hb
  have HF := Lib.hid hb2.2
  have HOT := Lib.hid (ofT_true.1 hb2.1)
  have hr : ldB m g m h known = true := by rw [← of_ld]; exact hb2.1
  have m1 : 1 ≤ m := by have := HOT.out.gg.p1; omega
  have m5 : m ≤ 5 := by have := HOT.out.gg.p5; omega
  have HO120 := Lib.hid (ords_120 m m5)
  have HO0 := Lib.hid (ords_some HOT.out.ok)
  have HOD : Hid (∀ x, x ∈ ords m → Od x m) := Lib.hid fun x hx => (ords_mem m1 m5).1 hx
  have HV : Hid (hrV m g m h known l = (kpL l m g h).map (putU m g h)) := Lib.hid (by unfold hrV; rw [HB.out]; rfl)
  have HE : Hid (hrL l m g known = (ords m).map (hrEl l m g known)) := Lib.hid (by unfold hrL; rw [Int.toNat_natCast])
  have hf1 : Fence.wide.fn 46 := trivial
  have hf2 : Fence.wide.fn 47 := trivial
  have hf3 : Fence.wide.fn 10 := trivial
  clear hb hb2
  refine callsIn_of_wp_marks Try.func18 rfl trivial ?_ rfl
  simp only [Try.ntmps18, List.size_toArray, List.length_cons, List.length_nil, Nat.reduceAdd, Nat.reduceSub, Array.replicate_succ, Array.replicate_zero, List.push_toArray, List.append_toArray, List.nil_append, List.cons_append]
  gi_wp2_with fail
  refine (callsIn_wide.2 (ild_is hr (HGW.out _ (FIN.out _ B0.out)) (HHW.out _ (FIN.out _ B0.out)) (HKW.out _ (FIN.out _ B0.out)) HCK.out HSG.out HSH.out)).mono ?_
  rintro e w1 ⟨rfl, hb⟩
  have B1 := Lib.hid (Below.on B0.out hb)
  clear hb a0 a1 r0 r1 s0 t0 hr
  have t0 := (BT.out.on B1.out).cell 0
  simp at t0
  gi_wp2_with fail
  refine (callsIn_wide.2 (igar_any (.slice la ln lc) l _ (HLW.out _ (FIN.out _ B1.out)))).mono ?_
  rintro e w2 ⟨rfl, hb⟩
  rw [HF.out]
  have B2 := Lib.hid (Below.on B1.out hb)
  clear hb t0
  have bn := below_grow w2 (.cells #[.slice none 0 0] 34)
  have QL := Lib.hid (Box.made w2 [.slice none 0 0] 34)
  have a0 := ((BG.out.on B2.out).on bn).cell 0
  simp at a0
  clear bn
  gi_wp2_with fail
  refine (callsIn_wide.2 (iof_any' m _)).mono ?_
  rintro e w3 ⟨rfl, hw3⟩
  have hs1 : (w2.alloc (.cells #[.slice none 0 0] 34)).heap.size = w2.heap.size + 1 := by simp
  have hz3 : w3.heap.size = w2.heap.size + 2 := by rw [hw3]; simp
  have bl : Below w2.heap.size w2 w3 := by rw [hw3]; exact (below_grow w2 _).alloc (by simp) _
  have bL : Box w3 w2.heap.size [.slice none 0 0] := by rw [hw3]; exact QL.out.alloc _
  have bM : Box w3 (w2.heap.size + 1) [.int .i64 m] := by
    rw [hw3, ← hs1]; exact Box.made _ [.int .i64 m] 3
  have cM := bM.cell 0
  simp at cM
  have B3 := Lib.hid (Below.on B2.out bl)
  have hsz2 := B2.out.size
  have hz0 := HZ0.out
  have HZZ : Hid (Oz w [(w.heap.size, [.int .i64 m, gv]), (w.heap.size + 1, [.int .i64 m, hv]), (w.heap.size + 1 + 1, [(.slice ka kn kc)]), (w.heap.size + 1 + 1 + 1, [(.slice la ln lc)])] w2.heap.size (w2.heap.size + 1)) := Lib.hid ⟨by omega, fun x hx => by
    simp at hx
    rcases hx with rfl | rfl | rfl | rfl <;> simp only <;> omega⟩
  have HS0 : Hid (∀ W n2, Below w3.heap.size w3 W → n2 = W.heap.size → Oh w [(w.heap.size, [.int .i64 m, gv]), (w.heap.size + 1, [.int .i64 m, hv]), (w.heap.size + 1 + 1, [(.slice ka kn kc)]), (w.heap.size + 1 + 1 + 1, [(.slice la ln lc)])] w2.heap.size (w2.heap.size + 1) n2 (.slice none 0 0) [] W) := Lib.hid fun W n2 hb hn => by
    subst hn
    have hb3 := Below.on B3.out hb
    refine ⟨FIN.out _ hb3, fun x hx => ?_, bL.on hb, OwnU.nil _ _ _, fun k hk => ?_, fun k hk => ?_, fun x _ k hk => ?_, Nat.le_refl _⟩
    · simp at hx
      rcases hx with rfl | rfl | rfl | rfl
      · exact BG.out.on hb3
      · exact BH.out.on hb3
      · exact BK.out.on hb3
      · exact BT.out.on hb3
    all_goals
      rcases hk with hk | ⟨z, hz, _⟩
      · simp [Value.ownBlock] at hk
      · cases hz
  have HZ := Lib.hid hz3
  have HSEQ := Lib.hid (orders_stops (w2.heap.size + 1) m w3 (by omega) cM m1 m5)
  rw [hs1]
  clear hw3 bl bL bM cM a0 hs1 hz3 hsz2 hz0 QL
  gi_wp2_with fail
  refine wpIn_rangeFunc_ownP rfl (by omega) (gf := 70) (lb := #[.pointer (some ⟨w2.heap.size + 1, 0, none⟩)]) rfl trivial (enters_of Try.func70 (by kernel_rfl) rfl) HSEQ.out kpO_t (fun _ _ W l o o2 a b c d => kpO_b W l o o2 a b c d) (Below.refl _ _) rfl
    (fun n2 pre W => ∃ v d, Oh w [(w.heap.size, [.int .i64 m, gv]), (w.heap.size + 1, [.int .i64 m, hv]), (w.heap.size + 1 + 1, [(.slice ka kn kc)]), (w.heap.size + 1 + 1 + 1, [(.slice la ln lc)])] w2.heap.size (w2.heap.size + 1) n2 v d W ∧ d.map valU = pre.map (fun f => putU m g h (hrEl l m g known f))) (fun _ _ _ _ => False)
    (fun n2 => fun pre W W' row ⟨v, d, o, e⟩ hg hr => ⟨v, d, oh_own o HZZ.out (by have := B3.out.size; have := FIN.out _ B3.out; have := this.size; omega) hg hr, e⟩) (fun _ _ _ _ _ _ hs _ _ => hs)
    (fun n2 => fun pre W W' row ⟨v, d, o, e⟩ hg hr => ⟨v, d, oh_abides o HZZ.out (by have := HZ.out; omega) hg hr, e⟩) (fun _ _ _ _ _ _ hs _ _ => hs)
    ?start
    (fun x => { tmps := #[.agg #[.int .i64 m, gv], .agg #[.int .i64 m, hv], (.slice ka kn kc), (.slice la ln lc), .pointer (some ⟨w.heap.size, 0, none⟩), .pointer (some ⟨w.heap.size + 1, 0, none⟩), .pointer (some ⟨w.heap.size + 1 + 1, 0, none⟩), .pointer (some ⟨w.heap.size + 1 + 1 + 1, 0, none⟩), .slice none 0 0, .pointer (some ⟨w2.heap.size, 0, none⟩), x, undef, undef, undef, .agg #[.int .i64 m, gv], .agg #[.int .i64 m, hv], (.slice ka kn kc), .bool true, .bool false, .bool false, (.slice la ln lc), .bool true, .bool false, .bool false, .pointer (some ⟨w.heap.size, 0, none⟩), .int .i64 m, .func (.func 70) #[] #[.pointer (some ⟨w2.heap.size + 1, 0, none⟩)], x, undef, undef, undef, undef, undef, undef, undef, undef, undef, undef, undef, undef, undef, undef, undef, undef, undef, undef, undef, undef, undef], defers := [] }) ?assign ?body ?done ?stop
  case start =>
    intro W1 hb hz
    exact ⟨_, [], HS0.out _ _ hb rfl, rfl⟩
  case assign =>
    intro l x W K hK
    gi_wp2
    exact hK
  case body =>
    rintro ll n2 pre v9 xs WW W ⟨v, d, ob, hd⟩ hl1 hl2 hn1 hn2 hgW hoW hlen
    have hzz := HZ.out
    have obW : Oh w [(w.heap.size, [.int .i64 m, gv]), (w.heap.size + 1, [.int .i64 m, hv]), (w.heap.size + 1 + 1, [(.slice ka kn kc)]), (w.heap.size + 1 + 1 + 1, [(.slice la ln lc)])] w2.heap.size (w2.heap.size + 1) n2 v d W := ob.soft HZZ.out (ob.be.grown hgW ob.be.size fun r e => by cases e; have := HZZ.out.l; omega) hgW.size fun k o a _ c => (hgW.block k (Array.getElem?_eq_some_iff.1 a).1 fun e => by have := Option.some.inj e; omega).trans a
    have OW := Lib.hid obW
    have HD := Lib.hid hd
    have HN12 : Hid (w2.heap.size + 1 < w3.heap.size + 2 ∧ w3.heap.size + 2 ≤ n2) := Lib.hid ⟨by omega, hn1⟩
    have hod : Od xs (m : Int) := HOD.out xs (hlen.subset (by simp))
    have hpl : pre.length ≤ 120 := by
      have h1 := hlen.length_le
      have h2 := HO120.out
      simp at h1
      omega
    have HPL := Lib.hid hpl
    obtain ⟨xa, xc, hxv⟩ := Own.form hoW
    subst hxv
    have HXI := Lib.hid (Ints.of_own hoW (by have := hod.len; unfold maxLen; omega))
    have HXC := Lib.hid hoW.capped
    clear hgW hoW obW ob hd hlen hpl
    have hok := hr_ok HOT.out HF.out hod
    obtain ⟨AK, hAK⟩ : ∃ r, askT l m g xs = r := ⟨_, rfl⟩
    obtain ⟨XS, hXS⟩ : ∃ r, mov xs g = r := ⟨_, rfl⟩
    obtain ⟨YS, hYS⟩ : ∃ r, toldT known xs AK = r := ⟨_, rfl⟩
    rw [hAK, hYS, hXS] at hok
    have HPU : Hid (putU m g h (hrEl l m g known xs) = ((m : Int), XS, AK, YS)) := Lib.hid (by
      show (_, sayT g h (hrEl l m g known xs), _, _) = _
      unfold hrEl sayT
      simp only
      rw [hAK, hYS, hok.2])
    have HXM : Hid (XS.length ≤ maxLen) := Lib.hid (by
      rw [← hXS, mov_len hod HOT.out.gg]
      have := HOT.out.gg.few; unfold maxLen; omega)
    have HMV : Hid (∀ w', Below W.heap.size W w' → Calls Try.prog 48 #[.agg #[.int .i64 m, gv], .slice xa xs.length xc] w' fun e w'' => ∃ v, e = .returned (.agg #[.int .i64 m, v]) ∧ Own w'' w'.heap.size v XS ∧ Below w'.heap.size w' w'') := Lib.hid fun w' hb => by
      have h9 := igm_any m gv (.slice xa xs.length xc) g xs w' (HGW.out _ (Below.on OW.out.be hb)) (HXI.out.below hb) HXC.out HSG.out
      have hy : gmB m g xs = true := by unfold gmB; rw [gkB_true.2 HOT.out.gg, odB_true.2 hod]; rfl
      rw [(gm_yes hy).1, (gm_yes hy).2, hXS] at h9
      exact h9
    have HAS : Hid (∀ w' v, Below W.heap.size W w' → Ints w' v XS → Calls Try.prog 15 #[(.slice la ln lc), .agg #[.int .i64 m, v]] w' fun e w'' => e = .returned (.int .i64 AK) ∧ Below w'.heap.size w' w'') := Lib.hid fun w' v hb hi => by
      rw [← hAK]
      unfold askT
      rw [hXS]
      refine igas_any (.slice la ln lc) v l XS m w' (HLW.out _ (Below.on OW.out.be hb)) hi fun j hj => ?_
      rw [← hXS] at hj ⊢
      exact gk_numb (mov_gk hod HOT.out.gg) j hj
    have HTU : Hid (∀ w', Below W.heap.size W w' → CallsIn Fence.wide 2 Try.prog 49 #[.agg #[.int .i64 m, gv], .agg #[.int .i64 m, hv], (.slice ka kn kc), .slice xa xs.length xc, .int .i64 AK] w' (TrnPost w' m XS AK YS true)) := Lib.hid fun w' hb => by
      refine callsIn_wide.2 ((itof_any m m AK gv hv (.slice ka kn kc) _ g h known xs w' (HGW.out _ (Below.on OW.out.be hb)) (HHW.out _ (Below.on OW.out.be hb)) (HKW.out _ (Below.on OW.out.be hb)) (HXI.out.below hb) HCK.out HXC.out HSG.out HSH.out).mono fun e w'' hx => ?_)
      unfold OfPost at hx
      rw [ofT_true.2 hok.1, hXS, hYS] at hx
      exact hx
    clear hok hAK hXS hYS hod
    gi_wp2_with fail
    apply wpIn_region_H (Z := List Cp × Option (Nat × List Value)) (S := fun k => k == 3 || k == 4) (C := fun z w' => Hid (Zx W z.1 z.2 w')) [0, 1, 2] ([], none)
    · rintro ⟨a, w, h⟩; exact h
    · kernel_rfl
    · kernel_rfl
    · kernel_rfl
    · kernel_rfl
    · exact ⟨rfl, rfl, rfl, trivial⟩
    · rfl
    · decide
    · exact Lib.hid (Zx.start (Below.refl _ _).drew)
    · intro z
      dsimp only [pickL, nthO]
      go_big_quiet_want
      go_big_quiet_op
      refine ⟨(.slice la ln lc), fun w' hw' => ?_, ?_⟩
      · have q0 := ((OW.out.on HZZ.out hw'.out.be).bx (w.heap.size + 1 + 1 + 1, [(.slice la ln lc)]) (by simp)).cell 0
        simp at q0
        simp [go_sem, q0]
      go_big_quiet_on
      go_big_quiet_want
      go_big_quiet_op
      refine ⟨.agg #[.int .i64 m, gv], fun w' hw' => ?_, ?_⟩
      · have q9 := (OW.out.on HZZ.out hw'.out.be).bx (w.heap.size, [.int .i64 m, gv]) (by simp)
        have q0 := q9.cell 0
        have q1 := q9.cell 1
        simp at q0 q1
        simp [go_sem, q0, q1]
      go_big_quiet_on
      go_big_quiet_want; go_big_quiet_op; first | go_big_quiet_on | (refine ⟨_, fun _ _ => rfl, ?_⟩; go_big_quiet_on)
      exact wpQuiet_nil rfl
    · refine wpAnyH_call (i := 3) (d := some 31) 48 #[.agg #[.int .i64 m, gv], .slice xa xs.length xc] rfl (by kernel_rfl) rfl rfl (by kernel_rfl) (fun _ => by kernel_rfl) fun wa hc => ?_
      refine (HMV.out wa hc.out.be).mono ?_
      rintro e wb ⟨mv, rfl, oo, hb⟩
      refine ⟨_, rfl, ([.l wa.heap.size wb.heap.size mv XS], none), Lib.hid (hc.out.add hb (Hl.mk1 oo) (Nat.le_refl _)), ?_⟩
      clear hc oo hb
      refine wpAnyH_call (i := 4) (d := some 32) 15 #[(.slice la ln lc), .agg #[.int .i64 m, mv]] rfl (by kernel_rfl) rfl rfl (by kernel_rfl) (fun _ => by kernel_rfl) fun wc hc => ?_
      refine (HAS.out wc mv hc.out.be (Ints.of_own (hc.out.ls _ (.head _)).1 HXM.out)).mono ?_
      rintro e wd ⟨rfl, hb⟩
      refine ⟨_, rfl, ([], none), Lib.hid ((hc.out.sub (L' := []) (fun c m => by cases m)).on hb), ?_⟩
      clear hc hb
      refine wpAnyH_assign (i := 5) (d := some 11) _ rfl (by kernel_rfl) rfl rfl (by kernel_rfl) rfl ?_
      refine ⟨by kernel_rfl, fun w5 hz => ?_⟩
      simp only [Act.put, List.setIfInBounds_toArray, List.set_cons_succ, List.set_cons_zero]
      have O5 := Lib.hid (OW.out.on HZZ.out hz.out.be)
      have B5 := Lib.hid hz.out.be
      clear hz HMV HAS
      have q0 := (O5.out.bx (w.heap.size, [.int .i64 m, gv]) (by simp)).cell 0
      have q1 := (O5.out.bx (w.heap.size, [.int .i64 m, gv]) (by simp)).cell 1
      have q2 := (O5.out.bx (w.heap.size + 1, [.int .i64 m, hv]) (by simp)).cell 0
      have q3 := (O5.out.bx (w.heap.size + 1, [.int .i64 m, hv]) (by simp)).cell 1
      have q4 := (O5.out.bx (w.heap.size + 1 + 1, [(.slice ka kn kc)]) (by simp)).cell 0
      simp at q0 q1 q2 q3 q4
      have hf5 : Fence.wide.fn 49 := trivial
      gi_wp2_with fail
      refine (CallsIn.inRound ll (HTU.out w5 B5.out)).mono ?_
      rintro e w6 ⟨v8, u8, rfl, oo, o2, oa, hb⟩
      obtain ⟨An, Cn, ef⟩ := Own.form oo
      obtain ⟨Bn, Dn, eg⟩ := Own.form o2
      subst ef eg
      have bn := below_grow w6 (.cells #[.int .i64 m, .slice An XS.length Cn, .int .i64 AK, .slice Bn YS.length Dn] 60)
      have OO := Lib.hid (own_mono (own_below oo bn) B5.out.size)
      have O2 := Lib.hid (own_mono (own_below o2 bn) B5.out.size)
      have OA := Lib.hid oa
      have B6 := Lib.hid (Below.on B5.out (Below.on hb bn))
      have hbx := Box.made w6 [.int .i64 m, .slice An XS.length Cn, .int .i64 AK, .slice Bn YS.length Dn] 60
      have c0 := hbx.cell 0
      have c1 := hbx.cell 1
      have c2 := hbx.cell 2
      have c3 := hbx.cell 3
      simp at c0 c1 c2 c3
      have O6 := Lib.hid (OW.out.on HZZ.out B6.out)
      have k0 := O6.out.bl.cell 0
      simp at k0
      have hou := O6.out.ls.outer
      have hB3 : w.heap.size ≤ (w6.alloc (.cells #[.int .i64 m, .slice An XS.length Cn, .int .i64 AK, .slice Bn YS.length Dn] 60)).heap.size := O6.out.be.size
      have hdl : d.length < 1000000 := by
        have h1 := congrArg List.length HD.out
        have h2 := HPL.out
        simp at h1
        omega
      clear q0 q1 q2 q3 q4 bn oo o2 oa hb hbx HTU O5
      gi_wp2_with (gi_at_builtin; refine wpAppTurnIn (x := ⟨m, .slice An XS.length Cn, AK, .slice Bn YS.length Dn, XS, YS⟩) rfl _ _ rfl rfl hou hdl hB3 rfl rfl (by first | rfl | (simp; rfl)) ?_)
      intro v4 w7 o4 g4 k4
      have N4 := Lib.hid (OW.out.next (x := ⟨m, .slice An XS.length Cn, AK, .slice Bn YS.length Dn, XS, YS⟩) HZZ.out HN12.out.1 HN12.out.2 B6.out OO.out O2.out OA.out o4 g4 (by
        rcases k4 with e | ⟨q, e, hq⟩
        · exact .inl e
        · exact .inr ⟨q, e, by simpa using hq⟩))
      obtain ⟨va, vc, hva⟩ := outU_form o4
      rw [List.length_append, List.length_singleton] at hva
      subst hva
      have z0 := N4.out.2.2.2.cell 0
      have f0 := N4.out.2.2.2.frozen 0
      simp at z0
      have hdd : (d ++ [(⟨m, .slice An XS.length Cn, AK, .slice Bn YS.length Dn, XS, YS⟩ : Tu)]).map valU = (pre ++ [xs]).map (fun f => putU m g h (hrEl l m g known f)) := by
        rw [List.map_append, List.map_append, HD.out]
        exact congrArg (fun z => _ ++ [z]) HPU.out.symm
      have HDD := Lib.hid hdd
      clear o4 g4 k4 hou hdl hB3 c0 c1 c2 c3 k0 hdd O6 O2 OO OA
      gi_wp2
      exact ⟨N4.out.1, N4.out.2.1, _, _, N4.out.2.2.1, HDD.out⟩
  case done =>
    rintro D n2 xs W hD1 hD2 rfl ⟨v, d, ob, hd⟩ hD
    have hde : d.map valU = (hrL l m g known).map (putU m g h) := by rw [hd, HE.out, List.map_map]; rfl
    have hpm := hr_kp HOT.out HF.out
    have hlot := lot_few HOT.out.gg HOT.out.gh hde (fun x hx => hpm.mem_iff.1 hx) (by rw [HE.out, List.length_map]; have := HO120.out; omega)
    have hlen1 : 1 ≤ d.length := by
      have h1 := congrArg List.length hd
      have := HO0.out
      simp at h1
      omega
    have hm : ∀ x, x ∈ d → x.t.length = m := fun x hx => hlot.2 x hx
    have HST := Lib.hid ((callsIn_wide (n := 4)).2 (sortU_any w.heap.size W.heap.size m v d W ob.ls hlot.1 hlen1 hm))
    have OB := Lib.hid ob
    have HDE := Lib.hid hde
    have HPM := Lib.hid hpm
    have HDD := Lib.hid hD
    obtain ⟨va, vc, hva⟩ := outU_form ob.ls.outer
    subst hva
    have c0 := ob.bl.cell 0
    simp at c0
    have hf6 : Fence.wide.fn 50 := trivial
    clear hd hde hpm hlot hlen1 hm ob hD
    gi_wp2_with fail
    refine HST.out.mono ?_
    rintro e w9 ⟨rfl, d9, hsd, ho9, hg9⟩
    have hno : ∀ k, ownedU (.slice va d.length vc) d k → k ≠ D := fun k hk e => by
      subst e
      obtain ⟨⟨o, ho, hc⟩, _⟩ := OB.out.ls.obj hk
      rw [HDD.out] at ho; cases ho; cases hc
    have hlow : ∀ k o, W.heap[k]? = some o → (∀ q, (Value.slice va d.length vc).ownBlock = some q → k ≠ q) → w9.heap[k]? = some o := fun k o a e => (hg9.block k (Array.getElem?_eq_some_iff.1 a).1 fun h => e k h.symm rfl).trans a
    have hD9 : w9.heap[D]? = some (.deferred (some [])) := hlow D _ HDD.out fun q hq e => hno q (.inl hq) e.symm
    have b9 : Box w9 w2.heap.size [.slice va d.length vc] := by
      obtain ⟨T, hT⟩ := OB.out.bl
      exact ⟨T, hlow _ _ hT fun q hq e => OB.out.nl q (.inl hq) e.symm⟩
    have c9 := b9.cell 0
    simp at c9
    have hz9 : W.heap.size ≤ (w9.putObj D (.deferred none)).heap.size := by simpa using hg9.size
    have ho10 : OwnU (w9.putObj D (.deferred none)) w.heap.size (w9.putObj D (.deferred none)).heap.size (.slice va d.length vc) d9 := ho9.same hz9 fun k hk => World.putObj_heap_other fun e => by
      obtain ⟨⟨o, ho, hc⟩, _⟩ := ho9.obj hk
      rw [e, hD9] at ho
      cases ho
      cases hc
    have h1 := OB.out.be.grown hg9 OB.out.be.size fun q hq => (OB.out.ls.obj (.inl hq)).2.1
    have hb10 : Below w.heap.size w (w9.putObj D (.deferred none)) := h1.grown (grownBy_putObj' w9 D _) h1.size fun q e => by
      have h2 := (FIN.out _ B3.out).size
      have h3 := Option.some.inj e
      omega
    have hv10 : d9.map valU = hrV m g m h known l := by
      rw [HV.out]
      exact std_is HOT.out.gg.p1 HOT.out.gg.p5 HDE.out HPM.out hsd.perm hsd.asc
    have HR : Hid (UPost (hrV m g m h known l) w (.returned (.slice va d.length vc)) (w9.putObj D (.deferred none))) := Lib.hid ⟨_, d9, rfl, ho10, hv10, hb10⟩
    clear hz9 ho10 h1 hb10 hv10
    have HD9 := Lib.hid hD9
    clear hsd ho9 hg9 hno hlow hD9 b9 c0 HST OB HDD
    gi_wp2
    refine ⟨by simp, .inl ⟨_, _, rfl, run_takeDeferred HD9.out, ?_⟩⟩
    refine ⟨.slice va d.length vc, ?_, HR.out⟩
    simp [results, Try.results18, go_sem]
  case stop =>
    rintro D n2 c pre W _ _ _ hx _
    exact hx.elim
theorem ihr_any (p q : Int) (gv hv kv lv : Value) (g h known l : List Int) (w : World) (hg : Ints w gv g) (hh : Ints w hv h) (hk : Ints w kv known) (hl : Ints w lv l) (ck : capB kv) (hs : ∀ j, j < g.length → intIn (nth g j)) (hs' : ∀ j, j < h.length → intIn (nth h j)) :
    Calls Try.prog 18 #[.agg #[.int .i64 p, gv], .agg #[.int .i64 q, hv], kv, lv] w (UPost (hrV p g q h known l) w) := by
  obtain ⟨ka, kc, rfl, _⟩ := hk.opened
  obtain ⟨la, lc, rfl, _⟩ := hl.opened
  cases hb : hrB p g q h known l
  · exact ihr_no p q gv hv ka la _ kc _ lc g h known l w hg hh hk hl ck hs hs' hb
  · have k : OfT p g q h known known 0 := by
      unfold hrB at hb
      exact ofT_true.1 (by simpa using (Bool.and_eq_true _ _ ▸ hb : _ ∧ _).1)
    have e := k.e
    have p1 := k.gg.p1
    subst e
    obtain ⟨m, rfl⟩ : ∃ m : Nat, p = m := ⟨p.toNat, by omega⟩
    exact callsIn_wide.1 (ihr_yes m gv hv ka la _ kc _ lc g h known l w hg hh hk hl ck hs hs' hb)
end Go.Proofs.Ytlcegpmhlnilfaa
