/- impl.OrdersBetween, walked. -/
import Derived.Test.YtimkmdedoacpfabDoorRngM
import Derived.Test.YtimkmdedoacpfabDoorBtsS
namespace Go.Proofs.YtimkmdedoacpfabDoor
open Go.RowKit
attribute [local go_sem] Oper.semAt_some

theorem ldB_filter {m : Nat} {g h : List Int} (m1 : 1 ≤ m) (m5 : m ≤ 5) (hb : btB m g m h = true) : (ords m).filter (ldB m g m h) = btw m g m h := by
  rw [btw_yes hb, btwL_filter, Int.toNat_natCast]
  apply List.filter_congr
  intro x hx
  have h1 : odB x m = true := odB_true.2 ((ords_mem m1 m5).1 hx)
  rw [ldB_is, hb, h1, Bool.true_and, Bool.true_and]
theorem keeps_below {W W' : World} (h : Below W.heap.size W W') : KeepsOthers W W' := ⟨h.size, fun k _ a _ => (h.block k (Array.getElem?_eq_some_iff.1 a).1).trans a⟩
theorem ords_few {m : Nat} (h5 : m ≤ 5) : (ords m).length ≤ 1000 := by
  have : m = 0 ∨ m = 1 ∨ m = 2 ∨ m = 3 ∨ m = 4 ∨ m = 5 := by omega
  rcases this with rfl | rfl | rfl | rfl | rfl | rfl <;> decide +kernel
set_option maxRecDepth 20000 in
set_option maxHeartbeats 1200000 in
theorem ibt_yes (m : Nat) (ga ha : Option Addr) (gn gc hn hc : Nat) (g h : List Int) (w : World) (hg : Ints w (.slice ga gn gc) g) (hh : Ints w (.slice ha hn hc) h) (hs : ∀ j, j < g.length → intIn (nth g j)) (hs' : ∀ j, j < h.length → intIn (nth h j)) (hb : btB m g m h = true) :
    CallsIn Fence.wide 5 Tryd.prog 46 #[.agg #[.int .i64 m, .slice ga gn gc], .agg #[.int .i64 m, .slice ha hn hc]] w (BtPost m g m h w) := by
  obtain ⟨k1, k2, _⟩ := btB_true.1 hb
  have m1 : 1 ≤ m := by have := k1.p1; omega
  have m5 : m ≤ 5 := by have := k1.p5; omega
  have HTW := Lib.hid (fun W (hbw : Below w.heap.size w W) => show CallsIn Fence.wide 4 Tryd.prog 81 #[.agg #[.int .i64 m, .slice ga gn gc], .agg #[.int .i64 m, .slice ha hn hc]] W (fun e w' => e = .returned (.bool true) ∧ Below W.heap.size W w') from callsIn_wide.2 (by
    have h9 := itwo_any m m (.slice ga gn gc) (.slice ha hn hc) g h W (hg.below hbw) (hh.below hbw) hs hs'
    rwa [hb] at h9))
  obtain ⟨p0, p1, pl⟩ := boxes2 (w := w) (P := [.int .i64 m, .slice ga gn gc]) (R := [.int .i64 m, .slice ha hn hc]) (T1 := 25) (T2 := 25) (Below.refl _ _)
  have a0 := p0.cell 0
  have a1 := p0.cell 1
  have b0 := p1.cell 0
  have b1 := p1.cell 1
  simp at a0 a1 b0 b1
  have P0 := Lib.hid p0
  have P1 := Lib.hid p1
  have PL := Lib.hid pl
  have hf1 : Fence.wide.fn 81 := trivial
  have hf2 : Fence.wide.fn 75 := trivial
  have HBB := Lib.hid hb
  have HG := Lib.hid hg
  have HH := Lib.hid hh
  clear hg hh hb p0 p1 pl
  refine callsIn_of_wp_marks Tryd.func46 rfl trivial ?_ rfl
  simp only [Tryd.ntmps46, List.size_toArray, List.length_cons, List.length_nil, Nat.reduceAdd, Nat.reduceSub, Array.replicate_succ, Array.replicate_zero, List.push_toArray, List.append_toArray, List.nil_append, List.cons_append]
  gi_wp2_with fail
  refine (HTW.out _ PL.out).mono ?_
  rintro e w1 ⟨rfl, hb⟩
  have Q0 := Lib.hid (P0.out.on hb)
  have Q1 := Lib.hid (P1.out.on hb)
  have B1 := Lib.hid (Below.on PL.out hb)
  clear hb a0 a1 b0 b1 P0 P1 PL
  have QL := Lib.hid (Box.made w1 [.slice none 0 0] 37)
  have a0 := (Q0.out.alloc (.cells #[.slice none 0 0] 37)).cell 0
  simp at a0
  gi_wp2_with fail
  refine (callsIn_wide.2 (iof_any' m _)).mono ?_
  rintro e w2 ⟨rfl, hw2⟩
  have hz2 : w2.heap.size = w1.heap.size + 2 := by rw [hw2]; simp
  have hs1 : (w1.alloc (.cells #[.slice none 0 0] 37)).heap.size = w1.heap.size + 1 := by simp
  have bl : Below w1.heap.size w1 w2 := by rw [hw2]; exact (below_grow w1 _).alloc (by simp) _
  have bL : Box w2 w1.heap.size [.slice none 0 0] := by rw [hw2]; exact QL.out.alloc _
  have bM : Box w2 (w1.heap.size + 1) [.int .i64 m] := by
    rw [hw2, ← hs1]; exact Box.made _ [.int .i64 m] 3
  have cM := bM.cell 0
  simp at cM
  have hw1 := Q1.out.lt
  have HB2 := Lib.hid (Below.on B1.out bl)
  have HBL := Lib.hid bL
  have HBG := Lib.hid (Q0.out.on bl)
  have HBH := Lib.hid (Q1.out.on bl)
  have HZ := Lib.hid hz2
  have HW1 := Lib.hid hw1
  have HSEQ := Lib.hid (orders_stops (w1.heap.size + 1) m w2 (by omega) cM m1 m5)
  rw [hs1]
  clear hw2 bl bL bM cM a0 hs1 hz2 hw1 QL
  gi_wp2_with fail
  refine wpIn_rangeFunc_ownP rfl (by omega) (gf := 91) (lb := #[.pointer (some ⟨w1.heap.size + 1, 0, none⟩)]) rfl trivial (enters_of Tryd.func91 (by kernel_rfl) rfl) HSEQ.out kpO_t (fun _ _ W l o o2 a b c d => kpO_b W l o o2 a b c d) (Below.refl _ _) rfl
    (fun n2 pre W => Ob w [.int .i64 m, .slice ga gn gc] [.int .i64 m, .slice ha hn hc] (ldB m g m h) w1.heap.size n2 pre W) (fun _ _ _ _ => False)
    (fun n2 => ob_own (by have := HB2.out.size; omega)) (fun _ _ _ _ _ _ hs _ _ => hs)
    (fun n2 => ob_abides (by have := HZ.out; have := HW1.out; omega) (by have := HZ.out; omega)) (fun _ _ _ _ _ _ hs _ _ => hs)
    ?start
    (fun x => { tmps := #[.agg #[.int .i64 m, .slice ga gn gc], .agg #[.int .i64 m, .slice ha hn hc], .pointer (some ⟨w.heap.size, 0, none⟩), .pointer (some ⟨w.heap.size + 1, 0, none⟩), .slice none 0 0, .pointer (some ⟨w1.heap.size, 0, none⟩), x, .agg #[.int .i64 m, .slice ga gn gc], .agg #[.int .i64 m, .slice ha hn hc], .bool true, .bool false, .pointer (some ⟨w.heap.size, 0, none⟩), .int .i64 m, .func (.func 91) #[] #[.pointer (some ⟨w1.heap.size + 1, 0, none⟩)], x, undef, undef, undef, undef, undef, undef, undef, undef, undef], defers := [] }) ?assign ?body ?done ?stop
  case start =>
    intro W1 hb hz
    exact ⟨Below.on HB2.out hb, HBG.out.on hb, HBH.out.on hb, ⟨_, [], HBL.out.on hb, OwnSS.nil _ _ _⟩, Nat.le_refl _⟩
  case assign =>
    intro l x W K hK
    gi_wp2
    exact hK
  case body =>
    rintro l n2 pre v xs W0 W ob hl1 hl2 hn1 hn2 hgW hoW hlen
    have hzz := HZ.out
    have hz1 := B1.out.size
    have hw1 := HW1.out
    have obW : Ob w [.int .i64 m, .slice ga gn gc] [.int .i64 m, .slice ha hn hc] (ldB m g m h) w1.heap.size n2 pre W := ob.soft (ob.be.grown hgW ob.be.size fun r e => by cases e; omega) hgW.size fun k o a _ d => (hgW.block k (Array.getElem?_eq_some_iff.1 a).1 fun e => by have := Option.some.inj e; omega).trans a
    obtain ⟨lv, us, lb0, ls0⟩ := ob.ex
    have hkeep : ∀ k o, W0.heap[k]? = some o → k ≠ l → W.heap[k]? = some o := fun k o a d => (hgW.block k (Array.getElem?_eq_some_iff.1 a).1 fun e => d (Option.some.inj e)).trans a
    have lb := lb0.soft (W' := W) fun o a _ => hkeep _ o a (by omega)
    have ls := ls0.soft (W' := W) (Nat.le_refl _) fun k o a _ d _ => hkeep k o a (by omega)
    clear lb0 ls0 hkeep
    have OW := Lib.hid obW
    have OO := Lib.hid hoW
    have LB := Lib.hid lb
    have LS := Lib.hid ls
    have HG0 := Lib.hid hgW
    have HWS := Lib.hid ob.hz
    obtain ⟨xa, xc, hxv⟩ := Own.form hoW
    subst hxv
    have c0 := obW.bg.cell 0
    have c1 := obW.bg.cell 1
    have d0 := obW.bh.cell 0
    have d1 := obW.bh.cell 1
    simp at c0 c1 d0 d1
    clear hgW hoW lb ls obW ob
    have hxl : xs.length ≤ maxLen := by
      rcases OO.out.2 with ⟨_, h0⟩ | ⟨_, cap, _, _, _, _, hnc, hcm, _⟩
      · omega
      · omega
    have hbw : Below w.heap.size w W := OW.out.be
    obtain ⟨r, hr⟩ : ∃ r, ldB m g m h xs = r := ⟨_, rfl⟩
    have HLD := Lib.hid ((callsIn_wide (n := 2)).2 (ild_is hr (HG.out.below hbw) (HH.out.below hbw) (Ints.of_own OO.out hxl) OO.out.capped hs hs'))
    have HR := Lib.hid hr
    clear hr hbw
    gi_wp2_with fail
    refine ⟨trivial, (CallsIn.inRound l HLD.out).mono ?_⟩
    rintro e w3 ⟨rfl, hb⟩
    have HB3 := Lib.hid hb
    clear hb c0 c1 d0 d1
    cases r
    · gi_wp2
      refine ⟨keeps_below HB3.out, ⟨HB3.out.size, fun k o a _ _ => (HB3.out.block k (Array.getElem?_eq_some_iff.1 a).1).trans a⟩, ?_⟩
      have e9 : (pre ++ [xs]).filter (ldB m g m h) = pre.filter (ldB m g m h) := by rw [List.filter_append]; simp [HR.out]
      have o9 := OW.out.soft (Below.on OW.out.be HB3.out) HB3.out.size fun k ob a _ _ => (HB3.out.block k (Array.getElem?_eq_some_iff.1 a).1).trans a
      exact ⟨o9.be, o9.bg, o9.bh, by rw [e9]; exact o9.ex, o9.hz⟩
    · have q0 := (LB.out.on HB3.out).cell 0
      simp at q0
      have LS3 := Lib.hid (LS.out.on HB3.out)
      have ov := LS3.out.outer
      have oz : n2 ≤ w3.heap.size := by have := HWS.out; have := HG0.out.size; have := HB3.out.size; omega
      have hul : us.length < 1000000000 := by
        rw [LS.out.len]
        have h1 := List.length_filter_le (ldB m g m h) pre
        have h2 := ords_few m5
        have h3 := hlen.length_le
        simp at h3
        omega
      gi_wp2_with (gi_at_builtin; refine wpAppRowIn rfl _ _ rfl rfl ov hul oz rfl rfl ?_)
      intro v2 w4 o2 g2 hv2
      obtain ⟨va, vc, e2, _⟩ := outer_cell o2
      subst e2
      have hrow := fun q (hq : lv.ownBlock = some q) => (LS.out.outer.lt q hq).1
      have hob := fun q (hq : lv.ownBlock = some q) => rowObj LS3.out.outer hq
      have bx := (LB.out.on HB3.out).grownP g2 fun q e => by have := hrow q e; omega
      have z0 := bx.cell 0
      have f0 := bx.frozen 0
      simp at z0
      have hsz := g2.size
      have hs3 := HB3.out.size
      have hgs := HG0.out.size
      have hws := HWS.out
      have hlow : ∀ k ob, W.heap[k]? = some ob → (∀ q, lv.ownBlock = some q → k ≠ q) → w4.heap[k]? = some ob := fun k ob a d => (g2.block k (Nat.lt_of_lt_of_le (Array.getElem?_eq_some_iff.1 a).1 hs3) fun e => d k e.symm rfl).trans ((HB3.out.block k (Array.getElem?_eq_some_iff.1 a).1).trans a)
      have hst : ∀ k, k ≠ w1.heap.size → (w4.setCell ⟨w1.heap.size, 0, none⟩ (.slice va (us.length + 1) vc)).heap[k]? = w4.heap[k]? := fun k hk => Below.heap_setCell _ _ _ _ hk
      have hz5 : (w4.setCell ⟨w1.heap.size, 0, none⟩ (.slice va (us.length + 1) vc)).heap.size = w4.heap.size := by simp [World.setCell]
      have e9 : (pre ++ [xs]).filter (ldB m g m h) = pre.filter (ldB m g m h) ++ [xs] := by rw [List.filter_append]; simp [HR.out]
      have hnew : OwnSS w4 n2 w4.heap.size (.slice va (us.length + 1) vc) (us ++ [.slice xa xs.length xc]) (pre.filter (ldB m g m h) ++ [xs]) :=
        OwnSS.app LS3.out (by omega) hsz (Nat.le_refl _) (own_mono (own_below OO.out HB3.out) hn2) (fun j hj q a b => by have := LS.out.his j hj q a; have := (OO.out.lt q b).1; omega) (fun q a b => by have := LS.out.hi0 q b; have := (OO.out.lt q a).1; omega) (by simpa using o2) g2 hv2
      have H1 : Hid (KeepsOthers W (w4.setCell ⟨w1.heap.size, 0, none⟩ (.slice va (us.length + 1) vc))) := Lib.hid ⟨by rw [hz5]; omega, fun k ob a cf => by
        have hn : k ≠ w1.heap.size := fun e => by
          subst e
          obtain ⟨T, hT⟩ := LB.out
          rw [a] at hT; cases hT; cases cf
        rw [hst k hn]
        refine hlow k ob a fun q hq e => ?_
        subst e
        obtain ⟨o', ho', hc'⟩ := hob k hq
        rw [HB3.out.block k (Array.getElem?_eq_some_iff.1 a).1, a] at ho'
        cases ho'; rw [cf] at hc'; cases hc'⟩
      have H2 : Hid (KpO (w1.heap.size + 1) (w2.heap.size + 2) n2 W (w4.setCell ⟨w1.heap.size, 0, none⟩ (.slice va (us.length + 1) vc))) := Lib.hid ⟨by rw [hz5]; omega, fun k ob a _ d => by
        rw [hst k (by omega)]
        exact hlow k ob a fun q hq e => by have := hrow q hq; omega⟩
      have H3 : Hid (Ob w [.int .i64 m, .slice ga gn gc] [.int .i64 m, .slice ha hn hc] (ldB m g m h) w1.heap.size n2 (pre ++ [xs]) (w4.setCell ⟨w1.heap.size, 0, none⟩ (.slice va (us.length + 1) vc))) := Lib.hid
        ⟨((Below.on OW.out.be HB3.out).grown g2 (Below.on OW.out.be HB3.out).size fun q e => by have := hrow q e; omega).setCell (p := ⟨w1.heap.size, 0, none⟩) (by show w.heap.size ≤ w1.heap.size; omega) _,
          ((OW.out.bg.on HB3.out).grownP g2 fun q e => by have := hrow q e; omega).far (by omega) _, ((OW.out.bh.on HB3.out).grownP g2 fun q e => by have := hrow q e; omega).far (by omega) _,
          ⟨_, _, bx.set 0 _, by rw [e9]; exact hnew.soft (by rw [hz5]; exact Nat.le_refl _) fun k ob a _ d _ => by rw [hst k (by omega)]; exact a⟩, by rw [hz5]; omega⟩
      clear hrow hob bx hlow hst e9 hnew o2 g2 hv2 hz5
      gi_wp2
      exact ⟨H1.out, H2.out, H3.out⟩
  case done =>
    rintro D n2 xs W hD1 hD2 rfl ob hD
    obtain ⟨lv, us, lb, ls⟩ := ob.ex
    have c0 := lb.cell 0
    simp at c0
    have LS := Lib.hid ls
    have BE := Lib.hid ob.be
    have HNZ := Lib.hid ob.hz
    clear ls ob
    have hfe := ldB_filter m1 m5 HBB.out
    have hn2 : n2 ≤ W.heap.size := HNZ.out
    have hlo : w.heap.size ≤ n2 := by have := HB2.out.size; omega
    have HR : Hid (BtPost m g m h w (.returned lv) (W.putObj D (.deferred none))) := Lib.hid ⟨lv, us, rfl, by
      rw [← hfe]
      exact (LS.out.soft (by simp) fun k ob a c _ _ => (World.putObj_heap_other (fun e => by subst e; rw [hD] at a; cases a; cases c)).trans a).lower hlo,
      BE.out.grown (grownBy_putObj' W D _) BE.out.size (fun q e => by cases e; have := HB2.out.size; omega)⟩
    clear hfe LS BE
    gi_wp2
    refine ⟨by simp, .inl ⟨_, _, rfl, run_takeDeferred hD, ?_⟩⟩
    refine ⟨lv, ?_, HR.out⟩
    simp [results, Tryd.results46, go_sem]
  case stop =>
    rintro D n2 c pre W _ _ _ hx _
    exact hx.elim
end Go.Proofs.YtimkmdedoacpfabDoor
