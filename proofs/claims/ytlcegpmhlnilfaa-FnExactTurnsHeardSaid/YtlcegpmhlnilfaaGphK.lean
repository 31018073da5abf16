/- impl: GraphMoved. -/
import Derived.Test.YtlcegpmhlnilfaaGphJ
import Derived.Test.YtlcegpmhlnilfaaBSp7
import Derived.Test.YtlcegpmhlnilfaaSrtI
import Derived.Test.YtlcegpmhlnilfaaBReg
namespace Go.Proofs.Ytlcegpmhlnilfaa
open Go.RowKit

/-- The edges of the first k that become others, in their order. -/
def mpTo (o es : List Int) : Nat → List Int
  | 0 => []
  | k + 1 => mpTo o es k ++ [cde o (nth es k)]
theorem mpTo_len (o es : List Int) : ∀ k, (mpTo o es k).length = k
  | 0 => rfl
  | k + 1 => by rw [mpTo, List.length_append, mpTo_len o es k]; rfl
theorem mpTo_mem {o es : List Int} {x : Int} : ∀ {k : Nat}, x ∈ mpTo o es k ↔ ∃ j, j < k ∧ cde o (nth es j) = x
  | 0 => by simp [mpTo]
  | k + 1 => by
    rw [mpTo, List.mem_append, mpTo_mem, List.mem_singleton]
    constructor
    · rintro (⟨j, hj, e⟩ | e)
      · exact ⟨j, by omega, e⟩
      · exact ⟨k, by omega, e.symm⟩
    · rintro ⟨j, hj, e⟩
      by_cases h : j < k
      · exact .inl ⟨j, h, e⟩
      · obtain rfl : j = k := by omega
        exact .inr e.symm
theorem mpTo_nodup {o es : List Int} {p : Int} (ho : Od o p) (hg : Gk p es) : ∀ k, k ≤ es.length → (mpTo o es k).Nodup
  | 0, _ => by simp [mpTo]
  | k + 1, h => by
    rw [mpTo, List.nodup_append]
    refine ⟨mpTo_nodup ho hg k (by omega), by simp, fun x hx y hy => ?_⟩
    rw [List.mem_singleton] at hy
    obtain ⟨j, hj, e⟩ := mpTo_mem.1 hx
    intro hxy
    have := cde_inj ho (hg.ed j (by omega)) (hg.ed k (by omega)) (by rw [e, hxy, hy])
    have := asc_nth.1 hg.asc j k hj (by omega)
    omega
theorem mpTo_sort {o es : List Int} {p : Int} (ho : Od o p) (hg : Gk p es) : sortI (mpTo o es es.length) = mov o es := by
  have ha := mov_asc ho hg
  refine (sortI_only ((List.perm_ext_iff_of_nodup (ha.imp fun h => by omega) (mpTo_nodup ho hg _ (Nat.le_refl _))).2 fun x => ?_) (ha.imp fun h => by omega)).symm
  rw [mov_mem ho hg, mpTo_mem]
  constructor
  · rintro ⟨e, he, hx⟩
    obtain ⟨j, hj, hje⟩ := nth_of he
    exact ⟨j, hj, by rw [hje]; exact hx⟩
  · rintro ⟨j, hj, hx⟩
    exact ⟨_, nth_mem hj, hx⟩

theorem igm_no (p : Int) (ev ov : Value) (es o : List Int) (w : World) (h : Ints w ev es) (h' : Ints w ov o) (hco : capB ov) (hs : ∀ j, j < es.length → intIn (nth es j)) (hb : gmB p es o = false) :
    Calls Try.prog 48 #[.agg #[.int .i64 p, ev], ov] w (GrPost (gmP p es o) (gmE p es o) w) := by
  obtain ⟨p0, p1, pl⟩ := boxes2 (P := [.int .i64 p, ev]) (R := [.int .i64 0, .slice none 0 0]) (Below.refl ((w.alloc (.cells #[.int .i64 p, ev] 30)).alloc (.cells #[.int .i64 0, .slice none 0 0] 30)).heap.size _)
  have HE := Lib.hid (show ∀ w', Below w.heap.size w w' → Ints w' ev es from fun w' hb => h.below hb)
  have HO := Lib.hid (show ∀ w', Below w.heap.size w w' → Ints w' ov o from fun w' hb => h'.below hb)
  have HX := Lib.hid (gm_no hb)
  have CO := Lib.hid hco
  have P0 := Lib.hid p0
  have P1 := Lib.hid p1
  have PL := Lib.hid pl
  have HS := Lib.hid hs
  have a0 := p0.cell 0
  have a1 := p0.cell 1
  simp at a0 a1
  clear h h' hs p0 p1 pl hco
  cases hk : gkB p es
  · clear hb
    go_enter Try.func48, Try.ntmps48
    go_wp2_with fail
    refine (igk_is hk (HE.out _ PL.out) HS.out).mono ?_
    rintro e w1 ⟨rfl, hb⟩
    have B1 := Lib.hid (Below.on PL.out hb)
    have r := P1.out.on hb
    have r0 := r.cell 0
    have r1 := r.cell 1
    have f0 := r.frozen 0
    have f1 := r.frozen 1
    simp at r0 r1
    clear hb a0 a1 r hk
    go_wp2
    refine bodyPost_ret (v := .agg #[.int .i64 0, .slice none 0 0]) ?_ rfl ⟨_, by rw [HX.out.1], ?_, below_set2 B1.out (by omega)⟩
    · simp [results, Try.results48, go_sem, r0, r1]
    · rw [HX.out.2]; exact World.ownsRow_nil _ _ _ _
  · have ho : odB o p = false := by unfold gmB at hb; rw [hk] at hb; simpa using hb
    clear hb
    go_enter Try.func48, Try.ntmps48
    go_wp2_with fail
    refine (igk_is hk (HE.out _ PL.out) HS.out).mono ?_
    rintro e w1 ⟨rfl, hb⟩
    have B1 := Lib.hid (Below.on PL.out hb)
    have P2 := Lib.hid (P0.out.on hb)
    have P3 := Lib.hid (P1.out.on hb)
    clear hb a0 a1 hk
    have a0 := P2.out.cell 0
    simp at a0
    go_wp2_with fail
    refine (iod_is ho (HO.out _ B1.out) CO.out).mono ?_
    rintro e w2 ⟨rfl, hb⟩
    have B2 := Lib.hid (Below.on B1.out hb)
    have r := P3.out.on hb
    have r0 := r.cell 0
    have r1 := r.cell 1
    have f0 := r.frozen 0
    have f1 := r.frozen 1
    simp at r0 r1
    clear hb a0 r ho
    go_wp2
    refine bodyPost_ret (v := .agg #[.int .i64 0, .slice none 0 0]) ?_ rfl ⟨_, by rw [HX.out.1], ?_, below_set2 B2.out (by omega)⟩
    · simp [results, Try.results48, go_sem, r0, r1]
    · rw [HX.out.2]; exact World.ownsRow_nil _ _ _ _

set_option maxRecDepth 20000 in
set_option maxHeartbeats 6400000 in
theorem igm_yes (p : Int) (ev ov : Value) (es o : List Int) (w : World) (h : Ints w ev es) (h' : Ints w ov o) (hco : capB ov) (hs : ∀ j, j < es.length → intIn (nth es j)) (hb : gmB p es o = true) :
    Calls Try.prog 48 #[.agg #[.int .i64 p, ev], ov] w (GrPost (gmP p es o) (gmE p es o) w) := by
  obtain ⟨hg, ho⟩ := gmB_true.1 hb
  have HK1 := Lib.hid (gkB_true.2 hg)
  have HK2 := Lib.hid (odB_true.2 ho)
  have HE := Lib.hid (show ∀ w', Below w.heap.size w w' → Ints w' ev es from fun w' hb => h.below hb)
  have HO := Lib.hid (show ∀ w', Below w.heap.size w w' → Ints w' ov o from fun w' hb => h'.below hb)
  have CO := Lib.hid hco
  have HS := Lib.hid hs
  obtain ⟨ea, ec, rfl, k1⟩ := h.opened
  obtain ⟨oa, oc, rfl, k2⟩ := h'.opened
  have hm1 := hg.few
  have hm2 := ho.len
  have hm5 := ho.m5
  have HC := Lib.hid (show ∀ j, j < es.length → ∃ G H qa qb x y, ea = some ⟨G, 0, none⟩ ∧ (∀ w', Below w.heap.size w w' → w'.cell? ⟨G, j, none⟩ = some (.int .i64 (nth es j))) ∧ (nth es j).tdiv 10 = ((qa : Nat) : Int) ∧ (nth es j).tmod 10 = ((qb : Nat) : Int) ∧ qa < o.length ∧ qb < o.length ∧ oa = some ⟨H, 0, none⟩ ∧
      (∀ w', Below w.heap.size w w' → w'.cell? ⟨H, qa, none⟩ = some (.int .i64 x)) ∧ (∀ w', Below w.heap.size w w' → w'.cell? ⟨H, qb, none⟩ = some (.int .i64 y)) ∧ 0 ≤ x ∧ x ≤ 4 ∧ 0 ≤ y ∧ y ≤ 4 ∧ cde o (nth es j) = 10 * min x y + max x y ∧ 0 ≤ nth es j ∧ nth es j ≤ 50 from fun j hj => by
    obtain ⟨G, e1, hl, e2⟩ := k1.get j hj
    have hed := hg.ed j hj
    obtain ⟨qa, qb, x, y, f1, f2, f3, f4, f5, f6, f7, f8, f9, f10, f11, f12⟩ := cde_parts ho hed
    obtain ⟨H, e3, hl3, e4⟩ := k2.get qa f3
    obtain ⟨H', e5, hl5, e6⟩ := k2.get qb f4
    obtain rfl : H = H' := by rw [e3] at e5; cases e5; rfl
    refine ⟨G, H, qa, qb, x, y, e1, fun w' hb => (hb.cell (p := ⟨G, j, none⟩) hl).trans e2, f1, f2, f3, f4, e3, fun w' hb => ?_, fun w' hb => ?_, f7, f8, f9, f10, f12, ?_, ?_⟩
    · rw [← f5]; exact (hb.cell (p := ⟨H, qa, none⟩) hl3).trans e4
    · rw [← f6]; exact (hb.cell (p := ⟨H, qb, none⟩) hl5).trans e6
    · have := hed.pos; omega
    · have := hed.lt hg.p5; omega)
  obtain ⟨MP, hMP⟩ : ∃ MP : Nat → List Int, MP = mpTo o es := ⟨_, rfl⟩
  obtain ⟨n, hn⟩ : ∃ n, es.length = n := ⟨_, rfl⟩
  obtain ⟨m, hm⟩ : ∃ m, o.length = m := ⟨_, rfl⟩
  have HX := Lib.hid (show gmP p es o = p ∧ gmE p es o = sortI (MP n) from by
    have := gm_yes hb
    exact ⟨this.1, by rw [this.2, hMP, ← hn]; exact (mpTo_sort ho hg).symm⟩)
  have HT0 := Lib.hid (show MP 0 = [] from by rw [hMP]; rfl)
  have HTS := Lib.hid (show ∀ k, MP (k + 1) = MP k ++ [cde o (nth es k)] from fun k => by rw [hMP]; rfl)
  have HTL := Lib.hid (show ∀ k, (MP k).length = k from fun k => by rw [hMP]; exact mpTo_len _ _ _)
  rw [hn] at HC hm1 HE ⊢
  rw [hm] at HC hm2 HO CO ⊢
  have hm6 : m ≤ 5 := by omega
  obtain ⟨p0, p1, pl⟩ := boxes2 (P := [.int .i64 p, .slice ea n ec]) (R := [.int .i64 0, .slice none 0 0]) (Below.refl ((w.alloc (.cells #[.int .i64 p, .slice ea n ec] 30)).alloc (.cells #[.int .i64 0, .slice none 0 0] 30)).heap.size _)
  have P0 := Lib.hid p0
  have P1 := Lib.hid p1
  have PL := Lib.hid pl
  have a0 := p0.cell 0
  have a1 := p0.cell 1
  simp at a0 a1
  clear h h' k1 k2 hg ho hn hm hMP p0 p1 pl hm2 hm5 hb hs hco
  go_enter Try.func48, Try.ntmps48
  go_wp2_with fail
  refine (igk_is HK1.out (HE.out _ PL.out) HS.out).mono ?_
  rintro e w1 ⟨rfl, hb⟩
  have B1 := Lib.hid (Below.on PL.out hb)
  have P2 := Lib.hid (P0.out.on hb)
  have P3 := Lib.hid (P1.out.on hb)
  clear hb a0 a1 P0 P1
  have a0 := P2.out.cell 0
  simp at a0
  go_wp2_with fail
  refine (iod_is HK2.out (HO.out _ B1.out) CO.out).mono ?_
  rintro e w2 ⟨rfl, hb⟩
  have B2 := Lib.hid (Below.on B1.out hb)
  have P4 := Lib.hid (P2.out.on hb)
  have P5 := Lib.hid (P3.out.on hb)
  clear hb a0 P2 P3 B1 PL
  obtain ⟨w5, hw5⟩ : ∃ w5, w5 = w2.alloc (.cells #[.int .i64 p, .slice none 0 0] 30) := ⟨_, rfl⟩
  have F5 := Lib.hid (show Below w.heap.size w w5 from by rw [hw5]; exact Below.on B2.out (below_grow w2 _))
  have P6 := Lib.hid (show Box w5 w.heap.size [.int .i64 p, .slice ea n ec] from by rw [hw5]; exact P4.out.alloc _)
  have P7 := Lib.hid (show Box w5 (w.heap.size + 1) [.int .i64 0, .slice none 0 0] from by rw [hw5]; exact P5.out.alloc _)
  have P8 := Lib.hid (show Box w5 w2.heap.size [.int .i64 p, .slice none 0 0] from by rw [hw5]; exact Box.made w2 [.int .i64 p, .slice none 0 0] _)
  have HNB := Lib.hid P8.out.lt
  have HNS := Lib.hid (show w.heap.size + 1 < w2.heap.size from P5.out.lt)
  have HW := Lib.hid hw5
  have a0 := P4.out.cell 0
  have a1 := P6.out.cell 1
  rw [hw5] at a1
  simp at a0 a1
  clear hw5 B2 P4 P5
  go_wp2
  clear a0 a1
  go_loopw [27] (fun i wr => ∃ (k : Nat) (v : Value), k ≤ n ∧ i = .int .i64 k ∧ Hid (Kx w5 w5.heap.size w2.heap.size (fun x => [.int .i64 p, x]) v (MP k) 0 none wr)) (fun i _ => n - (intOf i).toNat)
  case atStart =>
    refine ⟨0, .slice none 0 0, by omega, rfl, Lib.hid ?_⟩
    rw [HT0.out, ← HW.out]
    exact ⟨InX.start w5 w2.heap.size, P8.out, World.ownsRow_nil _ _ _ _⟩
  case round =>
    obtain ⟨k, v, hk, rfl, hI⟩ := hrel
    obtain ⟨wo, rfl⟩ : ∃ wo : World, wo = wr := ⟨_, rfl⟩
    by_cases hlt : k < n
    · obtain ⟨G, H, qa, qb, x, y, rfl, d1, f1, f2, f3, f4, rfl, d2, d3, x0, x4, y0, y4, hcd, e0, e50⟩ := HC.out k hlt
      obtain ⟨e, he⟩ : ∃ e, nth es k = e := ⟨_, rfl⟩
      have HSK := HTS.out k
      rw [he] at d1 f1 f2 hcd e0 e50 HSK
      obtain ⟨z, hz⟩ : ∃ z, 10 * min x y + max x y = z := ⟨_, rfl⟩
      rw [hcd, hz] at HSK
      have HSS := Lib.hid HSK
      have HEB := Lib.hid (show ∀ w', Calls Try.prog 41 #[.int .i64 x, .int .i64 y] w' fun e w'' => e = .returned (.int .i64 z) ∧ Below w'.heap.size w' w'' from fun w' => by
        rw [← hz]; exact (edge_any x y w' x0 (by omega) y0 (by omega)).mono fun _ _ ⟨a, b⟩ => ⟨a, by rw [b]; exact Below.refl _ _⟩)
      have HCB : Hid (∀ w', InX w5 w5.heap.size w2.heap.size w' → w'.cell? ⟨H, qa, none⟩ = some (.int .i64 x) ∧ w'.cell? ⟨H, qb, none⟩ = some (.int .i64 y)) := Lib.hid fun w' hx => by
        have hf := hx.below F5.out (by have := HNS.out; omega) F5.out.size
        exact ⟨d2 w' hf, d3 w' hf⟩
      have HQA := Lib.hid (show IntKind.wrap .i64 (e.tdiv 10) = (qa : Int) from by rw [f1]; exact IntWalk.i64_in _ (by omega))
      have HQB := Lib.hid f2
      have c1 := d1 wo (hI.out.1.below F5.out (by have := HNS.out; omega) F5.out.size)
      have hlt1 : (k : Int) < (n : Int) := by omega
      have hqa : (qa : Int) < (m : Int) := by omega
      have hqb : (qb : Int) < (m : Int) := by omega
      have hll := HTL.out k
      have HK : Hid (Kx w5 w5.heap.size w2.heap.size (fun x => [.int .i64 p, x]) v (MP k) z none wo.drew) := Lib.hid (Kx.on (w1 := wo) (z := none) (y := z) hI.out (Below.refl _ _).drew)
      clear d1 d2 d3 he hcd f1 f2 hz HSK hI e0 e50 x0 x4 y0 y4
      go_wp2_with fail
      refine (ends_any e qa qb _ HQA.out HQB.out).mono ?_
      rintro e1 wq ⟨rfl, rfl⟩
      clear c1
      go_wp2_with fail
      apply wp_region_H (Z := Option (Nat ⊕ (Value ⊕ Value))) (S := fun k => k == 1 || k == 11 || k == 12 || k == 13 || k == 14) (C := fun z' w' => Hid (Kx w5 w5.heap.size w2.heap.size (fun x => [.int .i64 p, x]) v (MP k) z z' w')) [0, 2, 3, 4, 5, 6, 7, 8, 9, 10] none
      · kernel_rfl
      · kernel_rfl
      · kernel_rfl
      · exact ⟨rfl, rfl, rfl, rfl, rfl, rfl, rfl, rfl, rfl, rfl, trivial⟩
      · rfl
      · decide
      · exact HK
      · intro z'
        dsimp only [pickL, nthO]
        repeat (first | go_big_quiet_skip | (go_big_quiet_want; go_big_quiet_op; first | go_big_quiet_on | (refine ⟨_, fun _ _ => rfl, ?_⟩; go_big_quiet_on)))
        go_big_quiet_want
        go_big_quiet_op
        refine ⟨.int .i64 x, fun w' hw' => ?_, ?_⟩
        · have q := (HCB.out _ hw'.out.inx).1
          try simp at q
          simp [go_sem, q]
        go_big_quiet_on
        repeat (first | go_big_quiet_skip | (go_big_quiet_want; go_big_quiet_op; first | go_big_quiet_on | (refine ⟨_, fun _ _ => rfl, ?_⟩; go_big_quiet_on)))
        go_big_quiet_want
        go_big_quiet_op
        refine ⟨.int .i64 y, fun w' hw' => ?_, ?_⟩
        · have q := (HCB.out _ hw'.out.inx).2
          try simp at q
          simp [go_sem, q]
        go_big_quiet_on
        repeat (first | go_big_quiet_skip | (go_big_quiet_want; go_big_quiet_op; first | go_big_quiet_on | (refine ⟨_, fun _ _ => rfl, ?_⟩; go_big_quiet_on)))
        go_big_quiet_want
        go_big_quiet_op
        go_big_quiet_call ((intro hw; exact (HEB.out _).mono fun _ _ ⟨he, hb⟩ => ⟨he, Lib.hid (hw.out.on hb)⟩))
        exact wpQuiet_nil rfl
      · refine wpAnyH_two 1 11 (by kernel_rfl) ?_ ?_
        · refine hOp_special (d := some 37) rfl rfl rfl (by kernel_rfl) fun wl hl => ⟨v, wl, none, by have q := hl.out.2.1.cell 1; simp at q; simp [go_sem, q], hl, ?_⟩
          clear hl
          refine wpAnyH_special (i := 11) (d := some 47) rfl (by kernel_rfl) rfl rfl (by kernel_rfl) fun wa hc => ⟨.slice (some ⟨wa.heap.size, 0, none⟩) 1 1, wa.alloc (.cells #[.int .i64 z] 3), some (.inl wa.heap.size), .inl (by kernel_rfl), Lib.hid (Kx.build hc.out), ?_⟩
          clear hc
          refine wpAnyH_app (i := 12) (d := some 48) (v := v) (xs := MP k) (y := z) (B := w5.heap.size) (N := wa.heap.size) (.tmp 37) (.tmp 47) rfl (by kernel_rfl) rfl rfl (by kernel_rfl) rfl rfl rfl fun wb hc => ⟨hc.out.2.2.1, by omega, hc.out.1.low, hc.out.2.2.2, fun v' wc o4 g4 => ⟨some (.inr (.inl v')), Lib.hid (hc.out.app HNB.out o4 g4), ?_⟩⟩
          obtain ⟨va, vc, hv'⟩ := Own.form o4
          subst hv'
          clear hc o4 g4
          refine wpAnyH_special (i := 13) (d := some 49) rfl (by kernel_rfl) rfl rfl (by kernel_rfl) fun wd hd => ⟨.pointer (some ⟨w2.heap.size, 1, none⟩), wd, some (.inr (.inl (.slice va (MP k ++ [z]).length vc))), .inl (by kernel_rfl), hd, ?_⟩
          clear hd
          refine wpAnyH_special (i := 14) (d := none) rfl (by kernel_rfl) rfl rfl (by kernel_rfl) fun we he => ?_
          have k0 := he.out.2.1.cell 1
          have f0 := he.out.2.1.frozen 1
          simp at k0
          refine ⟨undef, we.setCell ⟨w2.heap.size, 1, none⟩ (.slice va (MP k ++ [z]).length vc), some (.inr (.inr (.slice va (MP k ++ [z]).length vc))), .inr ⟨by simp [go_sem, Act.put, k0, f0], rfl⟩, Lib.hid (he.out.put HNB.out rfl), ?_⟩
          clear he k0 f0
          refine ⟨by kernel_rfl, fun w7 hw7 => ?_⟩
          simp only [Act.put]
          have K7 : Hid (Kx w5 w5.heap.size w2.heap.size (fun x => [.int .i64 p, x]) (.slice va (MP k ++ [z]).length vc) (MP (k + 1)) 0 none w7) := Lib.hid (by rw [HSS.out]; exact ⟨hw7.out.1, hw7.out.2.1, hw7.out.2.2⟩)
          clear hw7 HK
          go_wp2
          go_roundw
          case rel => exact ⟨k + 1, _, by omega, by go_num, K7⟩
          case measure => simp [intOf]; omega
        · refine hOp_special (d := some 47) rfl rfl rfl (by kernel_rfl) fun wa hc => ⟨.slice (some ⟨wa.heap.size, 0, none⟩) 1 1, wa.alloc (.cells #[.int .i64 z] 3), some (.inl wa.heap.size), by kernel_rfl, Lib.hid (Kx.build hc.out), ?_⟩
          clear hc
          refine wpAnyH_special (i := 1) (d := some 37) rfl (by kernel_rfl) rfl rfl (by kernel_rfl) fun wl hl => ⟨v, wl, some (.inl wa.heap.size), .inl (by have q := hl.out.2.1.cell 1; simp at q; simp [go_sem, q]), hl, ?_⟩
          clear hl
          refine wpAnyH_app (i := 12) (d := some 48) (v := v) (xs := MP k) (y := z) (B := w5.heap.size) (N := wa.heap.size) (.tmp 37) (.tmp 47) rfl (by kernel_rfl) rfl rfl (by kernel_rfl) rfl rfl rfl fun wb hc => ⟨hc.out.2.2.1, by omega, hc.out.1.low, hc.out.2.2.2, fun v' wc o4 g4 => ⟨some (.inr (.inl v')), Lib.hid (hc.out.app HNB.out o4 g4), ?_⟩⟩
          obtain ⟨va, vc, hv'⟩ := Own.form o4
          subst hv'
          clear hc o4 g4
          refine wpAnyH_special (i := 13) (d := some 49) rfl (by kernel_rfl) rfl rfl (by kernel_rfl) fun wd hd => ⟨.pointer (some ⟨w2.heap.size, 1, none⟩), wd, some (.inr (.inl (.slice va (MP k ++ [z]).length vc))), .inl (by kernel_rfl), hd, ?_⟩
          clear hd
          refine wpAnyH_special (i := 14) (d := none) rfl (by kernel_rfl) rfl rfl (by kernel_rfl) fun we he => ?_
          have k0 := he.out.2.1.cell 1
          have f0 := he.out.2.1.frozen 1
          simp at k0
          refine ⟨undef, we.setCell ⟨w2.heap.size, 1, none⟩ (.slice va (MP k ++ [z]).length vc), some (.inr (.inr (.slice va (MP k ++ [z]).length vc))), .inr ⟨by simp [go_sem, Act.put, k0, f0], rfl⟩, Lib.hid (he.out.put HNB.out rfl), ?_⟩
          clear he k0 f0
          refine ⟨by kernel_rfl, fun w7 hw7 => ?_⟩
          simp only [Act.put]
          have K7 : Hid (Kx w5 w5.heap.size w2.heap.size (fun x => [.int .i64 p, x]) (.slice va (MP k ++ [z]).length vc) (MP (k + 1)) 0 none w7) := Lib.hid (by rw [HSS.out]; exact ⟨hw7.out.1, hw7.out.2.1, hw7.out.2.2⟩)
          clear hw7 HK
          go_wp2
          go_roundw
          case rel => exact ⟨k + 1, _, by omega, by go_num, K7⟩
          case measure => simp [intOf]; omega
    · obtain rfl : k = n := by omega
      obtain ⟨va, vc, hv⟩ := Own.form hI.out.2.2
      rw [HTL.out] at hv
      subst hv
      have c1 := hI.out.2.1.cell 1
      simp at c1
      go_wp2_with fail
      refine (isort_any _ (MP k) w5.heap.size wo hI.out.2.2 (by rw [HTL.out]; omega)).mono ?_
      rintro e w6 ⟨rfl, o6, g6⟩
      have hlo : ∀ b, (Value.slice va k vc).ownBlock = some b → w5.heap.size ≤ b := fun b hb => (hI.out.2.2.lt b hb).1
      have X6 := Lib.hid (hI.out.1.grown g6 hlo)
      have O6 := Lib.hid o6
      have bn := hI.out.2.1.grownK g6 (fun b hb e => by have := hlo b hb; have := HNB.out; omega)
      have br : Box w6 (w.heap.size + 1) [.int .i64 0, .slice none 0 0] := X6.out.box P7.out (by have := HNS.out; have := HNB.out; omega) (by have := HNS.out; omega)
      clear c1
      have c0 := bn.cell 0
      have c1 := bn.cell 1
      have r0 := br.cell 0
      have r1 := br.cell 1
      have f0 := br.frozen 0
      have f1 := br.frozen 1
      simp at c0 c1 r0 r1
      have B6 : Hid (Below w.heap.size w w6) := Lib.hid (X6.out.below F5.out (by have := HNS.out; omega) F5.out.size)
      clear bn br o6 g6 hlo hI
      go_wp2
      refine bodyPost_ret (v := .agg #[.int .i64 p, .slice va k vc]) ?_ rfl ⟨_, by rw [HX.out.1], ?_, below_set2 B6.out (by omega)⟩
      · simp [results, Try.results48, go_sem, r0, r1]
      · rw [HX.out.2]; exact own_set2 O6.out (by have := HNS.out; have := HNB.out; omega) F5.out.size
theorem igm_any (p : Int) (ev ov : Value) (es o : List Int) (w : World) (h : Ints w ev es) (h' : Ints w ov o) (hco : capB ov) (hs : ∀ j, j < es.length → intIn (nth es j)) :
    Calls Try.prog 48 #[.agg #[.int .i64 p, ev], ov] w (GrPost (gmP p es o) (gmE p es o) w) := by
  cases hb : gmB p es o
  · exact igm_no p ev ov es o w h h' hco hs hb
  · exact igm_yes p ev ov es o w h h' hco hs hb
end Go.Proofs.Ytlcegpmhlnilfaa
