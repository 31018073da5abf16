/- failing and ColoursOf, asked of a list that lies behind the first place of its block. -/
import Derived.Test.YtimkmdedoacpfabDoorColM
import Derived.Test.YtimkmdedoacpfabDoorGphO
namespace Go.Proofs.YtimkmdedoacpfabDoor
open Go.RowKit

/-- A list that lies from the first place of a block on. -/
def Tl (w : World) (a : Option Addr) (n : Nat) (es : List Int) : Prop := es.length ≤ maxLen ∧ es.length = n ∧ ∀ k, k < es.length → ∃ G, a = some ⟨G, 1, none⟩ ∧ ∀ w', Below w.heap.size w w' → w'.cell? ⟨G, 1 + k, none⟩ = some (.int .i64 (nth es k))
theorem Tl.below {w w' : World} {a : Option Addr} {n : Nat} {es : List Int} (h : Tl w a n es) (hb : Below w.heap.size w w') : Tl w' a n es :=
  ⟨h.1, h.2.1, fun k hk => by obtain ⟨G, e, hc⟩ := h.2.2 k hk; exact ⟨G, e, fun w'' hb' => hc w'' (Below.on hb hb')⟩⟩
theorem igkt_is {p : Int} {a : Option Addr} {n c : Nat} {es : List Int} {w : World} {b : Bool} (e : gkB p es = b) (h : Tl w a n es) (hs : ∀ j, j < es.length → intIn (nth es j)) :
    Calls Tryd.prog 54 #[.agg #[.int .i64 p, .slice a n c]] w fun en w' => en = .returned (.bool b) ∧ Below w.heap.size w w' := by
  rw [← e]; exact igkt_any p a n c es w h.2.1 h.1 h.2.2 hs

set_option maxRecDepth 20000 in
set_option maxHeartbeats 3200000 in
theorem iflt_any (p : Int) (a : Option Addr) (n0 c : Nat) (es cs : List Int) (x0 x1 x2 x3 x4 : Int) (w : World) (h : Tl w a n0 es) (hg : Gk p es) (hF : five cs = [.int .i64 x0, .int .i64 x1, .int .i64 x2, .int .i64 x3, .int .i64 x4]) :
    Calls Tryd.prog 61 #[.agg #[.int .i64 p, .slice a n0 c], .agg #[.int .i64 x0, .int .i64 x1, .int .i64 x2, .int .i64 x3, .int .i64 x4]] w (LsPost (fls cs es) w) := by
  obtain ⟨hm1, rfl, hc0⟩ := h
  have HC := Lib.hid hc0
  clear hc0
  have HE := Lib.hid (show ∀ j, j < es.length → ∃ A B : Nat, (nth es j).tdiv 10 = (A : Int) ∧ (nth es j).tmod 10 = (B : Int) ∧ A < 5 ∧ B < 5 ∧ intIn (nth es j) ∧ clash cs (nth es j) = decide (nth cs A = nth cs B) from fun j hj => by
    have e := hg.ed j hj
    have h5 := hg.p5
    have := e.a0
    have := e.ab
    have := e.bp
    have := e.pos
    have := e.lt h5
    exact ⟨((nth es j).tdiv 10).toNat, ((nth es j).tmod 10).toNat, by omega, by omega, by omega, by omega, ⟨by omega, by omega⟩, rfl⟩)
  obtain ⟨n, hn⟩ : ∃ n, es.length = n := ⟨_, rfl⟩
  have HNL := Lib.hid hn
  have HFW := Lib.hid (hg.few)
  obtain ⟨b0, b1, bl⟩ := boxes2 (w := w) (P := [.int .i64 p, .slice a es.length c]) (R := [.int .i64 x0, .int .i64 x1, .int .i64 x2, .int .i64 x3, .int .i64 x4]) (T1 := 25) (T2 := 67) (Below.refl _ _)
  have S0 := Lib.hid (show FlS w [.int .i64 p, .slice a es.length c] cs es (.slice none 0 0) 0 ((w.alloc (.cells #[.int .i64 p, .slice a es.length c] 25)).alloc (.cells #[.int .i64 x0, .int .i64 x1, .int .i64 x2, .int .i64 x3, .int .i64 x4] 67)) from ⟨bl, b0, by rw [hF]; exact b1, World.ownsRow_nil _ _ _ _⟩)
  rw [hn] at hm1 HC HE HFW S0 ⊢
  rw [hn] at b0
  have s0 := b0.cell 0
  have s1 := b0.cell 1
  simp at s0 s1
  unfold maxLen at hm1
  clear b0 b1 bl hn hF hg
  go_enter Tryd.func61, Tryd.ntmps61
  go_wp2
  clear s0 s1
  go_loopw [5, 13] (fun v i wr => ∃ k : Nat, k ≤ n ∧ i = .int .i64 k ∧ Hid (FlS w [.int .i64 p, .slice a n c] cs es v k wr)) (fun _ i _ => n - (intOf i).toNat)
  case atStart => exact ⟨0, by omega, rfl, S0⟩
  case round =>
    obtain ⟨k, hk, rfl, hS⟩ := hrel
    obtain ⟨wo, rfl⟩ : ∃ wo : World, wo = wr := ⟨_, rfl⟩
    clear S0
    by_cases hlt : k < n
    · obtain ⟨G, rfl, hck⟩ := HC.out k hlt
      obtain ⟨A, B, eA, eB, A5, B5, hin, hcl⟩ := HE.out k hlt
      obtain ⟨x, hx⟩ : ∃ x, nth es k = x := ⟨_, rfl⟩
      have HXK := Lib.hid hx
      rw [hx] at hck eA eB hin hcl
      have c1 := hck _ hS.out.be
      have HQA := Lib.hid (show IntKind.wrap .i64 (x.tdiv 10) = (A : Int) from by rw [eA]; exact IntWalk.i64_in _ (by omega))
      have HQB := Lib.hid eB
      have HCL := Lib.hid hcl
      have hlt1 : (k : Int) < (n : Int) := by omega
      clear hx hck eA eB hin hcl
      go_wp2_with fail
      refine (ends_any x A B _ HQA.out HQB.out).mono ?_
      rintro e w1 ⟨rfl, rfl⟩
      clear c1
      have hA0 : (A : Int) < 5 := by omega
      have hB0 : (B : Int) < 5 := by omega
      have SD : Hid (FlS w [.int .i64 p, .slice (some ⟨G, 1, none⟩) n c] cs es u5 k w1.drew) := Lib.hid (hS.out.on (Below.refl _ _).drew)
      obtain ⟨ya, hya⟩ : ∃ y, nth cs A = y := ⟨_, rfl⟩
      obtain ⟨yb, hyb⟩ : ∃ y, nth cs B = y := ⟨_, rfl⟩
      have HYA := Lib.hid hya
      have HYB := Lib.hid hyb
      have HCD : Hid (clash cs (nth es k) = decide (ya = yb)) := Lib.hid (by rw [HXK.out, HCL.out, HYA.out, HYB.out])
      clear hya hyb hS
      by_cases hd : ya = yb
      · subst hd
        have hdd : (ya == ya) = true := by simp
        go_wp2_with fail
        refine wp_region_cls (C := fun w' => Hid (FlS w [.int .i64 p, .slice (some ⟨G, 1, none⟩) n c] cs es u5 k w')) (by kernel_rfl) (by kernel_rfl) SD ?_
        repeat (first | go_big_quiet_skip | (go_big_quiet_want; go_big_quiet_op; first | go_big_quiet_on | (refine ⟨_, fun _ _ => rfl, ?_⟩; go_big_quiet_on)))
        go_big_quiet_want
        go_big_quiet_op
        refine ⟨.int .i64 ya, fun w' hw' => ?_, ?_⟩
        · have q := hw'.out.b3.col A5
          rw [HYA.out] at q
          simp [go_sem, q]
        go_big_quiet_on
        repeat (first | go_big_quiet_skip | (go_big_quiet_want; go_big_quiet_op; first | go_big_quiet_on | (refine ⟨_, fun _ _ => rfl, ?_⟩; go_big_quiet_on)))
        go_big_quiet_want
        go_big_quiet_op
        refine ⟨.int .i64 ya, fun w' hw' => ?_, ?_⟩
        · have q := hw'.out.b3.col B5
          rw [HYB.out] at q
          simp [go_sem, q]
        go_big_quiet_on
        repeat (first | go_big_quiet_skip | (go_big_quiet_want; go_big_quiet_op; first | go_big_quiet_on | (refine ⟨_, fun _ _ => rfl, ?_⟩; go_big_quiet_on)))
        refine wpQuiet_nil ?_
        intro w3 hw3
        clear SD
        have ov := hw3.out.ow
        have oz : w.heap.size + 2 ≤ w3.heap.size := by have := hw3.out.b3.lt; omega
        have hll : (flsTo cs es k).length < 1000000000 := by have := flsTo_len cs es k; have := HFW.out; omega
        go_wp2_with (at_builtin; refine wpAppInt rfl _ _ rfl rfl ov hll oz rfl ?_)
        intro v2 w4 o2 g2 _
        have S4 : Hid (FlS w [.int .i64 p, .slice (some ⟨G, 1, none⟩) n c] cs es v2 (k + 1) w4) := Lib.hid (hw3.out.app (by rw [HCD.out]; simp) (by rw [HXK.out]; exact o2) g2)
        clear ov oz hll o2 g2 hw3
        go_wp2
        go_roundw
        case rel => exact ⟨k + 1, by omega, by go_num, S4⟩
        case measure => simp [intOf]; omega
      · have hdd : (ya == yb) = false := by simp [hd]
        go_wp2_with fail
        refine wp_region_cls (C := fun w' => Hid (FlS w [.int .i64 p, .slice (some ⟨G, 1, none⟩) n c] cs es u5 k w')) (by kernel_rfl) (by kernel_rfl) SD ?_
        repeat (first | go_big_quiet_skip | (go_big_quiet_want; go_big_quiet_op; first | go_big_quiet_on | (refine ⟨_, fun _ _ => rfl, ?_⟩; go_big_quiet_on)))
        go_big_quiet_want
        go_big_quiet_op
        refine ⟨.int .i64 ya, fun w' hw' => ?_, ?_⟩
        · have q := hw'.out.b3.col A5
          rw [HYA.out] at q
          simp [go_sem, q]
        go_big_quiet_on
        repeat (first | go_big_quiet_skip | (go_big_quiet_want; go_big_quiet_op; first | go_big_quiet_on | (refine ⟨_, fun _ _ => rfl, ?_⟩; go_big_quiet_on)))
        go_big_quiet_want
        go_big_quiet_op
        refine ⟨.int .i64 yb, fun w' hw' => ?_, ?_⟩
        · have q := hw'.out.b3.col B5
          rw [HYB.out] at q
          simp [go_sem, q]
        go_big_quiet_on
        repeat (first | go_big_quiet_skip | (go_big_quiet_want; go_big_quiet_op; first | go_big_quiet_on | (refine ⟨_, fun _ _ => rfl, ?_⟩; go_big_quiet_on)))
        refine wpQuiet_nil ?_
        intro w3 hw3
        clear SD
        have S4 : Hid (FlS w [.int .i64 p, .slice (some ⟨G, 1, none⟩) n c] cs es u5 (k + 1) w3) := Lib.hid (hw3.out.pass (by rw [HCD.out]; simp [hd]))
        clear hw3 hd
        go_wp2
        go_roundw
        case rel => exact ⟨k + 1, by omega, by go_num, S4⟩
        case measure => simp [intOf]; omega
    · obtain rfl : k = n := by omega
      have HX : Hid (flsTo cs es k = fls cs es) := Lib.hid (by unfold fls; rw [HNL.out])
      go_wp2
      go_ret
      exact ⟨_, rfl, by rw [← HX.out]; exact own_mono hS.out.ow (by omega), hS.out.be⟩

/-! ### painted -/
set_option maxRecDepth 20000 in
set_option maxHeartbeats 6400000 in
theorem icot_any (p : Int) (va : Option Addr) (vn vc : Nat) (es : List Int) (w : World) (h : Tl w va vn es) (hs : ∀ j, j < es.length → intIn (nth es j)) : Calls Tryd.prog 26 #[.agg #[.int .i64 p, .slice va vn vc]] w (SsPost (colsB p es) w) := by
  have b0 := Box.made w [.int .i64 p, .slice va vn vc] 25
  have bl := below_grow w (.cells #[.int .i64 p, .slice va vn vc] 25)
  have HG := Lib.hid (show ∀ w', Below w.heap.size w w' → Tl w' va vn es from fun w' hb => h.below hb)
  have HS := Lib.hid hs
  have a0 := b0.cell 0
  have a1 := b0.cell 1
  simp at a0 a1
  have B0 := Lib.hid b0
  have BL := Lib.hid bl
  clear h hs b0 bl
  cases hf : gkB p es
  · have HX := Lib.hid (colsB_no hf)
    have HF := Lib.hid hf
    clear hf
    go_enter Tryd.func26, Tryd.ntmps26
    go_wp2_with fail
    refine (igkt_is HF.out (HG.out _ BL.out) HS.out).mono ?_
    rintro e w1 ⟨rfl, hb⟩
    have B1 := Lib.hid (Below.on BL.out hb)
    clear hb a0 a1
    go_wp2
    go_ret
    exact ⟨_, [], rfl, by rw [HX.out]; exact OwnSS.nil _ _ _, B1.out⟩
  have HF := Lib.hid hf
  have hgk := gkB_true.1 hf
  have HGK := Lib.hid hgk
  obtain ⟨m, hm⟩ := Int.eq_ofNat_of_zero_le (show 0 ≤ p by have := hgk.p1; omega)
  subst hm
  have HM5 : Hid (m ≤ 5) := Lib.hid (by have := hgk.p5; omega)
  obtain ⟨L, hL⟩ : ∃ L, lots 3 m = L := ⟨_, rfl⟩
  obtain ⟨n, hn⟩ : ∃ n, L.length = n := ⟨_, rfl⟩
  have HX : Hid (colsB m es = solTo (okC es) L n) := Lib.hid (by rw [colsB_yes hf]; unfold cols; rw [Int.toNat_natCast, hL, ← hn, ← hL, lots_len])
  have HCG := Lib.hid (show ∀ w', Calls Tryd.prog 69 #[.int .i64 m] w' (CsPost L w') from fun w' => by rw [← hL]; exact icgs_any m w' HM5.out)
  have HRL := Lib.hid (show ∀ j, j < n → (row L j).length = m from fun j hj => by rw [← hL]; exact (lots_mem.1 (row_mem (by rw [hL, hn]; exact hj))).1)
  have hn243 : n ≤ 243 := by rw [← hn, ← hL]; exact lots3_len HM5.out
  have HN := Lib.hid hn
  clear hf hgk hL hn
  go_enter Tryd.func26, Tryd.ntmps26
  go_wp2_with fail
  refine (igkt_is HF.out (HG.out _ BL.out) HS.out).mono ?_
  rintro e w1 ⟨rfl, hb⟩
  have B1 := Lib.hid (Below.on BL.out hb)
  have P1 := Lib.hid (B0.out.on hb)
  have s0 := P1.out.cell 0
  simp at s0
  clear hb a0 a1
  go_wp2_with fail
  refine (HCG.out _).mono ?_
  rintro e w2 ⟨lv, rfl, ol, hb⟩
  have B2 := Lib.hid (Below.on B1.out hb)
  have P2 := Lib.hid (P1.out.on hb)
  obtain ⟨a, c, hv⟩ := ownC_form ol
  rw [HN.out] at hv
  subst hv
  have HC := Lib.hid (show ∀ j, j < n → ∃ G, a = some ⟨G, 0, none⟩ ∧ ∀ w', Below w2.heap.size w2 w' → ∀ i, i < 5 → w'.cell? ⟨G, j * 5 + i, none⟩ = some (.int .i64 (nth (row L j) i)) from fun j hj => by
    obtain ⟨g, cap, e, hg⟩ := ownC_some ol (by rw [HN.out]; omega)
    cases e
    exact ⟨g, rfl, fun w' hb i hi => (hb.cell (p := ⟨g, j * 5 + i, none⟩) hg).trans (ownC_at ol HN.out hj hi)⟩)
  have T0 : Hid (∃ us, TkS w2 (okC es) L (.slice none 0 0) us 0 w2) := Lib.hid ⟨[], OwnSS.nil _ _ _, Below.refl _ _⟩
  clear hb ol s0
  go_wp2
  go_loopw [3, 13] (fun v i wr => ∃ k : Nat, k ≤ n ∧ i = .int .i64 k ∧ Hid (∃ us, TkS w2 (okC es) L v us k wr)) (fun _ i _ => n - (intOf i).toNat)
  case atStart => exact ⟨0, by omega, rfl, T0⟩
  case round =>
    obtain ⟨k, hk, rfl, hT⟩ := hrel
    obtain ⟨wo, rfl⟩ : ∃ wo : World, wo = wr := ⟨_, rfl⟩
    clear T0
    obtain ⟨us, ht⟩ := hT.out
    have HT := Lib.hid ht
    clear hT ht
    by_cases hlt : k < n
    · obtain ⟨G, rfl, hcu⟩ := HC.out k hlt
      have hc := hcu _ HT.out.be
      have c0 := hc 0 (by omega)
      have c1 := hc 1 (by omega)
      have c2 := hc 2 (by omega)
      have c3 := hc 3 (by omega)
      have c4 := hc 4 (by omega)
      obtain ⟨x0, x1, x2, x3, x4, h5'⟩ := five_letters (row L k)
      have e0 := congrArg (fun l => l[0]?) h5'
      have e1 := congrArg (fun l => l[1]?) h5'
      have e2 := congrArg (fun l => l[2]?) h5'
      have e3 := congrArg (fun l => l[3]?) h5'
      have e4 := congrArg (fun l => l[4]?) h5'
      simp [five] at e0 e1 e2 e3 e4
      rw [e0] at c0
      rw [e1] at c1
      rw [e2] at c2
      rw [e3] at c3
      rw [e4] at c4
      simp only [Nat.add_zero] at c0
      have H5 := Lib.hid h5'
      have BC := Lib.hid (Box.made wo [.int .i64 x0, .int .i64 x1, .int .i64 x2, .int .i64 x3, .int .i64 x4] 67)
      have bg := below_grow wo (.cells #[.int .i64 x0, .int .i64 x1, .int .i64 x2, .int .i64 x3, .int .i64 x4] 67)
      have T1 := Lib.hid (HT.out.on bg)
      have P3 := Lib.hid (P2.out.low (Below.on HT.out.be bg) P2.out.lt)
      have B3 := Lib.hid (Below.on (Below.on B2.out HT.out.be) bg)
      have hlt1 : (k : Int) < (n : Int) := by omega
      have BG := Lib.hid bg
      clear hcu hc h5' e0 e1 e2 e3 e4 bg
      go_upto_region 7 with (fail)
      clear c0 c1 c2 c3 c4
      generalize hw3 : wo.alloc (.cells #[.int .i64 x0, .int .i64 x1, .int .i64 x2, .int .i64 x3, .int .i64 x4] 67) = w3 at *
      clear hw3
      have q := BC.out
      have r0 := q.cell 0
      have r1 := q.cell 1
      have r2 := q.cell 2
      have r3 := q.cell 3
      have r4 := q.cell 4
      have p0 := P3.out.cell 0
      have p1 := P3.out.cell 1
      simp at r0 r1 r2 r3 r4 p0 p1
      clear q
      go_wp2_with fail
      refine (iflt_any m va vn vc es (row L k) x0 x1 x2 x3 x4 _ (HG.out _ B3.out) HGK.out H5.out).mono ?_
      rintro e w4 ⟨fv, rfl, of, hb⟩
      obtain ⟨fa, fc, hfv⟩ := Own.form of
      subst hfv
      have T4 := Lib.hid (T1.out.on hb)
      have P4 := Lib.hid (P3.out.on hb)
      have C4 := Lib.hid (BC.out.on hb)
      have B4 := Lib.hid (Below.on BG.out hb)
      obtain ⟨z, hz⟩ : ∃ z, (fls (row L k) es).length = z := ⟨_, rfl⟩
      rw [hz]
      clear of hb r0 r1 r2 r3 r4 p0 p1 T1 P3 BC BG
      cases z with
      | zero =>
        have HOK : Hid (okC es (row L k) = true) := Lib.hid (by unfold okC; simpa using hz)
        have q := C4.out
        have r0 := q.cell 0
        have r1 := q.cell 1
        have r2 := q.cell 2
        have r3 := q.cell 3
        have r4 := q.cell 4
        have p0 := P4.out.cell 0
        simp at r0 r1 r2 r3 r4 p0
        clear q hz
        go_wp2_with fail
        refine (icin_any m (row L k) x0 x1 x2 x3 x4 w4 (HRL.out k hlt) HM5.out H5.out).mono ?_
        rintro e w5 ⟨rv, rfl, orr, hb⟩
        obtain ⟨ra, rc, hrv⟩ := Own.form orr
        rw [HRL.out k hlt] at hrv
        subst hrv
        have O5 := Lib.hid (own_mono orr B4.out.size)
        have B5 := Lib.hid (Below.on B4.out hb)
        have ov := (T4.out.on hb).own.outer
        have oz := (T4.out.on hb).be.size
        have hul : us.length < 1000000000 := by have := T4.out.len; omega
        clear orr hb r0 r1 r2 r3 r4 p0
        go_wp2_with (at_builtin; refine wpAppRow rfl _ _ rfl rfl ov hul oz rfl rfl ?_)
        intro v6 w6 o6 g6 k6
        have T6 : Hid (∃ us, TkS w2 (okC es) L v6 us (k + 1) w6) := Lib.hid ⟨_, HT.out.take HOK.out B5.out O5.out (by simpa using o6) g6 k6⟩
        clear o6 g6 k6 ov oz hul
        go_wp2
        go_roundw
        case rel => exact ⟨k + 1, by omega, by go_num, T6⟩
        case measure => simp [intOf]; omega
      | succ z =>
        have T6 : Hid (∃ us, TkS w2 (okC es) L u3 us (k + 1) w4) := Lib.hid ⟨_, T4.out.pass (by unfold okC; simp [hz])⟩
        have hd : ((z : Int) + 1 == 0) = false := by rw [beq_eq_false_iff_ne]; omega
        clear hz
        go_wp2
        go_roundw
        case rel => exact ⟨k + 1, by omega, by go_num, T6⟩
        case measure => simp [intOf]; omega
    · obtain rfl : k = n := by omega
      go_wp2
      go_ret
      exact ⟨_, us, rfl, by rw [HX.out]; exact HT.out.own.lower B2.out.size, Below.on B2.out HT.out.be⟩
end Go.Proofs.YtimkmdedoacpfabDoor
