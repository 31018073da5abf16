/- impl.ColoursOf. -/
import Derived.Test.YtimkmdedoacpfabDoorColL
import Derived.Test.YtimkmdedoacpfabDoorBLot
namespace Go.Proofs.YtimkmdedoacpfabDoor
open Go.RowKit

/-- Rows are answered, in memory of their own. -/
def SsPost (xss : List (List Int)) (w : World) (e : Ending) (w' : World) : Prop := ∃ v us, e = .returned v ∧ OwnSS w' w.heap.size w'.heap.size v us xss ∧ Below w.heap.size w w'
/-- Between two rounds: what has been taken of the list. -/
structure TkS (w2 : World) (c : List Int → Bool) (L : List (List Int)) (v : Value) (us : List Value) (k : Nat) (wr : World) : Prop where
  own : OwnSS wr w2.heap.size wr.heap.size v us (solTo c L k)
  be : Below w2.heap.size w2 wr
section
variable {w2 : World} {c : List Int → Bool} {L : List (List Int)} {v : Value} {us : List Value} {k : Nat} {wr : World}
theorem TkS.on {w3 : World} (h : TkS w2 c L v us k wr) (hb : Below wr.heap.size wr w3) : TkS w2 c L v us k w3 := ⟨h.own.onAll hb, Below.on h.be hb⟩
theorem TkS.pass (h : TkS w2 c L v us k wr) (hc : c (row L k) = false) : TkS w2 c L v us (k + 1) wr := ⟨by rw [solTo_no hc]; exact h.own, h.be⟩
theorem TkS.take {w3 w4 : World} {v' u : Value} (h : TkS w2 c L v us k wr) (hc : c (row L k) = true) (hb : Below wr.heap.size wr w3) (hu : Own w3 wr.heap.size u (row L k))
    (ho : w4.ownsRow w2.heap.size 23 1 v' (us ++ [u]).length (us ++ [u])) (hg : w3.grownBy w4 v.ownBlock) (hk : v'.ownBlock = v.ownBlock ∨ ∃ k, v'.ownBlock = some k ∧ w3.heap.size ≤ k) : TkS w2 c L v' (us ++ [u]) (k + 1) w4 :=
  ⟨by rw [solTo_yes hc]; exact h.own.next h.be.size hb hu ho hg hk, (Below.on h.be hb).grown hg (Below.on h.be hb).size fun q e => (h.own.outer.lt q e).1⟩
theorem TkS.len (h : TkS w2 c L v us k wr) : us.length ≤ k := by rw [h.own.len]; exact solTo_len _ _ _
end

set_option maxRecDepth 20000 in
set_option maxHeartbeats 6400000 in
theorem ico_any (p : Int) (v : Value) (es : List Int) (w : World) (h : Ints w v es) (hs : ∀ j, j < es.length → intIn (nth es j)) : Calls Tryd.prog 26 #[.agg #[.int .i64 p, v]] w (SsPost (colsB p es) w) := by
  have b0 := Box.made w [.int .i64 p, v] 25
  have bl := below_grow w (.cells #[.int .i64 p, v] 25)
  have HG := Lib.hid (show ∀ w', Below w.heap.size w w' → Ints w' v es from fun w' hb => h.below hb)
  have HS := Lib.hid hs
  have a0 := b0.cell 0
  have a1 := b0.cell 1
  simp at a0 a1
  have B0 := Lib.hid b0
  have BL := Lib.hid bl
  clear h hs b0 bl
  cases hf : gkB p es
  · have HX := Lib.hid (colsB_no hf)
    have HF := Lib.hid hf
    clear hf
    go_enter Tryd.func26, Tryd.ntmps26
    go_wp2_with fail
    refine (igk_is HF.out (HG.out _ BL.out) HS.out).mono ?_
    rintro e w1 ⟨rfl, hb⟩
    have B1 := Lib.hid (Below.on BL.out hb)
    clear hb a0 a1
    go_wp2
    go_ret
    exact ⟨_, [], rfl, by rw [HX.out]; exact OwnSS.nil _ _ _, B1.out⟩
  have HF := Lib.hid hf
  have hgk := gkB_true.1 hf
  have HGK := Lib.hid hgk
  obtain ⟨m, hm⟩ := Int.eq_ofNat_of_zero_le (show 0 ≤ p by have := hgk.p1; omega)
  subst hm
  have HM5 : Hid (m ≤ 5) := Lib.hid (by have := hgk.p5; omega)
  obtain ⟨L, hL⟩ : ∃ L, lots 3 m = L := ⟨_, rfl⟩
  obtain ⟨n, hn⟩ : ∃ n, L.length = n := ⟨_, rfl⟩
  have HX : Hid (colsB m es = solTo (okC es) L n) := Lib.hid (by rw [colsB_yes hf]; unfold cols; rw [Int.toNat_natCast, hL, ← hn, ← hL, lots_len])
  have HCG := Lib.hid (show ∀ w', Calls Tryd.prog 69 #[.int .i64 m] w' (CsPost L w') from fun w' => by rw [← hL]; exact icgs_any m w' HM5.out)
  have HRL := Lib.hid (show ∀ j, j < n → (row L j).length = m from fun j hj => by rw [← hL]; exact (lots_mem.1 (row_mem (by rw [hL, hn]; exact hj))).1)
  have hn243 : n ≤ 243 := by rw [← hn, ← hL]; exact lots3_len HM5.out
  have HN := Lib.hid hn
  clear hf hgk hL hn
  go_enter Tryd.func26, Tryd.ntmps26
  go_wp2_with fail
  refine (igk_is HF.out (HG.out _ BL.out) HS.out).mono ?_
  rintro e w1 ⟨rfl, hb⟩
  have B1 := Lib.hid (Below.on BL.out hb)
  have P1 := Lib.hid (B0.out.on hb)
  have s0 := P1.out.cell 0
  simp at s0
  clear hb a0 a1
  go_wp2_with fail
  refine (HCG.out _).mono ?_
  rintro e w2 ⟨lv, rfl, ol, hb⟩
  have B2 := Lib.hid (Below.on B1.out hb)
  have P2 := Lib.hid (P1.out.on hb)
  obtain ⟨a, c, hv⟩ := ownC_form ol
  rw [HN.out] at hv
  subst hv
  have HC := Lib.hid (show ∀ j, j < n → ∃ G, a = some ⟨G, 0, none⟩ ∧ ∀ w', Below w2.heap.size w2 w' → ∀ i, i < 5 → w'.cell? ⟨G, j * 5 + i, none⟩ = some (.int .i64 (nth (row L j) i)) from fun j hj => by
    obtain ⟨g, cap, e, hg⟩ := ownC_some ol (by rw [HN.out]; omega)
    cases e
    exact ⟨g, rfl, fun w' hb i hi => (hb.cell (p := ⟨g, j * 5 + i, none⟩) hg).trans (ownC_at ol HN.out hj hi)⟩)
  have T0 : Hid (∃ us, TkS w2 (okC es) L (.slice none 0 0) us 0 w2) := Lib.hid ⟨[], OwnSS.nil _ _ _, Below.refl _ _⟩
  clear hb ol s0
  go_wp2
  go_loopw [3, 13] (fun v i wr => ∃ k : Nat, k ≤ n ∧ i = .int .i64 k ∧ Hid (∃ us, TkS w2 (okC es) L v us k wr)) (fun _ i _ => n - (intOf i).toNat)
  case atStart => exact ⟨0, by omega, rfl, T0⟩
  case round =>
    obtain ⟨k, hk, rfl, hT⟩ := hrel
    obtain ⟨wo, rfl⟩ : ∃ wo : World, wo = wr := ⟨_, rfl⟩
    clear T0
    obtain ⟨us, ht⟩ := hT.out
    have HT := Lib.hid ht
    clear hT ht
    by_cases hlt : k < n
    · obtain ⟨G, rfl, hcu⟩ := HC.out k hlt
      have hc := hcu _ HT.out.be
      have c0 := hc 0 (by omega)
      have c1 := hc 1 (by omega)
      have c2 := hc 2 (by omega)
      have c3 := hc 3 (by omega)
      have c4 := hc 4 (by omega)
      obtain ⟨x0, x1, x2, x3, x4, h5'⟩ := five_letters (row L k)
      have e0 := congrArg (fun l => l[0]?) h5'
      have e1 := congrArg (fun l => l[1]?) h5'
      have e2 := congrArg (fun l => l[2]?) h5'
      have e3 := congrArg (fun l => l[3]?) h5'
      have e4 := congrArg (fun l => l[4]?) h5'
      simp [five] at e0 e1 e2 e3 e4
      rw [e0] at c0
      rw [e1] at c1
      rw [e2] at c2
      rw [e3] at c3
      rw [e4] at c4
      simp only [Nat.add_zero] at c0
      have H5 := Lib.hid h5'
      have BC := Lib.hid (Box.made wo [.int .i64 x0, .int .i64 x1, .int .i64 x2, .int .i64 x3, .int .i64 x4] 67)
      have bg := below_grow wo (.cells #[.int .i64 x0, .int .i64 x1, .int .i64 x2, .int .i64 x3, .int .i64 x4] 67)
      have T1 := Lib.hid (HT.out.on bg)
      have P3 := Lib.hid (P2.out.low (Below.on HT.out.be bg) P2.out.lt)
      have B3 := Lib.hid (Below.on (Below.on B2.out HT.out.be) bg)
      have hlt1 : (k : Int) < (n : Int) := by omega
      have BG := Lib.hid bg
      clear hcu hc h5' e0 e1 e2 e3 e4 bg
      go_upto_region 7 with (fail)
      clear c0 c1 c2 c3 c4
      generalize hw3 : wo.alloc (.cells #[.int .i64 x0, .int .i64 x1, .int .i64 x2, .int .i64 x3, .int .i64 x4] 67) = w3 at *
      clear hw3
      have q := BC.out
      have r0 := q.cell 0
      have r1 := q.cell 1
      have r2 := q.cell 2
      have r3 := q.cell 3
      have r4 := q.cell 4
      have p0 := P3.out.cell 0
      have p1 := P3.out.cell 1
      simp at r0 r1 r2 r3 r4 p0 p1
      clear q
      go_wp2_with fail
      refine (ifl_any m v es (row L k) x0 x1 x2 x3 x4 _ (HG.out _ B3.out) HGK.out H5.out).mono ?_
      rintro e w4 ⟨fv, rfl, of, hb⟩
      obtain ⟨fa, fc, hfv⟩ := Own.form of
      subst hfv
      have T4 := Lib.hid (T1.out.on hb)
      have P4 := Lib.hid (P3.out.on hb)
      have C4 := Lib.hid (BC.out.on hb)
      have B4 := Lib.hid (Below.on BG.out hb)
      obtain ⟨z, hz⟩ : ∃ z, (fls (row L k) es).length = z := ⟨_, rfl⟩
      rw [hz]
      clear of hb r0 r1 r2 r3 r4 p0 p1 T1 P3 BC BG
      cases z with
      | zero =>
        have HOK : Hid (okC es (row L k) = true) := Lib.hid (by unfold okC; simpa using hz)
        have q := C4.out
        have r0 := q.cell 0
        have r1 := q.cell 1
        have r2 := q.cell 2
        have r3 := q.cell 3
        have r4 := q.cell 4
        have p0 := P4.out.cell 0
        simp at r0 r1 r2 r3 r4 p0
        clear q hz
        go_wp2_with fail
        refine (icin_any m (row L k) x0 x1 x2 x3 x4 w4 (HRL.out k hlt) HM5.out H5.out).mono ?_
        rintro e w5 ⟨rv, rfl, orr, hb⟩
        obtain ⟨ra, rc, hrv⟩ := Own.form orr
        rw [HRL.out k hlt] at hrv
        subst hrv
        have O5 := Lib.hid (own_mono orr B4.out.size)
        have B5 := Lib.hid (Below.on B4.out hb)
        have ov := (T4.out.on hb).own.outer
        have oz := (T4.out.on hb).be.size
        have hul : us.length < 1000000000 := by have := T4.out.len; omega
        clear orr hb r0 r1 r2 r3 r4 p0
        go_wp2_with (at_builtin; refine wpAppRow rfl _ _ rfl rfl ov hul oz rfl rfl ?_)
        intro v6 w6 o6 g6 k6
        have T6 : Hid (∃ us, TkS w2 (okC es) L v6 us (k + 1) w6) := Lib.hid ⟨_, HT.out.take HOK.out B5.out O5.out (by simpa using o6) g6 k6⟩
        clear o6 g6 k6 ov oz hul
        go_wp2
        go_roundw
        case rel => exact ⟨k + 1, by omega, by go_num, T6⟩
        case measure => simp [intOf]; omega
      | succ z =>
        have T6 : Hid (∃ us, TkS w2 (okC es) L u3 us (k + 1) w4) := Lib.hid ⟨_, T4.out.pass (by unfold okC; simp [hz])⟩
        have hd : ((z : Int) + 1 == 0) = false := by rw [beq_eq_false_iff_ne]; omega
        clear hz
        go_wp2
        go_roundw
        case rel => exact ⟨k + 1, by omega, by go_num, T6⟩
        case measure => simp [intOf]; omega
    · obtain rfl : k = n := by omega
      go_wp2
      go_ret
      exact ⟨_, us, rfl, by rw [HX.out]; exact HT.out.own.lower B2.out.size, Below.on B2.out HT.out.be⟩
end Go.Proofs.YtimkmdedoacpfabDoor
