/- impl: KeysOn, talksOn, LeakOf. -/
import Derived.Test.YtiinifcepcaonaaDoorBrdJ
import Derived.Test.YtiinifcepcaonaaDoorKtl
namespace Go.Proofs.YtiinifcepcaonaaDoor
open Go.RowKit

theorem ikon_any (g : Int) (v : Value) (ns : List Nt) (w : World) (G : Gr w) (h : Nts w v ns) (hl : ns.length ≤ 2000000) : Calls Tryd.prog 16 #[.agg #[.int .i64 g, v]] w fun e w' => ∃ u, e = .returned u ∧ Own w' w.heap.size u (konL g ns) ∧ Below w.heap.size w w' := by
  obtain ⟨a, c, rfl, _⟩ := h.opened
  obtain ⟨n, hn⟩ : ∃ n, ns.length = n := ⟨_, rfl⟩
  rw [hn] at h ⊢
  have H := Lib.hid h
  have HG := Lib.hid G
  have HL := Lib.hid hl
  have I0 := Lib.hid (InB.start w [.int .i64 g, .slice a n c] 29)
  clear h G hl hn
  cases hb : brdB g ns
  · have HB := Lib.hid hb
    have HX := Lib.hid (konL_no hb)
    clear hb
    go_enter Tryd.func16, Tryd.ntmps16
    go_wp2_with fail
    refine (ibrd_any g _ ns _ (HG.out.on I0.out.fin) (H.out.on I0.out.fin) HL.out).mono ?_
    rintro e w1 ⟨rfl, hb1⟩
    rw [HB.out]
    have I1 := Lib.hid (I0.out.on hb1)
    clear hb1
    go_wp2
    go_ret
    exact ⟨_, rfl, by rw [HX.out]; exact World.ownsRow_nil _ _ _ _, I1.out.fin⟩
  · have HB := Lib.hid hb
    have HX := Lib.hid (konL_yes hb)
    clear hb
    go_enter Tryd.func16, Tryd.ntmps16
    go_wp2_with fail
    refine (ibrd_any g _ ns _ (HG.out.on I0.out.fin) (H.out.on I0.out.fin) HL.out).mono ?_
    rintro e w1 ⟨rfl, hb1⟩
    rw [HB.out]
    have I1 := Lib.hid (I0.out.on hb1)
    have p0 := I1.out.box.cell 0
    have p1 := I1.out.box.cell 1
    simp at p0 p1
    clear hb1
    go_wp2_with fail
    refine (ikeys_any g _ ns _ (H.out.on I1.out.fin) HL.out).mono ?_
    rintro e w2 ⟨u, rfl, ou, hb2⟩
    have OU := Lib.hid (own_mono ou (Nat.le_trans (Nat.le_succ _) I1.out.size))
    have I2 := Lib.hid (I1.out.on hb2)
    obtain ⟨ua, uc, hu⟩ := Own.form ou
    subst hu
    clear hb2 ou p0 p1
    go_wp2
    go_ret
    exact ⟨_, rfl, by rw [HX.out]; exact OU.out, I2.out.fin⟩

set_option maxRecDepth 20000 in
set_option maxHeartbeats 1600000 in
theorem itks_any (g : Int) (v : Value) (ns : List Nt) (on : Int) (w : World) (h : Nts w v ns) (hl : ns.length ≤ 1100000) : Calls Tryd.prog 48 #[.agg #[.int .i64 g, v], .int .i64 on] w fun e w' => ∃ u, e = .returned u ∧ OwnK w' w.heap.size u (onN on ns) ∧ Below w.heap.size w w' := by
  obtain ⟨a, c, rfl, k1⟩ := h.opened
  obtain ⟨n, hn⟩ : ∃ n, ns.length = n := ⟨_, rfl⟩
  have HC := Lib.hid (fun w' (hb : Below w.heap.size w w') k (hk : k < n) => (k1.on hb).get k (by rw [hn]; exact hk))
  have HY := Lib.hid (show ∀ k, k < n → (nthN ns k).on = on → onN on (ns.take (k + 1)) = onN on (ns.take k) ++ [nthN ns k] from fun k hk ho => onN_yes (by rw [hn]; exact hk) ho)
  have HN := Lib.hid (show ∀ k, k < n → (nthN ns k).on ≠ on → onN on (ns.take (k + 1)) = onN on (ns.take k) from fun k hk ho => onN_no (by rw [hn]; exact hk) ho)
  have HZ := Lib.hid (show onN on (ns.take n) = onN on ns from by rw [← hn, List.take_length])
  have HL := Lib.hid (show ∀ k, (onN on (ns.take k)).length < 2000000 from fun k => by have := onN_len on (ns.take k); have := List.length_take_le' k ns; omega)
  have IB0 := Lib.hid (InB.start w [.int .i64 g, .slice a n c] 29)
  obtain ⟨L, hL⟩ : ∃ L : Nat → List Nt, ∀ k, onN on (ns.take k) = L k := ⟨_, fun _ => rfl⟩
  have HL0 := Lib.hid (show L 0 = [] from by rw [← hL]; rfl)
  simp only [hL] at HY HN HZ HL
  rw [hn] at hl ⊢
  clear h k1 hn hL
  go_enter Tryd.func48, Tryd.ntmps48
  go_wp2
  go_loopw [5, 11] (fun u i wr => ∃ k : Nat, k ≤ n ∧ i = .int .i64 k ∧ Hid (OwnK wr (w.heap.size + 1) u (L k)) ∧ Hid (InB w [.int .i64 g, .slice a n c] 29 wr)) (fun _ i _ => n - (intOf i).toNat)
  case atStart => exact ⟨0, by omega, rfl, Lib.hid (by rw [HL0.out]; exact World.ownsRow_nil _ _ _ _), IB0⟩
  case round =>
    obtain ⟨k, hk, rfl, ho, hb⟩ := hrel
    by_cases hlt : k < n
    · obtain ⟨G, rfl, _, hc⟩ := HC.out _ hb.out.fin k hlt
      have hyes := HY.out k hlt
      have hno := HN.out k hlt
      generalize nthN ns k = y at hc hyes hno
      obtain ⟨c0, c1, c2, c3, c4⟩ := hc
      have hlt1 : (k : Int) < (n : Int) := by omega
      have OV := Lib.hid (row5_below ho.out (below_grow wr (.cells #[.int .i64 y.key, .int .i64 y.on, .int .i64 y.say, .int .i64 y.ask, .int .i64 y.tell] 47)))
      have IB := Lib.hid (hb.out.on (below_grow wr (.cells #[.int .i64 y.key, .int .i64 y.on, .int .i64 y.say, .int .i64 y.ask, .int .i64 y.tell] 47)))
      clear ho hb
      by_cases he : y.on = on
      · have HX := Lib.hid (hyes he)
        have hd : (y.on == on) = true := by simp [he]
        have ov := OV.out
        have oz := IB.out.size
        have hll := HL.out k
        have hsz : (wr.alloc (.cells #[.int .i64 y.key, .int .i64 y.on, .int .i64 y.say, .int .i64 y.ask, .int .i64 y.tell] 47)).heap.size = wr.heap.size + 1 := by simp
        clear hyes hno he
        go_wp2_with (at_builtin; refine wpAppTlk (x := y) rfl _ _ rfl rfl ov hll oz (by rw [hsz]; rfl) ?_)
        intro v2 w4 o2 g2 _
        have O4 : Hid (OwnK w4 (w.heap.size + 1) v2 (L (k + 1))) := Lib.hid (by rw [HX.out]; exact o2)
        have I4 := Lib.hid (IB.out.grown g2 fun j hj => (OV.out.lt j hj).1)
        clear o2 g2 ov oz hll OV IB
        go_wp2
        go_roundw
        case rel => exact ⟨k + 1, by omega, by go_num, O4, I4⟩
        case measure => simp [intOf]; omega
      · have HX := Lib.hid (hno he)
        have hd : (y.on == on) = false := by simp [he]
        clear hyes hno he
        go_wp2
        go_roundw
        case rel => exact ⟨k + 1, by omega, by go_num, Lib.hid (by rw [HX.out]; exact OV.out), IB⟩
        case measure => simp [intOf]; omega
    · obtain rfl : k = n := by omega
      go_wp2
      go_ret
      exact ⟨_, rfl, by rw [← HZ.out]; exact row5_lower ho.out (Nat.le_succ _), hb.out.fin⟩

/-- Behind talksOn: the board's box and the talks. -/
structure Lk (w : World) (P : List Value) (v : Value) (T : List Nt) (w' : World) : Prop where
  ib : InB w P 29 w'
  kt : Kts w' v T
theorem Lk.on {w w1 w2 : World} {P : List Value} {v : Value} {T : List Nt} (h : Hid (Lk w P v T w1)) (hb : Below w1.heap.size w1 w2) : Hid (Lk w P v T w2) := Lib.hid ⟨h.out.ib.on hb, h.out.kt.on hb⟩
theorem kts_at {w : World} {g n c : Nat} {T : List Nt} (h : Kts w (.slice (some ⟨g, 0, none⟩) n c) T) {j : Nat} (hj : j < T.length) : KtAt w g j (nthN T j) := by
  obtain ⟨a, c', e, k⟩ := h.opened
  obtain ⟨G, e', _, q⟩ := k.get j hj
  cases e; cases e'; exact q
theorem sec_prS {g key : Int} {x y : Nt} (h1 : tokB g key x.say x.ask x.tell = true) (h2 : tokB g key y.say y.ask y.tell = true) : secB g key x.say x.ask x.tell y.say y.ask y.tell = prS x y := by
  unfold secB prS; rw [h1, h2]; simp
set_option maxRecDepth 20000 in
theorem ilk_no (g : Int) (v : Value) (ns : List Nt) (on : Int) (w : World) (G : Gr w) (h : Nts w v ns) (hl : ns.length ≤ 1100000) (hk : onOk g ns on = false) : Calls Tryd.prog 22 #[.agg #[.int .i64 g, v], .int .i64 on] w fun e w' => e = .returned (.tuple #[.int .i64 (-1), .bool false]) ∧ Below w.heap.size w w' := by
  obtain ⟨a, c, rfl, _⟩ := h.opened
  obtain ⟨n, hn⟩ : ∃ n, ns.length = n := ⟨_, rfl⟩
  rw [hn] at h ⊢
  have H := Lib.hid h
  have HG := Lib.hid G
  have HL := Lib.hid (Nat.le_trans hl (show 1100000 ≤ 2000000 by omega))
  have I0 := Lib.hid (InB.start w [.int .i64 g, .slice a n c] 29)
  clear h G hl hn
  cases hb : brdB g ns
  · have HB := Lib.hid hb
    clear hb hk
    go_enter Tryd.func22, Tryd.ntmps22
    go_wp2_with fail
    refine (ibrd_any g _ ns _ (HG.out.on I0.out.fin) (H.out.on I0.out.fin) HL.out).mono ?_
    rintro e w1 ⟨rfl, hb1⟩
    rw [HB.out]
    have I1 := Lib.hid (I0.out.on hb1)
    clear hb1
    go_wp2
    go_ret2
    exact ⟨rfl, I1.out.fin⟩
  · have HB := Lib.hid hb
    have HK := Lib.hid (show katB ns on = false by unfold onOk at hk; rw [hb] at hk; exact hk)
    clear hb hk
    go_enter Tryd.func22, Tryd.ntmps22
    go_wp2_with fail
    refine (ibrd_any g _ ns _ (HG.out.on I0.out.fin) (H.out.on I0.out.fin) HL.out).mono ?_
    rintro e w1 ⟨rfl, hb1⟩
    rw [HB.out]
    have I1 := Lib.hid (I0.out.on hb1)
    clear hb1
    have p0 := I1.out.box.cell 0
    have p1 := I1.out.box.cell 1
    simp at p0 p1
    go_wp2_with fail
    refine (ikat_no g _ ns on _ (H.out.on I1.out.fin) HL.out HK.out).mono ?_
    rintro e w2 ⟨rfl, hb2⟩
    have I2 := Lib.hid (I1.out.on hb2)
    clear hb2 p0 p1
    go_wp2
    go_ret2
    exact ⟨rfl, I2.out.fin⟩
set_option maxRecDepth 20000 in
set_option maxHeartbeats 3200000 in
theorem ilk_yes (g : Int) (v : Value) (ns : List Nt) (on : Int) (w : World) (G : Gr w) (h : Nts w v ns) (hl : ns.length ≤ 1100000) (hk : onOk g ns on = true) : Calls Tryd.prog 22 #[.agg #[.int .i64 g, v], .int .i64 on] w fun e w' => e = .returned (.tuple #[.int .i64 (lekV g ns on), .bool (lekB g ns on)]) ∧ Below w.heap.size w w' := by
  obtain ⟨a, c, rfl, _⟩ := h.opened
  obtain ⟨n, hn⟩ : ∃ n, ns.length = n := ⟨_, rfl⟩
  rw [hn] at h ⊢
  have H := Lib.hid h
  have HG := Lib.hid G
  have HL := Lib.hid (Nat.le_trans hl (show 1100000 ≤ 2000000 by omega))
  have I0 := Lib.hid (InB.start w [.int .i64 g, .slice a n c] 29)
  obtain ⟨hb, h0, h1⟩ := onOk_true.1 hk
  have HB := Lib.hid hb
  have HK := Lib.hid (show katB ns on = true from katB_true.2 ⟨h0, h1⟩)
  have HL2 := Lib.hid hl
  obtain ⟨key, hkey⟩ : ∃ key, nth (keysN ns) on.toNat = key := ⟨_, rfl⟩
  have HKEY := Lib.hid hkey
  obtain ⟨T, hT⟩ : ∃ T, onN on ns = T := ⟨_, rfl⟩
  have HTT := Lib.hid hT
  obtain ⟨m, hm⟩ : ∃ m, T.length = m := ⟨_, rfl⟩
  have hmb : m ≤ 1100000 := by rw [← hm, ← hT]; exact Nat.le_trans (onN_len on ns) hl
  have HM := Lib.hid hm
  have HT : Hid (∀ k, k < m → ∀ {x : Nt}, nthN T k = x → tokB g key x.say x.ask x.tell = true) := Lib.hid (fun k hk x hx => by
    rw [← hx, ← hT, ← hkey]; exact onN_tok hb h0 (by rw [hT, hm]; exact hk))
  have HYES : Hid (∀ k j, k < m → j < m → ∀ {x y : Nt}, nthN T k = x → nthN T j = y → prS x y = true → lekB g ns on = true) := Lib.hid (fun k j hk' hj x y hx hy hp => by
    rw [lek_ok hk, hT]; exact two_hit (by rw [hm]; exact hk') (by rw [hm]; exact hj) (by rw [hx, hy]; exact hp))
  have HSV : Hid (∀ k j, k < m → j < m → ∀ {x y : Nt}, nthN T k = x → nthN T j = y → prS x y = true → lekV g ns on = secretOf g x.ask x.tell y.ask y.tell) := Lib.hid (fun k j hk' hj x y hx hy hp => by
    have t1 := HT.out k hk' hx
    have t2 := HT.out j hj hy
    obtain ⟨e1, e2⟩ := prS_of hp
    rw [lek_yes (HYES.out k j hk' hj hx hy hp), hkey]
    rw [← e1] at t2
    exact (secret_log t1 t2 e2).symm)
  have HNO : Hid (NoP T m → lekB g ns on = false) := Lib.hid (fun hp => by rw [lek_ok hk, hT]; exact two_miss (by rw [hm]; exact hp))
  clear h G hl hn hb h0 h1 hk hkey hT hm
  go_enter Tryd.func22, Tryd.ntmps22
  go_wp2_with fail
  refine (ibrd_any g _ ns _ (HG.out.on I0.out.fin) (H.out.on I0.out.fin) HL.out).mono ?_
  rintro e w1 ⟨rfl, hb1⟩
  rw [HB.out]
  have I1 := Lib.hid (I0.out.on hb1)
  clear hb1
  have p0 := I1.out.box.cell 0
  have p1 := I1.out.box.cell 1
  simp at p0 p1
  go_wp2_with fail
  refine (ikat_yes g _ ns on _ (H.out.on I1.out.fin) HL.out HK.out).mono ?_
  rintro e w2 ⟨rfl, hb2⟩
  rw [HKEY.out]
  have I2 := Lib.hid (I1.out.on hb2)
  clear hb2 p0 p1
  have p0 := I2.out.box.cell 0
  have p1 := I2.out.box.cell 1
  simp at p0 p1
  go_wp2_with fail
  refine (itks_any g _ ns on _ (H.out.on I2.out.fin) HL2.out).mono ?_
  rintro e w3 ⟨u, rfl, ou, hb3⟩
  rw [HTT.out] at ou
  obtain ⟨ta, tc, hu⟩ := OwnK.form ou
  rw [HM.out] at hu
  subst hu
  have M3 : Hid (Lk w [.int .i64 g, .slice a n c] (.slice ta m tc) T w3) := Lib.hid ⟨I2.out.on hb3, Kts.of_own ou (by rw [HM.out]; unfold maxLen; omega)⟩
  have HA : Hid (∀ k, k < m → ∃ A, ta = some ⟨A, 0, none⟩) := Lib.hid (fun k hk => by
    obtain ⟨a1, c1, q1, m1⟩ := M3.out.kt.opened
    obtain ⟨A, E, _, _⟩ := m1.get k (by rw [HM.out]; exact hk)
    cases q1
    exact ⟨A, E⟩)
  have hcp : m ≤ tc := by
    obtain ⟨a1, c1, q1, m1⟩ := M3.out.kt.opened
    have := m1.cap
    rw [HM.out] at this
    cases q1
    exact this
  clear hb3 ou p0 p1
  go_wp2
  go_loopw [31] (fun i wr => ∃ k : Nat, k ≤ m ∧ i = .int .i64 k ∧ Hid (NoP T k) ∧ Hid (Lk w [.int .i64 g, .slice a n c] (.slice ta m tc) T wr)) (fun i _ => m - (intOf i).toNat)
  case atStart => exact ⟨0, by omega, rfl, Lib.hid (NoP.zero _), M3⟩
  case round =>
    obtain ⟨k, hkm, rfl, hp, M⟩ := hrel
    obtain ⟨wo, rfl⟩ : ∃ wo : World, wo = wr := ⟨_, rfl⟩
    by_cases hlt : k < m
    · obtain ⟨A, rfl⟩ := HA.out k hlt
      have q := kts_at M.out.kt (j := k) (by rw [HM.out]; exact hlt)
      obtain ⟨x, hx⟩ : ∃ x, nthN T k = x := ⟨_, rfl⟩
      rw [hx] at q
      have HXK := Lib.hid hx
      obtain ⟨c0, c1, c2⟩ := q
      have hlt1 : (k : Int) < (m : Int) := by omega
      have hkc : k ≤ tc := by omega
      have MB := Lk.on M (below_grow wo (.cells #[.int .i64 x.say, .int .i64 x.ask, .int .i64 x.tell] 45))
      have BX := Lib.hid (Box.made wo [.int .i64 x.say, .int .i64 x.ask, .int .i64 x.tell] 45)
      clear hx M
      go_wp2
      clear c0 c1 c2
      go_loopw [40] (fun i wi => ∃ j : Nat, j ≤ k ∧ i = .int .i64 j ∧ Hid (NoQ T k j) ∧ Hid (Lk w [.int .i64 g, .slice a n c] (.slice (some ⟨A, 0, none⟩) m tc) T wi) ∧ Hid (Box wi wo.heap.size [.int .i64 x.say, .int .i64 x.ask, .int .i64 x.tell])) (fun i _ => k - (intOf i).toNat)
      case atStart => exact ⟨0, by omega, rfl, Lib.hid (NoQ.zero _ _), MB, BX⟩
      case round =>
        obtain ⟨j, hjk, rfl, hq, MJ, XJ⟩ := hrel
        obtain ⟨wp, rfl⟩ : ∃ wp : World, wp = wr := ⟨_, rfl⟩
        by_cases hlj : j < k
        · have q := kts_at MJ.out.kt (j := j) (by rw [HM.out]; omega)
          obtain ⟨y, hy⟩ : ∃ y, nthN T j = y := ⟨_, rfl⟩
          rw [hy] at q
          have HYK := Lib.hid hy
          obtain ⟨c0, c1, c2⟩ := q
          have hlj1 : (j : Int) < (k : Int) := by omega
          have hjm : j < m := by omega
          have MI := Lk.on MJ (below_grow wp (.cells #[.int .i64 y.say, .int .i64 y.ask, .int .i64 y.tell] 45))
          have BX2 := Lib.hid (XJ.out.on (below_grow wp (.cells #[.int .i64 y.say, .int .i64 y.ask, .int .i64 y.tell] 45)))
          have p0 := MJ.out.ib.box.cell 0
          have p1 := MJ.out.ib.box.cell 1
          have y0 := XJ.out.cell 0
          have y1 := XJ.out.cell 1
          have y2 := XJ.out.cell 2
          simp at p0 p1 y0 y1 y2
          have s0 : wo.heap.size < wp.heap.size := XJ.out.lt
          have s1 : w.heap.size < wp.heap.size := MJ.out.ib.box.lt
          clear hy MJ XJ
          cases hpr : prS x y
          · skip
            have HPR := Lib.hid hpr
            clear hpr
            go_wp2_with fail
            refine (isec_no g key x.say x.ask x.tell y.say y.ask y.tell _ (HG.out.on MI.out.ib.fin) (by rw [sec_prS (HT.out k hlt HXK.out) (HT.out j (by omega) HYK.out)]; exact HPR.out)).mono ?_
            rintro e w6 ⟨rfl, hb6⟩
            have M6 := Lk.on MI hb6
            have X6 := Lib.hid (BX2.out.on hb6)
            clear hb6 y0 y1 y2 s0 s1 p0 p1
            have Q6 := Lib.hid (hq.out.succ (by rw [HXK.out, HYK.out]; exact HPR.out))
            go_wp2
            go_roundw
            case rel => exact ⟨j + 1, by omega, by go_num, Q6, M6, X6⟩
            case measure => simp [intOf]; omega
          · skip
            have HPR := Lib.hid hpr
            clear hpr
            go_wp2_with fail
            refine (isec_yes g key x.say x.ask x.tell y.say y.ask y.tell _ (HG.out.on MI.out.ib.fin) (by rw [sec_prS (HT.out k hlt HXK.out) (HT.out j (by omega) HYK.out)]; exact HPR.out)).mono ?_
            rintro e w6 ⟨rfl, hb6⟩
            have M6 := Lk.on MI hb6
            have X6 := Lib.hid (BX2.out.on hb6)
            clear hb6 y0 y1 y2 s0 s1 p0 p1
            have HV := Lib.hid (HSV.out k j hlt (by omega) HXK.out HYK.out HPR.out)
            have HTR := Lib.hid (HYES.out k j hlt (by omega) HXK.out HYK.out HPR.out)
            go_wp2
            go_ret2
            exact ⟨by rw [HV.out, HTR.out]; rfl, M6.out.ib.fin⟩
        · obtain rfl : j = k := by omega
          have P5 := Lib.hid (hp.out.succ hq.out)
          clear hp hq
          go_wp2
          go_roundw
          case rel => exact ⟨j + 1, by omega, by go_num, P5, MJ⟩
          case measure => simp [intOf]; omega
    · obtain rfl : k = m := by omega
      have HF := Lib.hid (HNO.out hp.out)
      have HV := Lib.hid (lek_no HF.out)
      go_wp2
      go_ret2
      exact ⟨by rw [HV.out, HF.out]; rfl, M.out.ib.fin⟩
theorem ilk_any (g : Int) (v : Value) (ns : List Nt) (on : Int) (w : World) (G : Gr w) (h : Nts w v ns) (hl : ns.length ≤ 1100000) : Calls Tryd.prog 22 #[.agg #[.int .i64 g, v], .int .i64 on] w fun e w' => e = .returned (.tuple #[.int .i64 (lekV g ns on), .bool (lekB g ns on)]) ∧ Below w.heap.size w w' := by
  cases hk : onOk g ns on
  · rw [lek_no (lek_notOk hk), lek_notOk hk]; exact ilk_no g v ns on w G h hl hk
  · exact ilk_yes g v ns on w G h hl hk
end Go.Proofs.YtiinifcepcaonaaDoor
