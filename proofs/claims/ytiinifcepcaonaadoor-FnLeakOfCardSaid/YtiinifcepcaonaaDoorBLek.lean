/- LekI, LekS, in one text. -/
import Derived.Test.YtiinifcepcaonaaDoorBBrd
import Derived.Test.YtiinifcepcaonaaDoorKtl
import Derived.Test.YtiinifcepcaonaaDoorBPurN
/- impl: KeysOn, talksOn, LeakOf. -/
namespace Go.Proofs.YtiinifcepcaonaaDoor
open Go.RowKit

theorem ikon_any (g : Int) (v : Value) (ns : List Nt) (w : World) (G : Gr w) (h : Nts w v ns) (hl : ns.length ≤ 2000000) : Calls Tryd.prog 16 #[.agg #[.int .i64 g, v]] w fun e w' => ∃ u, e = .returned u ∧ Own w' w.heap.size u (konL g ns) ∧ Below w.heap.size w w' := by
  obtain ⟨a, c, rfl, _⟩ := h.opened
  obtain ⟨n, hn⟩ : ∃ n, ns.length = n := ⟨_, rfl⟩
  rw [hn] at h ⊢
  have H := Lib.hid h
  have HG := Lib.hid G
  have HL := Lib.hid hl
  have I0 := Lib.hid (InB.start w [.int .i64 g, .slice a n c] 29)
  clear h G hl hn
  cases hb : brdB g ns
  · have HB := Lib.hid hb
    have HX := Lib.hid (konL_no hb)
    clear hb
    go_enter Tryd.func16, Tryd.ntmps16
    go_wp2_with fail
    refine (ibrd_any g _ ns _ (HG.out.on I0.out.fin) (H.out.on I0.out.fin) HL.out).mono ?_
    rintro e w1 ⟨rfl, hb1⟩
    rw [HB.out]
    have I1 := Lib.hid (I0.out.on hb1)
    clear hb1
    go_wp2
    go_ret
    exact ⟨_, rfl, by rw [HX.out]; exact World.ownsRow_nil _ _ _ _, I1.out.fin⟩
  · have HB := Lib.hid hb
    have HX := Lib.hid (konL_yes hb)
    clear hb
    go_enter Tryd.func16, Tryd.ntmps16
    go_wp2_with fail
    refine (ibrd_any g _ ns _ (HG.out.on I0.out.fin) (H.out.on I0.out.fin) HL.out).mono ?_
    rintro e w1 ⟨rfl, hb1⟩
    rw [HB.out]
    have I1 := Lib.hid (I0.out.on hb1)
    have p0 := I1.out.box.cell 0
    have p1 := I1.out.box.cell 1
    simp at p0 p1
    clear hb1
    go_wp2_with fail
    refine (ikeys_any g _ ns _ (H.out.on I1.out.fin) HL.out).mono ?_
    rintro e w2 ⟨u, rfl, ou, hb2⟩
    have OU := Lib.hid (own_mono ou (Nat.le_trans (Nat.le_succ _) I1.out.size))
    have I2 := Lib.hid (I1.out.on hb2)
    obtain ⟨ua, uc, hu⟩ := Own.form ou
    subst hu
    clear hb2 ou p0 p1
    go_wp2
    go_ret
    exact ⟨_, rfl, by rw [HX.out]; exact OU.out, I2.out.fin⟩

set_option maxRecDepth 20000 in
set_option maxHeartbeats 1600000 in
theorem itks_any (g : Int) (v : Value) (ns : List Nt) (on : Int) (w : World) (h : Nts w v ns) (hl : ns.length ≤ 1100000) : Calls Tryd.prog 48 #[.agg #[.int .i64 g, v], .int .i64 on] w fun e w' => ∃ u, e = .returned u ∧ OwnK w' w.heap.size u (onN on ns) ∧ Below w.heap.size w w' := by
  obtain ⟨a, c, rfl, k1⟩ := h.opened
  obtain ⟨n, hn⟩ : ∃ n, ns.length = n := ⟨_, rfl⟩
  have HC := Lib.hid (fun w' (hb : Below w.heap.size w w') k (hk : k < n) => (k1.on hb).get k (by rw [hn]; exact hk))
  have HY := Lib.hid (show ∀ k, k < n → (nthN ns k).on = on → onN on (ns.take (k + 1)) = onN on (ns.take k) ++ [nthN ns k] from fun k hk ho => onN_yes (by rw [hn]; exact hk) ho)
  have HN := Lib.hid (show ∀ k, k < n → (nthN ns k).on ≠ on → onN on (ns.take (k + 1)) = onN on (ns.take k) from fun k hk ho => onN_no (by rw [hn]; exact hk) ho)
  have HZ := Lib.hid (show onN on (ns.take n) = onN on ns from by rw [← hn, List.take_length])
  have HL := Lib.hid (show ∀ k, (onN on (ns.take k)).length < 2000000 from fun k => by have := onN_len on (ns.take k); have := List.length_take_le' k ns; omega)
  have IB0 := Lib.hid (InB.start w [.int .i64 g, .slice a n c] 29)
  obtain ⟨L, hL⟩ : ∃ L : Nat → List Nt, ∀ k, onN on (ns.take k) = L k := ⟨_, fun _ => rfl⟩
  have HL0 := Lib.hid (show L 0 = [] from by rw [← hL]; rfl)
  simp only [hL] at HY HN HZ HL
  rw [hn] at hl ⊢
  clear h k1 hn hL
  go_enter Tryd.func48, Tryd.ntmps48
  go_wp2
  go_loopw [5, 11] (fun u i wr => ∃ k : Nat, k ≤ n ∧ i = .int .i64 k ∧ Hid (OwnK wr (w.heap.size + 1) u (L k)) ∧ Hid (InB w [.int .i64 g, .slice a n c] 29 wr)) (fun _ i _ => n - (intOf i).toNat)
  case atStart => exact ⟨0, by omega, rfl, Lib.hid (by rw [HL0.out]; exact World.ownsRow_nil _ _ _ _), IB0⟩
  case round =>
    obtain ⟨k, hk, rfl, ho, hb⟩ := hrel
    by_cases hlt : k < n
    · obtain ⟨G, rfl, _, hc⟩ := HC.out _ hb.out.fin k hlt
      have hyes := HY.out k hlt
      have hno := HN.out k hlt
      generalize nthN ns k = y at hc hyes hno
      obtain ⟨c0, c1, c2, c3, c4⟩ := hc
      have hlt1 : (k : Int) < (n : Int) := by omega
      have OV := Lib.hid (row5_below ho.out (below_grow wr (.cells #[.int .i64 y.key, .int .i64 y.on, .int .i64 y.say, .int .i64 y.ask, .int .i64 y.tell] 47)))
      have IB := Lib.hid (hb.out.on (below_grow wr (.cells #[.int .i64 y.key, .int .i64 y.on, .int .i64 y.say, .int .i64 y.ask, .int .i64 y.tell] 47)))
      clear ho hb
      by_cases he : y.on = on
      · have HX := Lib.hid (hyes he)
        have hd : (y.on == on) = true := by simp [he]
        have ov := OV.out
        have oz := IB.out.size
        have hll := HL.out k
        have hsz : (wr.alloc (.cells #[.int .i64 y.key, .int .i64 y.on, .int .i64 y.say, .int .i64 y.ask, .int .i64 y.tell] 47)).heap.size = wr.heap.size + 1 := by simp
        clear hyes hno he
        go_wp2_with (at_builtin; refine wpAppTlk (x := y) rfl _ _ rfl rfl ov hll oz (by rw [hsz]; rfl) ?_)
        intro v2 w4 o2 g2 _
        have O4 : Hid (OwnK w4 (w.heap.size + 1) v2 (L (k + 1))) := Lib.hid (by rw [HX.out]; exact o2)
        have I4 := Lib.hid (IB.out.grown g2 fun j hj => (OV.out.lt j hj).1)
        clear o2 g2 ov oz hll OV IB
        go_wp2
        go_roundw
        case rel => exact ⟨k + 1, by omega, by go_num, O4, I4⟩
        case measure => simp [intOf]; omega
      · have HX := Lib.hid (hno he)
        have hd : (y.on == on) = false := by simp [he]
        clear hyes hno he
        go_wp2
        go_roundw
        case rel => exact ⟨k + 1, by omega, by go_num, Lib.hid (by rw [HX.out]; exact OV.out), IB⟩
        case measure => simp [intOf]; omega
    · obtain rfl : k = n := by omega
      go_wp2
      go_ret
      exact ⟨_, rfl, by rw [← HZ.out]; exact row5_lower ho.out (Nat.le_succ _), hb.out.fin⟩

/-- Behind talksOn: the board's box and the talks. -/
structure Lk (w : World) (P : List Value) (v : Value) (T : List Nt) (w' : World) : Prop where
  ib : InB w P 29 w'
  kt : Kts w' v T
theorem Lk.on {w w1 w2 : World} {P : List Value} {v : Value} {T : List Nt} (h : Hid (Lk w P v T w1)) (hb : Below w1.heap.size w1 w2) : Hid (Lk w P v T w2) := Lib.hid ⟨h.out.ib.on hb, h.out.kt.on hb⟩
theorem kts_at {w : World} {g n c : Nat} {T : List Nt} (h : Kts w (.slice (some ⟨g, 0, none⟩) n c) T) {j : Nat} (hj : j < T.length) : KtAt w g j (nthN T j) := by
  obtain ⟨a, c', e, k⟩ := h.opened
  obtain ⟨G, e', _, q⟩ := k.get j hj
  cases e; cases e'; exact q
theorem sec_prS {g key : Int} {x y : Nt} (h1 : tokB g key x.say x.ask x.tell = true) (h2 : tokB g key y.say y.ask y.tell = true) : secB g key x.say x.ask x.tell y.say y.ask y.tell = prS x y := by
  unfold secB prS; rw [h1, h2]; simp
set_option maxRecDepth 20000 in
theorem ilk_no (g : Int) (v : Value) (ns : List Nt) (on : Int) (w : World) (G : Gr w) (h : Nts w v ns) (hl : ns.length ≤ 1100000) (hk : onOk g ns on = false) : Calls Tryd.prog 22 #[.agg #[.int .i64 g, v], .int .i64 on] w fun e w' => e = .returned (.tuple #[.int .i64 (-1), .bool false]) ∧ Below w.heap.size w w' := by
  obtain ⟨a, c, rfl, _⟩ := h.opened
  obtain ⟨n, hn⟩ : ∃ n, ns.length = n := ⟨_, rfl⟩
  rw [hn] at h ⊢
  have H := Lib.hid h
  have HG := Lib.hid G
  have HL := Lib.hid (Nat.le_trans hl (show 1100000 ≤ 2000000 by omega))
  have I0 := Lib.hid (InB.start w [.int .i64 g, .slice a n c] 29)
  clear h G hl hn
  cases hb : brdB g ns
  · have HB := Lib.hid hb
    clear hb hk
    go_enter Tryd.func22, Tryd.ntmps22
    go_wp2_with fail
    refine (ibrd_any g _ ns _ (HG.out.on I0.out.fin) (H.out.on I0.out.fin) HL.out).mono ?_
    rintro e w1 ⟨rfl, hb1⟩
    rw [HB.out]
    have I1 := Lib.hid (I0.out.on hb1)
    clear hb1
    go_wp2
    go_ret2
    exact ⟨rfl, I1.out.fin⟩
  · have HB := Lib.hid hb
    have HK := Lib.hid (show katB ns on = false by unfold onOk at hk; rw [hb] at hk; exact hk)
    clear hb hk
    go_enter Tryd.func22, Tryd.ntmps22
    go_wp2_with fail
    refine (ibrd_any g _ ns _ (HG.out.on I0.out.fin) (H.out.on I0.out.fin) HL.out).mono ?_
    rintro e w1 ⟨rfl, hb1⟩
    rw [HB.out]
    have I1 := Lib.hid (I0.out.on hb1)
    clear hb1
    have p0 := I1.out.box.cell 0
    have p1 := I1.out.box.cell 1
    simp at p0 p1
    go_wp2_with fail
    refine (ikat_no g _ ns on _ (H.out.on I1.out.fin) HL.out HK.out).mono ?_
    rintro e w2 ⟨rfl, hb2⟩
    have I2 := Lib.hid (I1.out.on hb2)
    clear hb2 p0 p1
    go_wp2
    go_ret2
    exact ⟨rfl, I2.out.fin⟩
set_option maxRecDepth 20000 in
set_option maxHeartbeats 3200000 in
theorem ilk_yes (g : Int) (v : Value) (ns : List Nt) (on : Int) (w : World) (G : Gr w) (h : Nts w v ns) (hl : ns.length ≤ 1100000) (hk : onOk g ns on = true) : Calls Tryd.prog 22 #[.agg #[.int .i64 g, v], .int .i64 on] w fun e w' => e = .returned (.tuple #[.int .i64 (lekV g ns on), .bool (lekB g ns on)]) ∧ Below w.heap.size w w' := by
  obtain ⟨a, c, rfl, _⟩ := h.opened
  obtain ⟨n, hn⟩ : ∃ n, ns.length = n := ⟨_, rfl⟩
  rw [hn] at h ⊢
  have H := Lib.hid h
  have HG := Lib.hid G
  have HL := Lib.hid (Nat.le_trans hl (show 1100000 ≤ 2000000 by omega))
  have I0 := Lib.hid (InB.start w [.int .i64 g, .slice a n c] 29)
  obtain ⟨hb, h0, h1⟩ := onOk_true.1 hk
  have HB := Lib.hid hb
  have HK := Lib.hid (show katB ns on = true from katB_true.2 ⟨h0, h1⟩)
  have HL2 := Lib.hid hl
  obtain ⟨key, hkey⟩ : ∃ key, nth (keysN ns) on.toNat = key := ⟨_, rfl⟩
  have HKEY := Lib.hid hkey
  obtain ⟨T, hT⟩ : ∃ T, onN on ns = T := ⟨_, rfl⟩
  have HTT := Lib.hid hT
  obtain ⟨m, hm⟩ : ∃ m, T.length = m := ⟨_, rfl⟩
  have hmb : m ≤ 1100000 := by rw [← hm, ← hT]; exact Nat.le_trans (onN_len on ns) hl
  have HM := Lib.hid hm
  have HT : Hid (∀ k, k < m → ∀ {x : Nt}, nthN T k = x → tokB g key x.say x.ask x.tell = true) := Lib.hid (fun k hk x hx => by
    rw [← hx, ← hT, ← hkey]; exact onN_tok hb h0 (by rw [hT, hm]; exact hk))
  have HYES : Hid (∀ k j, k < m → j < m → ∀ {x y : Nt}, nthN T k = x → nthN T j = y → prS x y = true → lekB g ns on = true) := Lib.hid (fun k j hk' hj x y hx hy hp => by
    rw [lek_ok hk, hT]; exact two_hit (by rw [hm]; exact hk') (by rw [hm]; exact hj) (by rw [hx, hy]; exact hp))
  have HSV : Hid (∀ k j, k < m → j < m → ∀ {x y : Nt}, nthN T k = x → nthN T j = y → prS x y = true → lekV g ns on = secretOf g x.ask x.tell y.ask y.tell) := Lib.hid (fun k j hk' hj x y hx hy hp => by
    have t1 := HT.out k hk' hx
    have t2 := HT.out j hj hy
    obtain ⟨e1, e2⟩ := prS_of hp
    rw [lek_yes (HYES.out k j hk' hj hx hy hp), hkey]
    rw [← e1] at t2
    exact (secret_log t1 t2 e2).symm)
  have HNO : Hid (NoP T m → lekB g ns on = false) := Lib.hid (fun hp => by rw [lek_ok hk, hT]; exact two_miss (by rw [hm]; exact hp))
  clear h G hl hn hb h0 h1 hk hkey hT hm
  go_enter Tryd.func22, Tryd.ntmps22
  go_wp2_with fail
  refine (ibrd_any g _ ns _ (HG.out.on I0.out.fin) (H.out.on I0.out.fin) HL.out).mono ?_
  rintro e w1 ⟨rfl, hb1⟩
  rw [HB.out]
  have I1 := Lib.hid (I0.out.on hb1)
  clear hb1
  have p0 := I1.out.box.cell 0
  have p1 := I1.out.box.cell 1
  simp at p0 p1
  go_wp2_with fail
  refine (ikat_yes g _ ns on _ (H.out.on I1.out.fin) HL.out HK.out).mono ?_
  rintro e w2 ⟨rfl, hb2⟩
  rw [HKEY.out]
  have I2 := Lib.hid (I1.out.on hb2)
  clear hb2 p0 p1
  have p0 := I2.out.box.cell 0
  have p1 := I2.out.box.cell 1
  simp at p0 p1
  go_wp2_with fail
  refine (itks_any g _ ns on _ (H.out.on I2.out.fin) HL2.out).mono ?_
  rintro e w3 ⟨u, rfl, ou, hb3⟩
  rw [HTT.out] at ou
  obtain ⟨ta, tc, hu⟩ := OwnK.form ou
  rw [HM.out] at hu
  subst hu
  have M3 : Hid (Lk w [.int .i64 g, .slice a n c] (.slice ta m tc) T w3) := Lib.hid ⟨I2.out.on hb3, Kts.of_own ou (by rw [HM.out]; unfold maxLen; omega)⟩
  have HA : Hid (∀ k, k < m → ∃ A, ta = some ⟨A, 0, none⟩) := Lib.hid (fun k hk => by
    obtain ⟨a1, c1, q1, m1⟩ := M3.out.kt.opened
    obtain ⟨A, E, _, _⟩ := m1.get k (by rw [HM.out]; exact hk)
    cases q1
    exact ⟨A, E⟩)
  have hcp : m ≤ tc := by
    obtain ⟨a1, c1, q1, m1⟩ := M3.out.kt.opened
    have := m1.cap
    rw [HM.out] at this
    cases q1
    exact this
  clear hb3 ou p0 p1
  go_wp2
  go_loopw [31] (fun i wr => ∃ k : Nat, k ≤ m ∧ i = .int .i64 k ∧ Hid (NoP T k) ∧ Hid (Lk w [.int .i64 g, .slice a n c] (.slice ta m tc) T wr)) (fun i _ => m - (intOf i).toNat)
  case atStart => exact ⟨0, by omega, rfl, Lib.hid (NoP.zero _), M3⟩
  case round =>
    obtain ⟨k, hkm, rfl, hp, M⟩ := hrel
    obtain ⟨wo, rfl⟩ : ∃ wo : World, wo = wr := ⟨_, rfl⟩
    by_cases hlt : k < m
    · obtain ⟨A, rfl⟩ := HA.out k hlt
      have q := kts_at M.out.kt (j := k) (by rw [HM.out]; exact hlt)
      obtain ⟨x, hx⟩ : ∃ x, nthN T k = x := ⟨_, rfl⟩
      rw [hx] at q
      have HXK := Lib.hid hx
      obtain ⟨c0, c1, c2⟩ := q
      have hlt1 : (k : Int) < (m : Int) := by omega
      have hkc : k ≤ tc := by omega
      have MB := Lk.on M (below_grow wo (.cells #[.int .i64 x.say, .int .i64 x.ask, .int .i64 x.tell] 45))
      have BX := Lib.hid (Box.made wo [.int .i64 x.say, .int .i64 x.ask, .int .i64 x.tell] 45)
      clear hx M
      go_wp2
      clear c0 c1 c2
      go_loopw [40] (fun i wi => ∃ j : Nat, j ≤ k ∧ i = .int .i64 j ∧ Hid (NoQ T k j) ∧ Hid (Lk w [.int .i64 g, .slice a n c] (.slice (some ⟨A, 0, none⟩) m tc) T wi) ∧ Hid (Box wi wo.heap.size [.int .i64 x.say, .int .i64 x.ask, .int .i64 x.tell])) (fun i _ => k - (intOf i).toNat)
      case atStart => exact ⟨0, by omega, rfl, Lib.hid (NoQ.zero _ _), MB, BX⟩
      case round =>
        obtain ⟨j, hjk, rfl, hq, MJ, XJ⟩ := hrel
        obtain ⟨wp, rfl⟩ : ∃ wp : World, wp = wr := ⟨_, rfl⟩
        by_cases hlj : j < k
        · have q := kts_at MJ.out.kt (j := j) (by rw [HM.out]; omega)
          obtain ⟨y, hy⟩ : ∃ y, nthN T j = y := ⟨_, rfl⟩
          rw [hy] at q
          have HYK := Lib.hid hy
          obtain ⟨c0, c1, c2⟩ := q
          have hlj1 : (j : Int) < (k : Int) := by omega
          have hjm : j < m := by omega
          have MI := Lk.on MJ (below_grow wp (.cells #[.int .i64 y.say, .int .i64 y.ask, .int .i64 y.tell] 45))
          have BX2 := Lib.hid (XJ.out.on (below_grow wp (.cells #[.int .i64 y.say, .int .i64 y.ask, .int .i64 y.tell] 45)))
          have p0 := MJ.out.ib.box.cell 0
          have p1 := MJ.out.ib.box.cell 1
          have y0 := XJ.out.cell 0
          have y1 := XJ.out.cell 1
          have y2 := XJ.out.cell 2
          simp at p0 p1 y0 y1 y2
          have s0 : wo.heap.size < wp.heap.size := XJ.out.lt
          have s1 : w.heap.size < wp.heap.size := MJ.out.ib.box.lt
          clear hy MJ XJ
          cases hpr : prS x y
          · skip
            have HPR := Lib.hid hpr
            clear hpr
            go_wp2_with fail
            refine (isec_no g key x.say x.ask x.tell y.say y.ask y.tell _ (HG.out.on MI.out.ib.fin) (by rw [sec_prS (HT.out k hlt HXK.out) (HT.out j (by omega) HYK.out)]; exact HPR.out)).mono ?_
            rintro e w6 ⟨rfl, hb6⟩
            have M6 := Lk.on MI hb6
            have X6 := Lib.hid (BX2.out.on hb6)
            clear hb6 y0 y1 y2 s0 s1 p0 p1
            have Q6 := Lib.hid (hq.out.succ (by rw [HXK.out, HYK.out]; exact HPR.out))
            go_wp2
            go_roundw
            case rel => exact ⟨j + 1, by omega, by go_num, Q6, M6, X6⟩
            case measure => simp [intOf]; omega
          · skip
            have HPR := Lib.hid hpr
            clear hpr
            go_wp2_with fail
            refine (isec_yes g key x.say x.ask x.tell y.say y.ask y.tell _ (HG.out.on MI.out.ib.fin) (by rw [sec_prS (HT.out k hlt HXK.out) (HT.out j (by omega) HYK.out)]; exact HPR.out)).mono ?_
            rintro e w6 ⟨rfl, hb6⟩
            have M6 := Lk.on MI hb6
            have X6 := Lib.hid (BX2.out.on hb6)
            clear hb6 y0 y1 y2 s0 s1 p0 p1
            have HV := Lib.hid (HSV.out k j hlt (by omega) HXK.out HYK.out HPR.out)
            have HTR := Lib.hid (HYES.out k j hlt (by omega) HXK.out HYK.out HPR.out)
            go_wp2
            go_ret2
            exact ⟨by rw [HV.out, HTR.out]; rfl, M6.out.ib.fin⟩
        · obtain rfl : j = k := by omega
          have P5 := Lib.hid (hp.out.succ hq.out)
          clear hp hq
          go_wp2
          go_roundw
          case rel => exact ⟨j + 1, by omega, by go_num, P5, MJ⟩
          case measure => simp [intOf]; omega
    · obtain rfl : k = m := by omega
      have HF := Lib.hid (HNO.out hp.out)
      have HV := Lib.hid (lek_no HF.out)
      go_wp2
      go_ret2
      exact ⟨by rw [HV.out, HF.out]; rfl, M.out.ib.fin⟩
theorem ilk_any (g : Int) (v : Value) (ns : List Nt) (on : Int) (w : World) (G : Gr w) (h : Nts w v ns) (hl : ns.length ≤ 1100000) : Calls Tryd.prog 22 #[.agg #[.int .i64 g, v], .int .i64 on] w fun e w' => e = .returned (.tuple #[.int .i64 (lekV g ns on), .bool (lekB g ns on)]) ∧ Below w.heap.size w w' := by
  cases hk : onOk g ns on
  · rw [lek_no (lek_notOk hk), lek_notOk hk]; exact ilk_no g v ns on w G h hl hk
  · exact ilk_yes g v ns on w G h hl hk
end Go.Proofs.YtiinifcepcaonaaDoor

/- spec: KeysOn, LeakOf. -/
namespace Go.Proofs.YtiinifcepcaonaaDoor
open Go.RowKit

theorem skon_any (g : Int) (v : Value) (ns : List Nt) (w : World) (h : Nts w v ns) (hl : ns.length ≤ 2000000) : Calls Tryd.prog 15 #[.agg #[.int .i64 g, v]] w fun e w' => ∃ u, e = .returned u ∧ Own w' w.heap.size u (konL g ns) ∧ Below w.heap.size w w' := by
  obtain ⟨a, c, rfl, _⟩ := h.opened
  obtain ⟨n, hn⟩ : ∃ n, ns.length = n := ⟨_, rfl⟩
  rw [hn] at h ⊢
  have H := Lib.hid h
  have HL := Lib.hid hl
  have I0 := Lib.hid (InB.start w [.int .i64 g, .slice a n c] 29)
  clear h hl hn
  cases hb : brdB g ns
  · have HB := Lib.hid hb
    have HX := Lib.hid (konL_no hb)
    clear hb
    go_enter Tryd.func15, Tryd.ntmps15
    go_wp2_with fail
    refine (sbrd_any g _ ns _ (H.out.on I0.out.fin) HL.out).mono ?_
    rintro e w1 ⟨rfl, hb1⟩
    rw [HB.out]
    have I1 := Lib.hid (I0.out.on hb1)
    have O1 := Lib.hid (own_made' w1)
    have B1 := Lib.hid (below_grow w1 (.cells #[] 3))
    clear hb1
    go_wp2
    go_ret
    exact ⟨_, rfl, by rw [HX.out]; exact own_mono O1.out (by have := I1.out.size; omega), (I1.out.on B1.out).fin⟩
  · have HB := Lib.hid hb
    have HX := Lib.hid (konL_yes hb)
    clear hb
    go_enter Tryd.func15, Tryd.ntmps15
    go_wp2_with fail
    refine (sbrd_any g _ ns _ (H.out.on I0.out.fin) HL.out).mono ?_
    rintro e w1 ⟨rfl, hb1⟩
    rw [HB.out]
    have I1 := Lib.hid (I0.out.on hb1)
    have p0 := I1.out.box.cell 0
    have p1 := I1.out.box.cell 1
    simp at p0 p1
    clear hb1
    go_wp2_with fail
    refine (skeys_any g _ ns _ (H.out.on I1.out.fin) HL.out).mono ?_
    rintro e w2 ⟨u, rfl, ou, hb2⟩
    have OU := Lib.hid (own_mono ou (Nat.le_trans (Nat.le_succ _) I1.out.size))
    have I2 := Lib.hid (I1.out.on hb2)
    obtain ⟨ua, uc, hu⟩ := Own.form ou
    subst hu
    clear hb2 ou p0 p1
    go_wp2
    go_ret
    exact ⟨_, rfl, by rw [HX.out]; exact OU.out, I2.out.fin⟩

/-- Behind KeysOn: the board's box, its notes, its elements. -/
structure Ls (w : World) (P : List Value) (v : Value) (ns : List Nt) (u : Value) (xs : List Int) (w' : World) : Prop where
  ib : InB w P 29 w'
  nt : Nts w' v ns
  ks : Ints w' u xs
theorem Ls.on {w w1 w2 : World} {P : List Value} {v u : Value} {ns : List Nt} {xs : List Int} (h : Hid (Ls w P v ns u xs w1)) (hb : Below w1.heap.size w1 w2) : Hid (Ls w P v ns u xs w2) := Lib.hid ⟨h.out.ib.on hb, h.out.nt.on hb, h.out.ks.below hb⟩
theorem nts_at {w : World} {g n c : Nat} {T : List Nt} (h : Nts w (.slice (some ⟨g, 0, none⟩) n c) T) {j : Nat} (hj : j < T.length) : NtAt w g j (nthN T j) := by
  obtain ⟨a, c', e, k⟩ := h.opened
  obtain ⟨G, e', _, q⟩ := k.get j hj
  cases e; cases e'; exact q
theorem sec_prS' {g key : Int} {x y : Nt} (h1 : tokB g key x.say x.ask x.tell = true) (h2 : tokB g key y.say y.ask y.tell = true) : secB g key y.say y.ask y.tell x.say x.ask x.tell = prS x y := by
  rw [prS_symm]; unfold secB prS; rw [h1, h2]; simp
set_option maxRecDepth 20000 in
theorem slk_no (g : Int) (v : Value) (ns : List Nt) (on : Int) (w : World) (h : Nts w v ns) (hl : ns.length ≤ 2000000) (hk : onOk g ns on = false) : Calls Tryd.prog 21 #[.agg #[.int .i64 g, v], .int .i64 on] w fun e w' => e = .returned (.tuple #[.int .i64 (-1), .bool false]) ∧ Below w.heap.size w w' := by
  obtain ⟨a, c, rfl, _⟩ := h.opened
  obtain ⟨n, hn⟩ : ∃ n, ns.length = n := ⟨_, rfl⟩
  rw [hn] at h ⊢
  have H := Lib.hid h
  have HL := Lib.hid hl
  have I0 := Lib.hid (InB.start w [.int .i64 g, .slice a n c] 29)
  obtain ⟨m, hm⟩ : ∃ m, (konL g ns).length = m := ⟨_, rfl⟩
  have hmb : m ≤ 12 := by rw [← hm]; exact konL_len g ns
  have HM := Lib.hid hm
  have hwm : IntKind.i64.wrap ((m : Int) - 1) = (m : Int) - 1 := IntWalk.i64_in _ (by omega)
  have HIN : Hid ((decide ((0 : Int) ≤ on) && decide (on ≤ (m : Int) - 1)) = false) := Lib.hid (by
    cases hb : brdB g ns
    · rw [konL_no hb] at hm
      have hm0 : m = 0 := by rw [← hm]; rfl
      rw [hm0, Bool.and_eq_false_iff]
      by_cases h0 : 0 ≤ on
      · right; simp; omega
      · left; simp; omega
    · rw [konL_yes hb] at hm
      unfold onOk at hk
      rw [hb, hm] at hk
      rw [← hk]
      simp only [Bool.true_and]
      congr 1
      rw [Bool.eq_iff_iff, decide_eq_true_iff, decide_eq_true_iff]; omega)
  clear h hl hn hk hm
  go_enter Tryd.func21, Tryd.ntmps21
  go_wp2_with fail
  refine (skon_any g _ ns _ (H.out.on I0.out.fin) HL.out).mono ?_
  rintro e w1 ⟨u, rfl, ou, hb1⟩
  obtain ⟨ua, uc, hu⟩ := Own.form ou
  rw [HM.out] at hu
  subst hu
  have I1 := Lib.hid (I0.out.on hb1)
  clear hb1 ou
  go_wp2_with fail
  refine (l1In_at HIN.out _).mono ?_
  rintro e w2 ⟨rfl, rfl⟩
  go_wp2
  go_ret2
  exact ⟨rfl, I1.out.fin⟩
set_option maxRecDepth 20000 in
set_option maxHeartbeats 6400000 in
theorem slk_yes (g : Int) (v : Value) (ns : List Nt) (on : Nat) (w : World) (h : Nts w v ns) (hl : ns.length ≤ 2000000) (hk : onOk g ns on = true) : Calls Tryd.prog 21 #[.agg #[.int .i64 g, v], .int .i64 on] w fun e w' => e = .returned (.tuple #[.int .i64 (lekV g ns on), .bool (lekB g ns on)]) ∧ Below w.heap.size w w' := by
  obtain ⟨a, c, rfl, k1⟩ := h.opened
  have hmax := k1.max
  unfold maxLen at hmax
  obtain ⟨n, hn⟩ : ∃ n, ns.length = n := ⟨_, rfl⟩
  rw [hn] at h hmax ⊢
  have H := Lib.hid h
  have HL := Lib.hid hl
  have HN := Lib.hid hn
  have I0 := Lib.hid (InB.start w [.int .i64 g, .slice a n c] 29)
  obtain ⟨hb, h0, h1⟩ := onOk_true.1 hk
  have HX := Lib.hid (konL_yes hb)
  obtain ⟨m, hm⟩ : ∃ m, (keysN ns).length = m := ⟨_, rfl⟩
  rw [hm] at h1
  have hom : on < m := by omega
  have hmb : m ≤ 12 := by rw [← hm]; exact Nat.le_trans (keysN_len ns) (brd_true.1 hb).2.1
  have HM := Lib.hid hm
  have hwm : IntKind.i64.wrap ((m : Int) - 1) = (m : Int) - 1 := IntWalk.i64_in _ (by omega)
  have HIN : Hid ((decide ((0 : Int) ≤ (on : Int)) && decide ((on : Int) ≤ (m : Int) - 1)) = true) := Lib.hid (by simp; omega)
  obtain ⟨key, hkey⟩ : ∃ key, nth (keysN ns) on = key := ⟨_, rfl⟩
  have HKEY := Lib.hid hkey
  have HT : Hid (∀ k, k < n → ∀ {x : Nt}, nthN ns k = x → x.on = (on : Int) → tokB g key x.say x.ask x.tell = true) := Lib.hid (fun k hk x hx ho => by
    have := brd_on hb h0 (by rw [hn]; exact hk) (by rw [hx]; exact ho)
    rw [hx, show (on : Int).toNat = on by omega, hkey] at this; exact this)
  have HYES : Hid (∀ k j, k < n → j < n → ∀ {x y : Nt}, nthN ns k = x → nthN ns j = y → x.on = (on : Int) → y.on = (on : Int) → prS x y = true → lekB g ns on = true) := Lib.hid (fun k j hk' hj x y hx hy ox oy hp => by
    rw [lek_ok hk]; exact two_onHit (by rw [hn]; exact hk') (by rw [hn]; exact hj) (by rw [hx]; exact ox) (by rw [hy]; exact oy) (by rw [hx, hy]; exact hp))
  have HSV : Hid (∀ k j, k < n → j < n → ∀ {x y : Nt}, nthN ns k = x → nthN ns j = y → x.on = (on : Int) → y.on = (on : Int) → prS x y = true → lekV g ns on = secretOf g y.ask y.tell x.ask x.tell) := Lib.hid (fun k j hk' hj x y hx hy ox oy hp => by
    have t1 := HT.out k hk' hx ox
    have t2 := HT.out j hj hy oy
    obtain ⟨e1, e2⟩ := prS_of hp
    rw [lek_yes (HYES.out k j hk' hj hx hy ox oy hp), show (on : Int).toNat = on by omega, hkey]
    rw [e1] at t1
    exact (secret_log t2 t1 (fun e => e2 e.symm)).symm)
  have HNO : Hid (NoR on ns n → lekB g ns on = false) := Lib.hid (fun hp => by rw [lek_ok hk]; exact two_onMiss (by rw [hn]; exact hp))
  have HA : Hid (∀ k, k < n → ∃ A, a = some ⟨A, 0, none⟩) := Lib.hid (fun k hk => by
    obtain ⟨A, E, _, _⟩ := k1.get k (by rw [hn]; exact hk)
    exact ⟨A, E⟩)
  clear h hl hn hb h0 h1 hk hkey hm k1
  go_enter Tryd.func21, Tryd.ntmps21
  go_wp2_with fail
  refine (skon_any g _ ns _ (H.out.on I0.out.fin) HL.out).mono ?_
  rintro e w1 ⟨u, rfl, ou, hb1⟩
  rw [HX.out] at ou
  obtain ⟨ua, uc, hu, hc9⟩ := (Ints.of_own ou (by rw [HM.out]; unfold maxLen; omega)).opened
  rw [HM.out] at hu
  subst hu
  obtain ⟨ga, rfl, _, _⟩ := hc9.get on (by rw [HM.out]; exact hom)
  have M1 : Hid (Ls w [.int .i64 g, .slice a n c] (.slice a n c) ns (.slice (some ⟨ga, 0, none⟩) m uc) (keysN ns) w1) := Lib.hid ⟨I0.out.on hb1, (H.out.on I0.out.fin).on hb1, Ints.of_own ou (by rw [HM.out]; unfold maxLen; omega)⟩
  clear hb1 ou hc9
  go_wp2_with fail
  refine (l1In_at HIN.out _).mono ?_
  rintro e w2 ⟨rfl, rfl⟩
  go_wp2
  go_loopw [7] (fun i wr => ∃ k : Nat, k ≤ n ∧ i = .int .i64 k ∧ Hid (NoR on ns k) ∧ Hid (Ls w [.int .i64 g, .slice a n c] (.slice a n c) ns (.slice (some ⟨ga, 0, none⟩) m uc) (keysN ns) wr)) (fun i _ => n - (intOf i).toNat)
  case atStart => exact ⟨0, by omega, rfl, Lib.hid (NoR.zero _ _), M1⟩
  case round =>
    obtain ⟨k, hkn, rfl, hp, M⟩ := hrel
    obtain ⟨wo, rfl⟩ : ∃ wo : World, wo = wr := ⟨_, rfl⟩
    have p0 := M.out.ib.box.cell 0
    have p1 := M.out.ib.box.cell 1
    simp at p0 p1
    by_cases hlt : k < n
    · obtain ⟨A, rfl⟩ := HA.out k hlt
      obtain ⟨x, hx⟩ : ∃ x, nthN ns k = x := ⟨_, rfl⟩
      have HXK := Lib.hid hx
      have hlt1 : (k : Int) < (n : Int) := by omega
      clear hx
      go_wp2
      clear p0 p1
      go_loopw [8] (fun i wi => ∃ j : Nat, j ≤ k ∧ i = .int .i64 j ∧ Hid (NoT on ns k j) ∧ Hid (Ls w [.int .i64 g, .slice (some ⟨A, 0, none⟩) n c] (.slice (some ⟨A, 0, none⟩) n c) ns (.slice (some ⟨ga, 0, none⟩) m uc) (keysN ns) wi)) (fun i _ => k - (intOf i).toNat)
      case atStart => exact ⟨0, by omega, rfl, Lib.hid (NoT.zero _ _ _), M⟩
      case round =>
        obtain ⟨j, hjk, rfl, hq, MJ⟩ := hrel
        obtain ⟨wp, rfl⟩ : ∃ wp : World, wp = wr := ⟨_, rfl⟩
        have p0 := MJ.out.ib.box.cell 0
        have p1 := MJ.out.ib.box.cell 1
        simp at p0 p1
        by_cases hlj : j < k
        · have q := nts_at MJ.out.nt (j := j) (by rw [HN.out]; omega)
          have q' := nts_at MJ.out.nt (j := k) (by rw [HN.out]; omega)
          obtain ⟨y, hy⟩ : ∃ y, nthN ns j = y := ⟨_, rfl⟩
          rw [hy] at q
          rw [HXK.out] at q'
          have HYK := Lib.hid hy
          obtain ⟨c0, c1, c2, c3, c4⟩ := q
          obtain ⟨d0, d1, d2, d3, d4⟩ := q'
          have hlj1 : (j : Int) < (k : Int) := by omega
          have hjn : j < n := by omega
          have hjn1 : (j : Int) < (n : Int) := by omega
          clear hy
          by_cases hox : x.on = (on : Int)
          · have HOX := Lib.hid hox
            have hxd : (x.on != (on : Int)) = false := by simp [hox]
            clear hox
            by_cases hoy : y.on = (on : Int)
            · have HOY := Lib.hid hoy
              have hyd : (y.on != (on : Int)) = false := by simp [hoy]
              clear hoy
              cases hpr : prS x y
              · skip
                have HPR := Lib.hid hpr
                clear hpr
                have HD : Hid (Ls w [.int .i64 g, .slice (some ⟨A, 0, none⟩) n c] (.slice (some ⟨A, 0, none⟩) n c) ns (.slice (some ⟨ga, 0, none⟩) m uc) (keysN ns) wp.drew) := Ls.on MJ (Below.refl _ _).drew
                go_upto_region 11 with (fail)
                clear c0 c1 c2 c3 c4 d0 d1 d2 d3 d4 p0 p1
                go_wp2_with fail
                refine wp_region_class (C := fun w' => Hid (Ls w [.int .i64 g, .slice (some ⟨A, 0, none⟩) n c] (.slice (some ⟨A, 0, none⟩) n c) ns (.slice (some ⟨ga, 0, none⟩) m uc) (keysN ns) w')) (by kernel_rfl) (by kernel_rfl) HD ?_
                repeat (first | go_big_quiet_skip | (go_big_quiet_want; go_big_quiet_op; first | go_big_quiet_on | (refine ⟨_, fun _ _ => rfl, ?_⟩; go_big_quiet_on)))
                go_big_quiet_want
                go_big_quiet_op
                refine ⟨.int .i64 g, fun w' hw' => ?_, ?_⟩
                · have q := hw'.out.ib.box.cell 0
                  simp at q
                  simp [go_sem, q]
                go_big_quiet_on
                repeat (first | go_big_quiet_skip | (go_big_quiet_want; go_big_quiet_op; first | go_big_quiet_on | (refine ⟨_, fun _ _ => rfl, ?_⟩; go_big_quiet_on)))
                go_big_quiet_want
                go_big_quiet_op
                refine ⟨.int .i64 key, fun w' hw' => ?_, ?_⟩
                · have q := ints_cell hw'.out.ks (j := on) (by rw [HM.out]; omega)
                  rw [HKEY.out] at q
                  simp [go_sem, q]
                go_big_quiet_on
                repeat (first | go_big_quiet_skip | (go_big_quiet_want; go_big_quiet_op; first | go_big_quiet_on | (refine ⟨_, fun _ _ => rfl, ?_⟩; go_big_quiet_on)))
                go_big_quiet_want
                go_big_quiet_op
                refine ⟨.slice (some ⟨A, 0, none⟩) n c, fun w' hw' => ?_, ?_⟩
                · have q := hw'.out.ib.box.cell 1
                  simp at q
                  simp [go_sem, q]
                go_big_quiet_on
                repeat (first | go_big_quiet_skip | (go_big_quiet_want; go_big_quiet_op; first | go_big_quiet_on | (refine ⟨_, fun _ _ => rfl, ?_⟩; go_big_quiet_on)))
                go_big_quiet_want
                go_big_quiet_op
                refine ⟨.agg #[.int .i64 y.say, .int .i64 y.ask, .int .i64 y.tell], fun w' hw' => ?_, ?_⟩
                · obtain ⟨_, _, q2, q3, q4⟩ := nts_at hw'.out.nt (j := j) (by rw [HN.out]; omega)
                  rw [HYK.out] at q2 q3 q4
                  simp [go_sem, q2, q3, q4]
                go_big_quiet_on
                repeat (first | go_big_quiet_skip | (go_big_quiet_want; go_big_quiet_op; first | go_big_quiet_on | (refine ⟨_, fun _ _ => rfl, ?_⟩; go_big_quiet_on)))
                go_big_quiet_want
                go_big_quiet_op
                refine ⟨.slice (some ⟨A, 0, none⟩) n c, fun w' hw' => ?_, ?_⟩
                · have q := hw'.out.ib.box.cell 1
                  simp at q
                  simp [go_sem, q]
                go_big_quiet_on
                repeat (first | go_big_quiet_skip | (go_big_quiet_want; go_big_quiet_op; first | go_big_quiet_on | (refine ⟨_, fun _ _ => rfl, ?_⟩; go_big_quiet_on)))
                go_big_quiet_want
                go_big_quiet_op
                refine ⟨.agg #[.int .i64 x.say, .int .i64 x.ask, .int .i64 x.tell], fun w' hw' => ?_, ?_⟩
                · obtain ⟨_, _, q2, q3, q4⟩ := nts_at hw'.out.nt (j := k) (by rw [HN.out]; omega)
                  rw [HXK.out] at q2 q3 q4
                  simp [go_sem, q2, q3, q4]
                go_big_quiet_on
                repeat (first | go_big_quiet_skip | (go_big_quiet_want; go_big_quiet_op; first | go_big_quiet_on | (refine ⟨_, fun _ _ => rfl, ?_⟩; go_big_quiet_on)))
                go_big_quiet_want
                go_big_quiet_op
                go_big_quiet_call ((intro hw; exact (ssec_no g key y.say y.ask y.tell x.say x.ask x.tell _ (by rw [sec_prS' (HT.out k hlt HXK.out HOX.out) (HT.out j (by omega) HYK.out HOY.out)]; exact HPR.out)).mono fun _ _ ⟨he, hb⟩ => ⟨he, Ls.on hw hb⟩))
                repeat (first | go_big_quiet_skip | (go_big_quiet_want; go_big_quiet_op; first | go_big_quiet_on | (refine ⟨_, fun _ _ => rfl, ?_⟩; go_big_quiet_on)))
                refine wpQuiet_nil ?_
                intro w6 hw6
                clear HD MJ
                have Q6 := Lib.hid (hq.out.succ (fun _ _ => by rw [HXK.out, HYK.out]; exact HPR.out))
                clear hq
                go_wp2
                go_roundw
                case rel => exact ⟨j + 1, by omega, by go_num, Q6, hw6⟩
                case measure => simp [intOf]; omega
              · skip
                have HPR := Lib.hid hpr
                clear hpr
                have HD : Hid (Ls w [.int .i64 g, .slice (some ⟨A, 0, none⟩) n c] (.slice (some ⟨A, 0, none⟩) n c) ns (.slice (some ⟨ga, 0, none⟩) m uc) (keysN ns) wp.drew) := Ls.on MJ (Below.refl _ _).drew
                go_upto_region 11 with (fail)
                clear c0 c1 c2 c3 c4 d0 d1 d2 d3 d4 p0 p1
                go_wp2_with fail
                refine wp_region_class (C := fun w' => Hid (Ls w [.int .i64 g, .slice (some ⟨A, 0, none⟩) n c] (.slice (some ⟨A, 0, none⟩) n c) ns (.slice (some ⟨ga, 0, none⟩) m uc) (keysN ns) w')) (by kernel_rfl) (by kernel_rfl) HD ?_
                repeat (first | go_big_quiet_skip | (go_big_quiet_want; go_big_quiet_op; first | go_big_quiet_on | (refine ⟨_, fun _ _ => rfl, ?_⟩; go_big_quiet_on)))
                go_big_quiet_want
                go_big_quiet_op
                refine ⟨.int .i64 g, fun w' hw' => ?_, ?_⟩
                · have q := hw'.out.ib.box.cell 0
                  simp at q
                  simp [go_sem, q]
                go_big_quiet_on
                repeat (first | go_big_quiet_skip | (go_big_quiet_want; go_big_quiet_op; first | go_big_quiet_on | (refine ⟨_, fun _ _ => rfl, ?_⟩; go_big_quiet_on)))
                go_big_quiet_want
                go_big_quiet_op
                refine ⟨.int .i64 key, fun w' hw' => ?_, ?_⟩
                · have q := ints_cell hw'.out.ks (j := on) (by rw [HM.out]; omega)
                  rw [HKEY.out] at q
                  simp [go_sem, q]
                go_big_quiet_on
                repeat (first | go_big_quiet_skip | (go_big_quiet_want; go_big_quiet_op; first | go_big_quiet_on | (refine ⟨_, fun _ _ => rfl, ?_⟩; go_big_quiet_on)))
                go_big_quiet_want
                go_big_quiet_op
                refine ⟨.slice (some ⟨A, 0, none⟩) n c, fun w' hw' => ?_, ?_⟩
                · have q := hw'.out.ib.box.cell 1
                  simp at q
                  simp [go_sem, q]
                go_big_quiet_on
                repeat (first | go_big_quiet_skip | (go_big_quiet_want; go_big_quiet_op; first | go_big_quiet_on | (refine ⟨_, fun _ _ => rfl, ?_⟩; go_big_quiet_on)))
                go_big_quiet_want
                go_big_quiet_op
                refine ⟨.agg #[.int .i64 y.say, .int .i64 y.ask, .int .i64 y.tell], fun w' hw' => ?_, ?_⟩
                · obtain ⟨_, _, q2, q3, q4⟩ := nts_at hw'.out.nt (j := j) (by rw [HN.out]; omega)
                  rw [HYK.out] at q2 q3 q4
                  simp [go_sem, q2, q3, q4]
                go_big_quiet_on
                repeat (first | go_big_quiet_skip | (go_big_quiet_want; go_big_quiet_op; first | go_big_quiet_on | (refine ⟨_, fun _ _ => rfl, ?_⟩; go_big_quiet_on)))
                go_big_quiet_want
                go_big_quiet_op
                refine ⟨.slice (some ⟨A, 0, none⟩) n c, fun w' hw' => ?_, ?_⟩
                · have q := hw'.out.ib.box.cell 1
                  simp at q
                  simp [go_sem, q]
                go_big_quiet_on
                repeat (first | go_big_quiet_skip | (go_big_quiet_want; go_big_quiet_op; first | go_big_quiet_on | (refine ⟨_, fun _ _ => rfl, ?_⟩; go_big_quiet_on)))
                go_big_quiet_want
                go_big_quiet_op
                refine ⟨.agg #[.int .i64 x.say, .int .i64 x.ask, .int .i64 x.tell], fun w' hw' => ?_, ?_⟩
                · obtain ⟨_, _, q2, q3, q4⟩ := nts_at hw'.out.nt (j := k) (by rw [HN.out]; omega)
                  rw [HXK.out] at q2 q3 q4
                  simp [go_sem, q2, q3, q4]
                go_big_quiet_on
                repeat (first | go_big_quiet_skip | (go_big_quiet_want; go_big_quiet_op; first | go_big_quiet_on | (refine ⟨_, fun _ _ => rfl, ?_⟩; go_big_quiet_on)))
                go_big_quiet_want
                go_big_quiet_op
                go_big_quiet_call ((intro hw; exact (ssec_yes g key y.say y.ask y.tell x.say x.ask x.tell _ (by rw [sec_prS' (HT.out k hlt HXK.out HOX.out) (HT.out j (by omega) HYK.out HOY.out)]; exact HPR.out)).mono fun _ _ ⟨he, hb⟩ => ⟨he, Ls.on hw hb⟩))
                repeat (first | go_big_quiet_skip | (go_big_quiet_want; go_big_quiet_op; first | go_big_quiet_on | (refine ⟨_, fun _ _ => rfl, ?_⟩; go_big_quiet_on)))
                refine wpQuiet_nil ?_
                intro w6 hw6
                clear HD MJ
                have HV := Lib.hid (HSV.out k j hlt (by omega) HXK.out HYK.out HOX.out HOY.out HPR.out)
                have HTR := Lib.hid (HYES.out k j hlt (by omega) HXK.out HYK.out HOX.out HOY.out HPR.out)
                go_wp2
                go_ret2
                exact ⟨by rw [HV.out, HTR.out]; rfl, hw6.out.ib.fin⟩
            · have HOY := Lib.hid hoy
              have hyd : (y.on != (on : Int)) = true := by simp [hoy]
              clear hoy
              have Q6 := Lib.hid (hq.out.succ (fun h1 h2 => by first | (rw [HXK.out] at h1; exact absurd h1 HOY.out) | (rw [HYK.out] at h2; exact absurd h2 HOY.out)))
              clear hq
              go_wp2
              go_roundw
              case rel => exact ⟨j + 1, by omega, by go_num, Q6, MJ⟩
              case measure => simp [intOf]; omega
          · have HOX := Lib.hid hox
            have hxd : (x.on != (on : Int)) = true := by simp [hox]
            clear hox
            have Q6 := Lib.hid (hq.out.succ (fun h1 h2 => by first | (rw [HXK.out] at h1; exact absurd h1 HOX.out) | (rw [HYK.out] at h2; exact absurd h2 HOX.out)))
            clear hq
            go_wp2
            go_roundw
            case rel => exact ⟨j + 1, by omega, by go_num, Q6, MJ⟩
            case measure => simp [intOf]; omega
        · obtain rfl : j = k := by omega
          have P5 := Lib.hid (hp.out.succ hq.out)
          clear hp hq
          go_wp2
          go_roundw
          case rel => exact ⟨j + 1, by omega, by go_num, P5, MJ⟩
          case measure => simp [intOf]; omega
    · obtain rfl : k = n := by omega
      have HF := Lib.hid (HNO.out hp.out)
      have HV := Lib.hid (lek_no HF.out)
      go_wp2
      go_ret2
      exact ⟨by rw [HV.out, HF.out]; rfl, M.out.ib.fin⟩
theorem slk_any (g : Int) (v : Value) (ns : List Nt) (on : Int) (w : World) (h : Nts w v ns) (hl : ns.length ≤ 2000000) : Calls Tryd.prog 21 #[.agg #[.int .i64 g, v], .int .i64 on] w fun e w' => e = .returned (.tuple #[.int .i64 (lekV g ns on), .bool (lekB g ns on)]) ∧ Below w.heap.size w w' := by
  cases hk : onOk g ns on
  · rw [lek_no (lek_notOk hk), lek_notOk hk]; exact slk_no g v ns on w h hl hk
  · obtain ⟨_, h0, _⟩ := onOk_true.1 hk
    obtain ⟨q, rfl⟩ : ∃ q : Nat, on = q := ⟨on.toNat, by omega⟩
    exact slk_yes g v ns q w h hl hk
end Go.Proofs.YtiinifcepcaonaaDoor
