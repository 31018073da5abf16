/- spec: KeysOn, LeakOf. -/
import Derived.Test.YtiinifcepcaonaaDoorBrdS
import Derived.Test.YtiinifcepcaonaaDoorPurL
namespace Go.Proofs.YtiinifcepcaonaaDoor
open Go.RowKit

theorem skon_any (g : Int) (v : Value) (ns : List Nt) (w : World) (h : Nts w v ns) (hl : ns.length ≤ 2000000) : Calls Tryd.prog 15 #[.agg #[.int .i64 g, v]] w fun e w' => ∃ u, e = .returned u ∧ Own w' w.heap.size u (konL g ns) ∧ Below w.heap.size w w' := by
  obtain ⟨a, c, rfl, _⟩ := h.opened
  obtain ⟨n, hn⟩ : ∃ n, ns.length = n := ⟨_, rfl⟩
  rw [hn] at h ⊢
  have H := Lib.hid h
  have HL := Lib.hid hl
  have I0 := Lib.hid (InB.start w [.int .i64 g, .slice a n c] 29)
  clear h hl hn
  cases hb : brdB g ns
  · have HB := Lib.hid hb
    have HX := Lib.hid (konL_no hb)
    clear hb
    go_enter Tryd.func15, Tryd.ntmps15
    go_wp2_with fail
    refine (sbrd_any g _ ns _ (H.out.on I0.out.fin) HL.out).mono ?_
    rintro e w1 ⟨rfl, hb1⟩
    rw [HB.out]
    have I1 := Lib.hid (I0.out.on hb1)
    have O1 := Lib.hid (own_made' w1)
    have B1 := Lib.hid (below_grow w1 (.cells #[] 3))
    clear hb1
    go_wp2
    go_ret
    exact ⟨_, rfl, by rw [HX.out]; exact own_mono O1.out (by have := I1.out.size; omega), (I1.out.on B1.out).fin⟩
  · have HB := Lib.hid hb
    have HX := Lib.hid (konL_yes hb)
    clear hb
    go_enter Tryd.func15, Tryd.ntmps15
    go_wp2_with fail
    refine (sbrd_any g _ ns _ (H.out.on I0.out.fin) HL.out).mono ?_
    rintro e w1 ⟨rfl, hb1⟩
    rw [HB.out]
    have I1 := Lib.hid (I0.out.on hb1)
    have p0 := I1.out.box.cell 0
    have p1 := I1.out.box.cell 1
    simp at p0 p1
    clear hb1
    go_wp2_with fail
    refine (skeys_any g _ ns _ (H.out.on I1.out.fin) HL.out).mono ?_
    rintro e w2 ⟨u, rfl, ou, hb2⟩
    have OU := Lib.hid (own_mono ou (Nat.le_trans (Nat.le_succ _) I1.out.size))
    have I2 := Lib.hid (I1.out.on hb2)
    obtain ⟨ua, uc, hu⟩ := Own.form ou
    subst hu
    clear hb2 ou p0 p1
    go_wp2
    go_ret
    exact ⟨_, rfl, by rw [HX.out]; exact OU.out, I2.out.fin⟩

/-- Behind KeysOn: the board's box, its notes, its elements. -/
structure Ls (w : World) (P : List Value) (v : Value) (ns : List Nt) (u : Value) (xs : List Int) (w' : World) : Prop where
  ib : InB w P 29 w'
  nt : Nts w' v ns
  ks : Ints w' u xs
theorem Ls.on {w w1 w2 : World} {P : List Value} {v u : Value} {ns : List Nt} {xs : List Int} (h : Hid (Ls w P v ns u xs w1)) (hb : Below w1.heap.size w1 w2) : Hid (Ls w P v ns u xs w2) := Lib.hid ⟨h.out.ib.on hb, h.out.nt.on hb, h.out.ks.below hb⟩
theorem nts_at {w : World} {g n c : Nat} {T : List Nt} (h : Nts w (.slice (some ⟨g, 0, none⟩) n c) T) {j : Nat} (hj : j < T.length) : NtAt w g j (nthN T j) := by
  obtain ⟨a, c', e, k⟩ := h.opened
  obtain ⟨G, e', _, q⟩ := k.get j hj
  cases e; cases e'; exact q
theorem sec_prS' {g key : Int} {x y : Nt} (h1 : tokB g key x.say x.ask x.tell = true) (h2 : tokB g key y.say y.ask y.tell = true) : secB g key y.say y.ask y.tell x.say x.ask x.tell = prS x y := by
  rw [prS_symm]; unfold secB prS; rw [h1, h2]; simp
set_option maxRecDepth 20000 in
theorem slk_no (g : Int) (v : Value) (ns : List Nt) (on : Int) (w : World) (h : Nts w v ns) (hl : ns.length ≤ 2000000) (hk : onOk g ns on = false) : Calls Tryd.prog 21 #[.agg #[.int .i64 g, v], .int .i64 on] w fun e w' => e = .returned (.tuple #[.int .i64 (-1), .bool false]) ∧ Below w.heap.size w w' := by
  obtain ⟨a, c, rfl, _⟩ := h.opened
  obtain ⟨n, hn⟩ : ∃ n, ns.length = n := ⟨_, rfl⟩
  rw [hn] at h ⊢
  have H := Lib.hid h
  have HL := Lib.hid hl
  have I0 := Lib.hid (InB.start w [.int .i64 g, .slice a n c] 29)
  obtain ⟨m, hm⟩ : ∃ m, (konL g ns).length = m := ⟨_, rfl⟩
  have hmb : m ≤ 12 := by rw [← hm]; exact konL_len g ns
  have HM := Lib.hid hm
  have hwm : IntKind.i64.wrap ((m : Int) - 1) = (m : Int) - 1 := IntWalk.i64_in _ (by omega)
  have HIN : Hid ((decide ((0 : Int) ≤ on) && decide (on ≤ (m : Int) - 1)) = false) := Lib.hid (by
    cases hb : brdB g ns
    · rw [konL_no hb] at hm
      have hm0 : m = 0 := by rw [← hm]; rfl
      rw [hm0, Bool.and_eq_false_iff]
      by_cases h0 : 0 ≤ on
      · right; simp; omega
      · left; simp; omega
    · rw [konL_yes hb] at hm
      unfold onOk at hk
      rw [hb, hm] at hk
      rw [← hk]
      simp only [Bool.true_and]
      congr 1
      rw [Bool.eq_iff_iff, decide_eq_true_iff, decide_eq_true_iff]; omega)
  clear h hl hn hk hm
  go_enter Tryd.func21, Tryd.ntmps21
  go_wp2_with fail
  refine (skon_any g _ ns _ (H.out.on I0.out.fin) HL.out).mono ?_
  rintro e w1 ⟨u, rfl, ou, hb1⟩
  obtain ⟨ua, uc, hu⟩ := Own.form ou
  rw [HM.out] at hu
  subst hu
  have I1 := Lib.hid (I0.out.on hb1)
  clear hb1 ou
  go_wp2_with fail
  refine (l1In_at HIN.out _).mono ?_
  rintro e w2 ⟨rfl, rfl⟩
  go_wp2
  go_ret2
  exact ⟨rfl, I1.out.fin⟩
set_option maxRecDepth 20000 in
set_option maxHeartbeats 6400000 in
theorem slk_yes (g : Int) (v : Value) (ns : List Nt) (on : Nat) (w : World) (h : Nts w v ns) (hl : ns.length ≤ 2000000) (hk : onOk g ns on = true) : Calls Tryd.prog 21 #[.agg #[.int .i64 g, v], .int .i64 on] w fun e w' => e = .returned (.tuple #[.int .i64 (lekV g ns on), .bool (lekB g ns on)]) ∧ Below w.heap.size w w' := by
  obtain ⟨a, c, rfl, k1⟩ := h.opened
  have hmax := k1.max
  unfold maxLen at hmax
  obtain ⟨n, hn⟩ : ∃ n, ns.length = n := ⟨_, rfl⟩
  rw [hn] at h hmax ⊢
  have H := Lib.hid h
  have HL := Lib.hid hl
  have HN := Lib.hid hn
  have I0 := Lib.hid (InB.start w [.int .i64 g, .slice a n c] 29)
  obtain ⟨hb, h0, h1⟩ := onOk_true.1 hk
  have HX := Lib.hid (konL_yes hb)
  obtain ⟨m, hm⟩ : ∃ m, (keysN ns).length = m := ⟨_, rfl⟩
  rw [hm] at h1
  have hom : on < m := by omega
  have hmb : m ≤ 12 := by rw [← hm]; exact Nat.le_trans (keysN_len ns) (brd_true.1 hb).2.1
  have HM := Lib.hid hm
  have hwm : IntKind.i64.wrap ((m : Int) - 1) = (m : Int) - 1 := IntWalk.i64_in _ (by omega)
  have HIN : Hid ((decide ((0 : Int) ≤ (on : Int)) && decide ((on : Int) ≤ (m : Int) - 1)) = true) := Lib.hid (by simp; omega)
  obtain ⟨key, hkey⟩ : ∃ key, nth (keysN ns) on = key := ⟨_, rfl⟩
  have HKEY := Lib.hid hkey
  have HT : Hid (∀ k, k < n → ∀ {x : Nt}, nthN ns k = x → x.on = (on : Int) → tokB g key x.say x.ask x.tell = true) := Lib.hid (fun k hk x hx ho => by
    have := brd_on hb h0 (by rw [hn]; exact hk) (by rw [hx]; exact ho)
    rw [hx, show (on : Int).toNat = on by omega, hkey] at this; exact this)
  have HYES : Hid (∀ k j, k < n → j < n → ∀ {x y : Nt}, nthN ns k = x → nthN ns j = y → x.on = (on : Int) → y.on = (on : Int) → prS x y = true → lekB g ns on = true) := Lib.hid (fun k j hk' hj x y hx hy ox oy hp => by
    rw [lek_ok hk]; exact two_onHit (by rw [hn]; exact hk') (by rw [hn]; exact hj) (by rw [hx]; exact ox) (by rw [hy]; exact oy) (by rw [hx, hy]; exact hp))
  have HSV : Hid (∀ k j, k < n → j < n → ∀ {x y : Nt}, nthN ns k = x → nthN ns j = y → x.on = (on : Int) → y.on = (on : Int) → prS x y = true → lekV g ns on = secretOf g y.ask y.tell x.ask x.tell) := Lib.hid (fun k j hk' hj x y hx hy ox oy hp => by
    have t1 := HT.out k hk' hx ox
    have t2 := HT.out j hj hy oy
    obtain ⟨e1, e2⟩ := prS_of hp
    rw [lek_yes (HYES.out k j hk' hj hx hy ox oy hp), show (on : Int).toNat = on by omega, hkey]
    rw [e1] at t1
    exact (secret_log t2 t1 (fun e => e2 e.symm)).symm)
  have HNO : Hid (NoR on ns n → lekB g ns on = false) := Lib.hid (fun hp => by rw [lek_ok hk]; exact two_onMiss (by rw [hn]; exact hp))
  have HA : Hid (∀ k, k < n → ∃ A, a = some ⟨A, 0, none⟩) := Lib.hid (fun k hk => by
    obtain ⟨A, E, _, _⟩ := k1.get k (by rw [hn]; exact hk)
    exact ⟨A, E⟩)
  clear h hl hn hb h0 h1 hk hkey hm k1
  go_enter Tryd.func21, Tryd.ntmps21
  go_wp2_with fail
  refine (skon_any g _ ns _ (H.out.on I0.out.fin) HL.out).mono ?_
  rintro e w1 ⟨u, rfl, ou, hb1⟩
  rw [HX.out] at ou
  obtain ⟨ua, uc, hu, hc9⟩ := (Ints.of_own ou (by rw [HM.out]; unfold maxLen; omega)).opened
  rw [HM.out] at hu
  subst hu
  obtain ⟨ga, rfl, _, _⟩ := hc9.get on (by rw [HM.out]; exact hom)
  have M1 : Hid (Ls w [.int .i64 g, .slice a n c] (.slice a n c) ns (.slice (some ⟨ga, 0, none⟩) m uc) (keysN ns) w1) := Lib.hid ⟨I0.out.on hb1, (H.out.on I0.out.fin).on hb1, Ints.of_own ou (by rw [HM.out]; unfold maxLen; omega)⟩
  clear hb1 ou hc9
  go_wp2_with fail
  refine (l1In_at HIN.out _).mono ?_
  rintro e w2 ⟨rfl, rfl⟩
  go_wp2
  go_loopw [7] (fun i wr => ∃ k : Nat, k ≤ n ∧ i = .int .i64 k ∧ Hid (NoR on ns k) ∧ Hid (Ls w [.int .i64 g, .slice a n c] (.slice a n c) ns (.slice (some ⟨ga, 0, none⟩) m uc) (keysN ns) wr)) (fun i _ => n - (intOf i).toNat)
  case atStart => exact ⟨0, by omega, rfl, Lib.hid (NoR.zero _ _), M1⟩
  case round =>
    obtain ⟨k, hkn, rfl, hp, M⟩ := hrel
    obtain ⟨wo, rfl⟩ : ∃ wo : World, wo = wr := ⟨_, rfl⟩
    have p0 := M.out.ib.box.cell 0
    have p1 := M.out.ib.box.cell 1
    simp at p0 p1
    by_cases hlt : k < n
    · obtain ⟨A, rfl⟩ := HA.out k hlt
      obtain ⟨x, hx⟩ : ∃ x, nthN ns k = x := ⟨_, rfl⟩
      have HXK := Lib.hid hx
      have hlt1 : (k : Int) < (n : Int) := by omega
      clear hx
      go_wp2
      clear p0 p1
      go_loopw [8] (fun i wi => ∃ j : Nat, j ≤ k ∧ i = .int .i64 j ∧ Hid (NoT on ns k j) ∧ Hid (Ls w [.int .i64 g, .slice (some ⟨A, 0, none⟩) n c] (.slice (some ⟨A, 0, none⟩) n c) ns (.slice (some ⟨ga, 0, none⟩) m uc) (keysN ns) wi)) (fun i _ => k - (intOf i).toNat)
      case atStart => exact ⟨0, by omega, rfl, Lib.hid (NoT.zero _ _ _), M⟩
      case round =>
        obtain ⟨j, hjk, rfl, hq, MJ⟩ := hrel
        obtain ⟨wp, rfl⟩ : ∃ wp : World, wp = wr := ⟨_, rfl⟩
        have p0 := MJ.out.ib.box.cell 0
        have p1 := MJ.out.ib.box.cell 1
        simp at p0 p1
        by_cases hlj : j < k
        · have q := nts_at MJ.out.nt (j := j) (by rw [HN.out]; omega)
          have q' := nts_at MJ.out.nt (j := k) (by rw [HN.out]; omega)
          obtain ⟨y, hy⟩ : ∃ y, nthN ns j = y := ⟨_, rfl⟩
          rw [hy] at q
          rw [HXK.out] at q'
          have HYK := Lib.hid hy
          obtain ⟨c0, c1, c2, c3, c4⟩ := q
          obtain ⟨d0, d1, d2, d3, d4⟩ := q'
          have hlj1 : (j : Int) < (k : Int) := by omega
          have hjn : j < n := by omega
          have hjn1 : (j : Int) < (n : Int) := by omega
          clear hy
          by_cases hox : x.on = (on : Int)
          · have HOX := Lib.hid hox
            have hxd : (x.on != (on : Int)) = false := by simp [hox]
            clear hox
            by_cases hoy : y.on = (on : Int)
            · have HOY := Lib.hid hoy
              have hyd : (y.on != (on : Int)) = false := by simp [hoy]
              clear hoy
              cases hpr : prS x y
              · skip
                have HPR := Lib.hid hpr
                clear hpr
                have HD : Hid (Ls w [.int .i64 g, .slice (some ⟨A, 0, none⟩) n c] (.slice (some ⟨A, 0, none⟩) n c) ns (.slice (some ⟨ga, 0, none⟩) m uc) (keysN ns) wp.drew) := Ls.on MJ (Below.refl _ _).drew
                go_upto_region 11 with (fail)
                clear c0 c1 c2 c3 c4 d0 d1 d2 d3 d4 p0 p1
                go_wp2_with fail
                refine wp_region_class (C := fun w' => Hid (Ls w [.int .i64 g, .slice (some ⟨A, 0, none⟩) n c] (.slice (some ⟨A, 0, none⟩) n c) ns (.slice (some ⟨ga, 0, none⟩) m uc) (keysN ns) w')) (by kernel_rfl) (by kernel_rfl) HD ?_
                repeat (first | go_big_quiet_skip | (go_big_quiet_want; go_big_quiet_op; first | go_big_quiet_on | (refine ⟨_, fun _ _ => rfl, ?_⟩; go_big_quiet_on)))
                go_big_quiet_want
                go_big_quiet_op
                refine ⟨.int .i64 g, fun w' hw' => ?_, ?_⟩
                · have q := hw'.out.ib.box.cell 0
                  simp at q
                  simp [go_sem, q]
                go_big_quiet_on
                repeat (first | go_big_quiet_skip | (go_big_quiet_want; go_big_quiet_op; first | go_big_quiet_on | (refine ⟨_, fun _ _ => rfl, ?_⟩; go_big_quiet_on)))
                go_big_quiet_want
                go_big_quiet_op
                refine ⟨.int .i64 key, fun w' hw' => ?_, ?_⟩
                · have q := ints_cell hw'.out.ks (j := on) (by rw [HM.out]; omega)
                  rw [HKEY.out] at q
                  simp [go_sem, q]
                go_big_quiet_on
                repeat (first | go_big_quiet_skip | (go_big_quiet_want; go_big_quiet_op; first | go_big_quiet_on | (refine ⟨_, fun _ _ => rfl, ?_⟩; go_big_quiet_on)))
                go_big_quiet_want
                go_big_quiet_op
                refine ⟨.slice (some ⟨A, 0, none⟩) n c, fun w' hw' => ?_, ?_⟩
                · have q := hw'.out.ib.box.cell 1
                  simp at q
                  simp [go_sem, q]
                go_big_quiet_on
                repeat (first | go_big_quiet_skip | (go_big_quiet_want; go_big_quiet_op; first | go_big_quiet_on | (refine ⟨_, fun _ _ => rfl, ?_⟩; go_big_quiet_on)))
                go_big_quiet_want
                go_big_quiet_op
                refine ⟨.agg #[.int .i64 y.say, .int .i64 y.ask, .int .i64 y.tell], fun w' hw' => ?_, ?_⟩
                · obtain ⟨_, _, q2, q3, q4⟩ := nts_at hw'.out.nt (j := j) (by rw [HN.out]; omega)
                  rw [HYK.out] at q2 q3 q4
                  simp [go_sem, q2, q3, q4]
                go_big_quiet_on
                repeat (first | go_big_quiet_skip | (go_big_quiet_want; go_big_quiet_op; first | go_big_quiet_on | (refine ⟨_, fun _ _ => rfl, ?_⟩; go_big_quiet_on)))
                go_big_quiet_want
                go_big_quiet_op
                refine ⟨.slice (some ⟨A, 0, none⟩) n c, fun w' hw' => ?_, ?_⟩
                · have q := hw'.out.ib.box.cell 1
                  simp at q
                  simp [go_sem, q]
                go_big_quiet_on
                repeat (first | go_big_quiet_skip | (go_big_quiet_want; go_big_quiet_op; first | go_big_quiet_on | (refine ⟨_, fun _ _ => rfl, ?_⟩; go_big_quiet_on)))
                go_big_quiet_want
                go_big_quiet_op
                refine ⟨.agg #[.int .i64 x.say, .int .i64 x.ask, .int .i64 x.tell], fun w' hw' => ?_, ?_⟩
                · obtain ⟨_, _, q2, q3, q4⟩ := nts_at hw'.out.nt (j := k) (by rw [HN.out]; omega)
                  rw [HXK.out] at q2 q3 q4
                  simp [go_sem, q2, q3, q4]
                go_big_quiet_on
                repeat (first | go_big_quiet_skip | (go_big_quiet_want; go_big_quiet_op; first | go_big_quiet_on | (refine ⟨_, fun _ _ => rfl, ?_⟩; go_big_quiet_on)))
                go_big_quiet_want
                go_big_quiet_op
                go_big_quiet_call ((intro hw; exact (ssec_no g key y.say y.ask y.tell x.say x.ask x.tell _ (by rw [sec_prS' (HT.out k hlt HXK.out HOX.out) (HT.out j (by omega) HYK.out HOY.out)]; exact HPR.out)).mono fun _ _ ⟨he, hb⟩ => ⟨he, Ls.on hw hb⟩))
                repeat (first | go_big_quiet_skip | (go_big_quiet_want; go_big_quiet_op; first | go_big_quiet_on | (refine ⟨_, fun _ _ => rfl, ?_⟩; go_big_quiet_on)))
                refine wpQuiet_nil ?_
                intro w6 hw6
                clear HD MJ
                have Q6 := Lib.hid (hq.out.succ (fun _ _ => by rw [HXK.out, HYK.out]; exact HPR.out))
                clear hq
                go_wp2
                go_roundw
                case rel => exact ⟨j + 1, by omega, by go_num, Q6, hw6⟩
                case measure => simp [intOf]; omega
              · skip
                have HPR := Lib.hid hpr
                clear hpr
                have HD : Hid (Ls w [.int .i64 g, .slice (some ⟨A, 0, none⟩) n c] (.slice (some ⟨A, 0, none⟩) n c) ns (.slice (some ⟨ga, 0, none⟩) m uc) (keysN ns) wp.drew) := Ls.on MJ (Below.refl _ _).drew
                go_upto_region 11 with (fail)
                clear c0 c1 c2 c3 c4 d0 d1 d2 d3 d4 p0 p1
                go_wp2_with fail
                refine wp_region_class (C := fun w' => Hid (Ls w [.int .i64 g, .slice (some ⟨A, 0, none⟩) n c] (.slice (some ⟨A, 0, none⟩) n c) ns (.slice (some ⟨ga, 0, none⟩) m uc) (keysN ns) w')) (by kernel_rfl) (by kernel_rfl) HD ?_
                repeat (first | go_big_quiet_skip | (go_big_quiet_want; go_big_quiet_op; first | go_big_quiet_on | (refine ⟨_, fun _ _ => rfl, ?_⟩; go_big_quiet_on)))
                go_big_quiet_want
                go_big_quiet_op
                refine ⟨.int .i64 g, fun w' hw' => ?_, ?_⟩
                · have q := hw'.out.ib.box.cell 0
                  simp at q
                  simp [go_sem, q]
                go_big_quiet_on
                repeat (first | go_big_quiet_skip | (go_big_quiet_want; go_big_quiet_op; first | go_big_quiet_on | (refine ⟨_, fun _ _ => rfl, ?_⟩; go_big_quiet_on)))
                go_big_quiet_want
                go_big_quiet_op
                refine ⟨.int .i64 key, fun w' hw' => ?_, ?_⟩
                · have q := ints_cell hw'.out.ks (j := on) (by rw [HM.out]; omega)
                  rw [HKEY.out] at q
                  simp [go_sem, q]
                go_big_quiet_on
                repeat (first | go_big_quiet_skip | (go_big_quiet_want; go_big_quiet_op; first | go_big_quiet_on | (refine ⟨_, fun _ _ => rfl, ?_⟩; go_big_quiet_on)))
                go_big_quiet_want
                go_big_quiet_op
                refine ⟨.slice (some ⟨A, 0, none⟩) n c, fun w' hw' => ?_, ?_⟩
                · have q := hw'.out.ib.box.cell 1
                  simp at q
                  simp [go_sem, q]
                go_big_quiet_on
                repeat (first | go_big_quiet_skip | (go_big_quiet_want; go_big_quiet_op; first | go_big_quiet_on | (refine ⟨_, fun _ _ => rfl, ?_⟩; go_big_quiet_on)))
                go_big_quiet_want
                go_big_quiet_op
                refine ⟨.agg #[.int .i64 y.say, .int .i64 y.ask, .int .i64 y.tell], fun w' hw' => ?_, ?_⟩
                · obtain ⟨_, _, q2, q3, q4⟩ := nts_at hw'.out.nt (j := j) (by rw [HN.out]; omega)
                  rw [HYK.out] at q2 q3 q4
                  simp [go_sem, q2, q3, q4]
                go_big_quiet_on
                repeat (first | go_big_quiet_skip | (go_big_quiet_want; go_big_quiet_op; first | go_big_quiet_on | (refine ⟨_, fun _ _ => rfl, ?_⟩; go_big_quiet_on)))
                go_big_quiet_want
                go_big_quiet_op
                refine ⟨.slice (some ⟨A, 0, none⟩) n c, fun w' hw' => ?_, ?_⟩
                · have q := hw'.out.ib.box.cell 1
                  simp at q
                  simp [go_sem, q]
                go_big_quiet_on
                repeat (first | go_big_quiet_skip | (go_big_quiet_want; go_big_quiet_op; first | go_big_quiet_on | (refine ⟨_, fun _ _ => rfl, ?_⟩; go_big_quiet_on)))
                go_big_quiet_want
                go_big_quiet_op
                refine ⟨.agg #[.int .i64 x.say, .int .i64 x.ask, .int .i64 x.tell], fun w' hw' => ?_, ?_⟩
                · obtain ⟨_, _, q2, q3, q4⟩ := nts_at hw'.out.nt (j := k) (by rw [HN.out]; omega)
                  rw [HXK.out] at q2 q3 q4
                  simp [go_sem, q2, q3, q4]
                go_big_quiet_on
                repeat (first | go_big_quiet_skip | (go_big_quiet_want; go_big_quiet_op; first | go_big_quiet_on | (refine ⟨_, fun _ _ => rfl, ?_⟩; go_big_quiet_on)))
                go_big_quiet_want
                go_big_quiet_op
                go_big_quiet_call ((intro hw; exact (ssec_yes g key y.say y.ask y.tell x.say x.ask x.tell _ (by rw [sec_prS' (HT.out k hlt HXK.out HOX.out) (HT.out j (by omega) HYK.out HOY.out)]; exact HPR.out)).mono fun _ _ ⟨he, hb⟩ => ⟨he, Ls.on hw hb⟩))
                repeat (first | go_big_quiet_skip | (go_big_quiet_want; go_big_quiet_op; first | go_big_quiet_on | (refine ⟨_, fun _ _ => rfl, ?_⟩; go_big_quiet_on)))
                refine wpQuiet_nil ?_
                intro w6 hw6
                clear HD MJ
                have HV := Lib.hid (HSV.out k j hlt (by omega) HXK.out HYK.out HOX.out HOY.out HPR.out)
                have HTR := Lib.hid (HYES.out k j hlt (by omega) HXK.out HYK.out HOX.out HOY.out HPR.out)
                go_wp2
                go_ret2
                exact ⟨by rw [HV.out, HTR.out]; rfl, hw6.out.ib.fin⟩
            · have HOY := Lib.hid hoy
              have hyd : (y.on != (on : Int)) = true := by simp [hoy]
              clear hoy
              have Q6 := Lib.hid (hq.out.succ (fun h1 h2 => by first | (rw [HXK.out] at h1; exact absurd h1 HOY.out) | (rw [HYK.out] at h2; exact absurd h2 HOY.out)))
              clear hq
              go_wp2
              go_roundw
              case rel => exact ⟨j + 1, by omega, by go_num, Q6, MJ⟩
              case measure => simp [intOf]; omega
          · have HOX := Lib.hid hox
            have hxd : (x.on != (on : Int)) = true := by simp [hox]
            clear hox
            have Q6 := Lib.hid (hq.out.succ (fun h1 h2 => by first | (rw [HXK.out] at h1; exact absurd h1 HOX.out) | (rw [HYK.out] at h2; exact absurd h2 HOX.out)))
            clear hq
            go_wp2
            go_roundw
            case rel => exact ⟨j + 1, by omega, by go_num, Q6, MJ⟩
            case measure => simp [intOf]; omega
        · obtain rfl : j = k := by omega
          have P5 := Lib.hid (hp.out.succ hq.out)
          clear hp hq
          go_wp2
          go_roundw
          case rel => exact ⟨j + 1, by omega, by go_num, P5, MJ⟩
          case measure => simp [intOf]; omega
    · obtain rfl : k = n := by omega
      have HF := Lib.hid (HNO.out hp.out)
      have HV := Lib.hid (lek_no HF.out)
      go_wp2
      go_ret2
      exact ⟨by rw [HV.out, HF.out]; rfl, M.out.ib.fin⟩
theorem slk_any (g : Int) (v : Value) (ns : List Nt) (on : Int) (w : World) (h : Nts w v ns) (hl : ns.length ≤ 2000000) : Calls Tryd.prog 21 #[.agg #[.int .i64 g, v], .int .i64 on] w fun e w' => e = .returned (.tuple #[.int .i64 (lekV g ns on), .bool (lekB g ns on)]) ∧ Below w.heap.size w w' := by
  cases hk : onOk g ns on
  · rw [lek_no (lek_notOk hk), lek_notOk hk]; exact slk_no g v ns on w h hl hk
  · obtain ⟨_, h0, _⟩ := onOk_true.1 hk
    obtain ⟨q, rfl⟩ : ∃ q : Nat, on = q := ⟨on.toNat, by omega⟩
    exact slk_yes g v ns q w h hl hk
end Go.Proofs.YtiinifcepcaonaaDoor
