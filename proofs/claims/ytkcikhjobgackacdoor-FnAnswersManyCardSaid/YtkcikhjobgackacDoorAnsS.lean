/- spec.AnswersMany. -/
import Derived.Test.YtkcikhjobgackacDoorAllS
import Derived.Test.YtkcikhjobgackacDoorClS
import Derived.Test.YtkcikhjobgackacDoorWokS
import Derived.Test.YtkcikhjobgackacDoorAnsI
namespace Go.Proofs.YtkcikhjobgackacDoor
open Go.RowKit

theorem ansM_is {g : Int} {rows : List (List Int)} {makes says : List Int} (h : saysB g rows makes says = true) :
    ansM g rows makes says = (ansTo (fun a => anyTo (fun k => wokB g rows makes says a (row (lots (ord g).toNat (unk rows)) k)) (lots (ord g).toNat (unk rows)).length) (ord g).toNat : Int) := by unfold ansM; rw [if_pos h]

set_option maxHeartbeats 6400000 in
theorem sans_any (g : Int) (rv mv sv : Value) (rows : List (List Int)) (makes says : List Int) (w : World) (h : Cw w rv mv rows makes) (hs : Ints w sv says) :
    Calls Tryd.prog 13 #[.agg #[.int .i64 g, rv, mv], sv] w fun e w' => e = .returned (.int .i64 (ansM g rows makes says)) ∧ Below w.heap.size w w' := by
  have HH := Lib.hid h
  have HSV := Lib.hid hs
  obtain ⟨ra, rc, rfl, k1⟩ := h.rows.opened
  obtain ⟨sa, sc, rfl, k3⟩ := hs.opened
  have hm1 := k1.max
  have hm3 := k3.max
  obtain ⟨r, hr⟩ : ∃ r, rows.length = r := ⟨_, rfl⟩
  obtain ⟨l, hl⟩ : ∃ l, says.length = l := ⟨_, rfl⟩
  have HSY := Lib.hid (show ∀ k, k < l → ∃ M, sa = some ⟨M, 0, none⟩ ∧ ∀ w', Below w.heap.size w w' → w'.cell? ⟨M, k, none⟩ = some (.int .i64 (nth says k)) from fun k hk => by
    obtain ⟨M, e1, h2, e2⟩ := k3.get k (by rw [hl]; exact hk)
    exact ⟨M, e1, fun w' hb => (hb.cell (p := ⟨M, k, none⟩) h2).trans e2⟩)
  have HX0 := Lib.hid (show clB g rows makes = false → ansM g rows makes says = -1 from fun hc => ansM_no (by unfold saysB; rw [hc]; rfl))
  have HXN := Lib.hid (show l ≠ r → ansM g rows makes says = -1 from fun hne => ansM_no (by unfold saysB; rw [hl, hr]; simp [hne]))
  have HXE := Lib.hid (show ∀ k, k < l → elB g (nth says k) = false → ansM g rows makes says = -1 from fun k hk he => ansM_no (by
    have := allEl_no (show k < says.length by rw [hl]; exact hk) he
    unfold saysB; rw [this]; simp))
  have HXY := Lib.hid (show clB g rows makes = true → l = r → (∀ k, k < l → elB g (nth says k) = true) → ansM g rows makes says = _ from fun hc he hel => ansM_is (by
    unfold saysB; rw [hc, hl, hr, allEl_yes (fun j hj => hel j (by rw [← hl]; exact hj))]; simp [he]))
  rw [hr] at hm1 HH ⊢
  rw [hl] at hm3 HSV ⊢
  unfold maxLen at hm1 hm3
  have I0 := Lib.hid (InB.start w [.int .i64 g, .slice ra r rc, mv] 26)
  have p0 := I0.out.box.cell 0
  have p1 := I0.out.box.cell 1
  have p2 := I0.out.box.cell 2
  simp at p0 p1 p2
  clear h hs k1 k3 hr hl
  cases hc : clB g rows makes
  · have HX := Lib.hid (HX0.out hc)
    go_enter Tryd.func13, Tryd.ntmps13
    go_wp2_with fail
    refine (sclaim_any g _ mv rows makes _ (HH.out.on I0.out.fin)).mono ?_
    rintro e w1 ⟨rfl, hb1⟩
    rw [hc]
    have I1 := Lib.hid (I0.out.on hb1)
    clear hb1 p0 p1 p2
    go_wp2
    go_ret
    exact ⟨by rw [HX.out]; rfl, I1.out.fin⟩
  have hcl := clB_true.1 hc
  have HCL := Lib.hid hcl
  by_cases hlu : l = r
  case neg =>
    have HX := Lib.hid (HXN.out hlu)
    have hq : ((l : Int) != (r : Int)) = true := by rw [bne_iff_ne]; omega
    have hq2 : ((l : Int) == (r : Int)) = false := by rw [beq_eq_false_iff_ne]; omega
    have hq3 : ¬ (l : Int) = (r : Int) := by omega
    clear hcl hlu
    go_enter Tryd.func13, Tryd.ntmps13
    go_wp2_with fail
    refine (sclaim_any g _ mv rows makes _ (HH.out.on I0.out.fin)).mono ?_
    rintro e w1 ⟨rfl, hb1⟩
    rw [hc]
    have I1 := Lib.hid (I0.out.on hb1)
    clear hb1 p0 p1 p2
    have p1 := I1.out.box.cell 1
    simp at p1
    go_wp2
    go_ret
    exact ⟨by rw [HX.out]; rfl, I1.out.fin⟩
  have HY := Lib.hid (HXY.out hc hlu)
  have hq : ((l : Int) != (r : Int)) = false := by rw [hlu]; simp
  have hq2 : ((l : Int) == (r : Int)) = true := by rw [hlu]; simp
  obtain ⟨o1, o2⟩ := ord_bd hcl.g0 hcl.g4
  obtain ⟨Q, hQ⟩ : ∃ Q : Nat, (ord g).toNat = Q := ⟨_, rfl⟩
  have hqo : ord g = (Q : Int) := by omega
  have hQ40 : Q ≤ 40 := by omega
  have HOR := Lib.hid (show ∀ w', Calls Tryd.prog 16 #[.int .i64 g] w' fun e w'' => e = .returned (.int .i64 (Q : Int)) ∧ Below w'.heap.size w' w'' from fun w' => by rw [← hqo]; exact sord_any g w')
  have HL6 := Lib.hid (lots_le hcl)
  obtain ⟨L, hL⟩ : ∃ L, lots (ord g).toNat (unk rows) = L := ⟨_, rfl⟩
  have HL2 : Hid (∀ k, k < L.length → (row L k).length ≤ 2) := Lib.hid fun k hk => by rw [← hL] at hk ⊢; exact lots_has hcl hk
  have HLT := Lib.hid (sall_any g (.slice ra r rc) mv rows makes)
  rw [hL] at HY HL6 HLT
  rw [hQ] at HY
  obtain ⟨n, hn⟩ : ∃ n, L.length = n := ⟨_, rfl⟩
  rw [hn] at HY HL6 HL2
  have HN := Lib.hid hn
  obtain ⟨hA, hhA⟩ : ∃ hA : Nat → Bool, (fun a : Nat => anyTo (fun k => wokB g rows makes says a (row L k)) n) = hA := ⟨_, rfl⟩
  have HHA : Hid (∀ a : Nat, anyTo (fun k => wokB g rows makes says a (row L k)) n = hA a) := Lib.hid fun a => by rw [← hhA]
  rw [hhA] at HY
  have h600 := HL6.out
  clear hcl o1 o2 hqo hQ hL hn hhA hlu
  go_enter Tryd.func13, Tryd.ntmps13
  go_wp2_with fail
  refine (sclaim_any g _ mv rows makes _ (HH.out.on I0.out.fin)).mono ?_
  rintro e w1 ⟨rfl, hb1⟩
  rw [hc]
  have I1 := Lib.hid (I0.out.on hb1)
  clear hb1 p0 p1 p2 hc
  have p1 := I1.out.box.cell 1
  simp at p1
  go_wp2
  clear p1 hq hq2
  go_loopw [5] (fun i wr => ∃ k : Nat, k ≤ l ∧ i = .int .i64 k ∧ Hid (∀ j, j < k → elB g (nth says j) = true) ∧ Hid (InB w [.int .i64 g, .slice ra r rc, mv] 26 wr)) (fun i _ => l - (intOf i).toNat)
  case atStart => exact ⟨0, by omega, rfl, Lib.hid (fun j hj => by omega), I1⟩
  case round =>
    obtain ⟨k, hk, rfl, hE, hI⟩ := hrel
    obtain ⟨wo, rfl⟩ : ∃ wo : World, wo = wr := ⟨_, rfl⟩
    clear I1
    by_cases hlt : k < l
    · obtain ⟨M, rfl, hck⟩ := HSY.out k hlt
      have HCK := Lib.hid hck
      have hlt1 : (k : Int) < (l : Int) := by omega
      have HBD : Hid (InB w [.int .i64 g, .slice ra r rc, mv] 26 wo.drew) := Lib.hid (hI.out.on (Below.refl _ _).drew)
      clear hck
      cases he : elB g (nth says k)
      all_goals
        have HE := Lib.hid he
        have HEL := Lib.hid (fun w' => sel_is he w')
        clear he
        go_wp2_with fail
        refine wp_region_class (C := fun w' => Hid (InB w [.int .i64 g, .slice ra r rc, mv] 26 w')) (by kernel_rfl) (by kernel_rfl) HBD ?_
        repeat (first | go_big_quiet_skip | (go_big_quiet_want; go_big_quiet_op; first | go_big_quiet_on | (refine ⟨_, fun _ _ => rfl, ?_⟩; go_big_quiet_on)))
        go_big_quiet_want
        go_big_quiet_op
        refine ⟨.int .i64 g, fun w' hw' => ?_, ?_⟩
        · have q := hw'.out.box.cell 0
          simp at q
          simp [go_sem, q]
        go_big_quiet_on
        repeat (first | go_big_quiet_skip | (go_big_quiet_want; go_big_quiet_op; first | go_big_quiet_on | (refine ⟨_, fun _ _ => rfl, ?_⟩; go_big_quiet_on)))
        go_big_quiet_want
        go_big_quiet_op
        refine ⟨.int .i64 (nth says k), fun w' hw' => ?_, ?_⟩
        · have q := HCK.out w' hw'.out.fin
          simp [go_sem, q]
        go_big_quiet_on
        repeat (first | go_big_quiet_skip | (go_big_quiet_want; go_big_quiet_op; first | go_big_quiet_on | (refine ⟨_, fun _ _ => rfl, ?_⟩; go_big_quiet_on)))
        go_big_quiet_want
        go_big_quiet_op
        go_big_quiet_call ((intro hw; exact (HEL.out _).mono fun _ _ ⟨he, hb⟩ => ⟨he, Lib.hid (hw.out.on hb)⟩))
        repeat (first | go_big_quiet_skip | (go_big_quiet_want; go_big_quiet_op; first | go_big_quiet_on | (refine ⟨_, fun _ _ => rfl, ?_⟩; go_big_quiet_on)))
        refine wpQuiet_nil ?_
        intro w3 hw3
        clear HBD hI
      · have HX := Lib.hid (HXE.out k hlt HE.out)
        go_wp2
        go_ret
        exact ⟨by rw [HX.out]; rfl, hw3.out.fin⟩
      · have E3 : Hid (∀ j, j < k + 1 → elB g (nth says j) = true) := Lib.hid fun j hj => by
          by_cases e : j < k
          · exact hE.out j e
          · obtain rfl : j = k := by omega
            exact HE.out
        clear hE
        go_wp2
        go_roundw
        case rel => exact ⟨k + 1, by omega, by go_num, E3, hw3⟩
        case measure => simp [intOf]; omega
    · obtain rfl : l = k := by omega
      have HX := Lib.hid (HY.out hE.out)
      have p0 := hI.out.box.cell 0
      have p1 := hI.out.box.cell 1
      have p2 := hI.out.box.cell 2
      simp at p0 p1 p2
      clear hE
      go_wp2_with fail
      refine (HLT.out wo (HH.out.on hI.out.fin) HCL.out).mono ?_
      rintro e w2 ⟨lv, us, rfl, ho, hb2⟩
      have I2 := Lib.hid (hI.out.on hb2)
      obtain ⟨a, c, hlv, hcell⟩ := outer_cell ho.outer
      have hul : us.length = n := by rw [ho.len]; exact HN.out
      rw [hul] at hlv hcell
      subst hlv
      have HC : Hid (∀ k, k < n → ∃ G0, a = some ⟨G0, 0, none⟩ ∧ ∀ w', Below w2.heap.size w2 w' → w'.cell? ⟨G0, k, none⟩ = some (val us k)) := Lib.hid fun k hk => by
        obtain ⟨G0, e1, e2, e3⟩ := hcell k hk
        exact ⟨G0, e1, fun w' hb => (hb.cell (p := ⟨G0, k, none⟩) e2).trans e3⟩
      have HE : Hid (∀ w', Below w2.heap.size w2 w' → ∀ k, k < n → Ints w' (val us k) (row L k)) := Lib.hid fun w' hb k hk => Ints.of_own ((ho.on hb).rows k (by rw [hul]; exact hk)) (by have := HL2.out k hk; unfold maxLen; omega)
      have HFM : Hid (∀ k, k < n → ∃ ua ul uc, val us k = .slice ua ul uc) := Lib.hid fun k hk => by
        obtain ⟨ua, uc, e⟩ := Own.form (ho.rows k (by rw [hul]; exact hk))
        exact ⟨ua, _, uc, e⟩
      clear ho hb2 p0 p1 p2 hcell hul hI
      go_wp2
      go_loopw [7, 8] (fun m i wr => ∃ q : Nat, q ≤ Q ∧ i = .int .i64 q ∧ m = .int .i64 (ansTo hA q) ∧ Hid (Below w2.heap.size w2 wr)) (fun _ i _ => Q - (intOf i).toNat)
      case atStart => exact ⟨0, by omega, rfl, rfl, Lib.hid (Below.refl _ _)⟩
      case round =>
        obtain ⟨q, hq, rfl, rfl, hB2⟩ := hrel
        obtain ⟨wq, rfl⟩ : ∃ wq : World, wq = wr := ⟨_, rfl⟩
        have IQ := Lib.hid (I2.out.on hB2.out)
        have hle := ansTo_le hA q
        have p0 := IQ.out.box.cell 0
        simp at p0
        by_cases hql : q < Q
        · have hql1 : (q : Int) < (Q : Int) := by omega
          go_wp2_with fail
          refine (HOR.out _).mono ?_
          rintro e w0 ⟨rfl, hb0⟩
          have B0 := Lib.hid (Below.on hB2.out hb0)
          obtain ⟨hh, hhe⟩ : ∃ hh : Nat → Bool, (fun k => wokB g rows makes says q (row L k)) = hh := ⟨_, rfl⟩
          have HW : Hid (∀ k, wokB g rows makes says q (row L k) = hh k) := Lib.hid fun k => by rw [← hhe]
          have HAQ := HHA.out q
          rw [hhe] at HAQ
          have HAQ := Lib.hid HAQ
          clear hb0 p0 hhe hB2 IQ
          go_wp2
          go_loopw [9, 10] (fun b i wr => ∃ (k : Nat) (bb : Bool), k ≤ n ∧ i = .int .i64 k ∧ b = .bool bb ∧ Hid (bb = anyTo hh k) ∧ Hid (bb = true → anyTo hh n = true) ∧ Hid (Below w2.heap.size w2 wr)) (fun _ i _ => n - (intOf i).toNat)
          case atStart => exact ⟨0, false, by omega, rfl, rfl, Lib.hid rfl, Lib.hid (fun h => by cases h), B0⟩
          case round =>
            obtain ⟨k, bb, hk, rfl, rfl, hb1, hb2, hB3⟩ := hrel
            obtain ⟨wk, rfl⟩ : ∃ wk : World, wk = wr := ⟨_, rfl⟩
            by_cases hlt : k < n
            · have hlt1 : (k : Int) < (n : Int) := by omega
              cases bb
              · obtain ⟨G0, rfl, hck⟩ := HC.out k hlt
                have HCK := Lib.hid hck
                have I3 := Lib.hid (I2.out.on hB3.out)
                have HWO : Hid (∀ w', Below w2.heap.size w2 w' → Calls Tryd.prog 60 #[.agg #[.int .i64 g, .slice ra r rc, mv], .agg #[.slice sa l sc, .int .i64 q, val us k]] w' fun e w'' => e = .returned (.bool (hh k)) ∧ Below w'.heap.size w' w'') := Lib.hid fun w' hb => by
                  rw [← HW.out k]
                  exact swok_any g _ mv _ q _ rows makes says (row L k) w' (HH.out.on (I2.out.on hb).fin) (HSV.out.below (I2.out.on hb).fin) (HE.out _ hb k hlt)
                have HBD : Hid (Below w2.heap.size w2 wk.drew) := Lib.hid (Below.on hB3.out (Below.refl _ _).drew)
                have N1 : Hid (hh k = anyTo hh (k + 1)) := Lib.hid (by show _ = (anyTo hh k || hh k); rw [← hb1.out]; rfl)
                have N2 : Hid (hh k = true → anyTo hh n = true) := Lib.hid fun e => anyTo_at hlt e
                obtain ⟨ua, ul, uc, hu⟩ := HFM.out k hlt
                rw [hu] at HCK HWO
                clear hck hb1 hb2 hu
                go_wp2_with fail
                refine wp_region_class (C := fun w' => Hid (Below w2.heap.size w2 w')) (by kernel_rfl) (by kernel_rfl) HBD ?_
                repeat (first | go_big_quiet_skip | (go_big_quiet_want; go_big_quiet_op; first | go_big_quiet_on | (refine ⟨_, fun _ _ => rfl, ?_⟩; go_big_quiet_on)))
                go_big_quiet_want
                go_big_quiet_op
                refine ⟨.agg #[.int .i64 g, .slice ra r rc, mv], fun w' hw' => ?_, ?_⟩
                · have q := (I2.out.on hw'.out).box
                  have q0 := q.cell 0; have q1 := q.cell 1; have q2 := q.cell 2
                  simp at q0 q1 q2
                  simp [go_sem, q0, q1, q2]
                go_big_quiet_on
                repeat (first | go_big_quiet_skip | (go_big_quiet_want; go_big_quiet_op; first | go_big_quiet_on | (refine ⟨_, fun _ _ => rfl, ?_⟩; go_big_quiet_on)))
                go_big_quiet_want
                go_big_quiet_op
                refine ⟨.slice ua ul uc, fun w' hw' => ?_, ?_⟩
                · have q := HCK.out w' hw'.out
                  simp [go_sem, q]
                go_big_quiet_on
                repeat (first | go_big_quiet_skip | (go_big_quiet_want; go_big_quiet_op; first | go_big_quiet_on | (refine ⟨_, fun _ _ => rfl, ?_⟩; go_big_quiet_on)))
                go_big_quiet_want
                go_big_quiet_op
                go_big_quiet_call ((intro hw; exact (HWO.out _ hw.out).mono fun _ _ ⟨he, hb⟩ => ⟨he, Lib.hid (Below.on hw.out hb)⟩))
                repeat (first | go_big_quiet_skip | (go_big_quiet_want; go_big_quiet_op; first | go_big_quiet_on | (refine ⟨_, fun _ _ => rfl, ?_⟩; go_big_quiet_on)))
                refine wpQuiet_nil ?_
                intro w3 hw3
                clear HBD hB3 I3
                go_wp2
                go_roundw
                case rel => exact ⟨k + 1, _, by omega, by go_num, rfl, N1, N2, hw3⟩
                case measure => simp [intOf]; omega
              · have HAT : Hid (hA q = true) := Lib.hid (by rw [← HAQ.out]; exact hb2.out rfl)
                have hY := ansTo_yes HAT.out
                have HY1 := Lib.hid hY
                clear hY hb1 hb2
                go_wp2
                go_roundw
                case rel => exact ⟨q + 1, by omega, by go_num, by rw [HY1.out]; go_num, hB3⟩
                case measure => simp [intOf]; omega
            · obtain rfl : k = n := by omega
              have hbb : hA q = bb := by rw [← HAQ.out]; exact hb1.out.symm
              have hge : ¬ (k : Int) < (k : Int) := by omega
              cases bb
              · have HY1 := Lib.hid (ansTo_no hbb)
                clear hbb hb1 hb2
                go_wp2
                go_roundw
                case rel => exact ⟨q + 1, by omega, by go_num, by rw [HY1.out], hB3⟩
                case measure => simp [intOf]; omega
              · have HY1 := Lib.hid (ansTo_yes hbb)
                clear hbb hb1 hb2
                go_wp2
                go_roundw
                case rel => exact ⟨q + 1, by omega, by go_num, by rw [HY1.out]; go_num, hB3⟩
                case measure => simp [intOf]; omega
        · obtain rfl : q = Q := by omega
          go_wp2_with fail
          refine (HOR.out _).mono ?_
          rintro e w0 ⟨rfl, hb0⟩
          have B0 := Lib.hid (IQ.out.on hb0).fin
          clear hb0 p0
          go_wp2
          go_ret
          exact ⟨by rw [HX.out]; rfl, B0.out⟩
end Go.Proofs.YtkcikhjobgackacDoor
