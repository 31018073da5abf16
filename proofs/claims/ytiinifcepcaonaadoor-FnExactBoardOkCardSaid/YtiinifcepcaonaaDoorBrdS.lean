/- spec: l10Keys, l10Note, BoardOk, KeysOn. -/
import Derived.Test.YtiinifcepcaonaaDoorBrdJ
import Derived.IntWalk
namespace Go.Proofs.YtiinifcepcaonaaDoor
open Go.RowKit

set_option maxRecDepth 20000 in
set_option maxHeartbeats 1600000 in
theorem skeys_any (g : Int) (v : Value) (ns : List Nt) (w : World) (h : Nts w v ns) (hl : ns.length ≤ 2000000) : Calls Tryd.prog 43 #[.agg #[.int .i64 g, v]] w fun e w' => ∃ u, e = .returned u ∧ Own w' w.heap.size u (keysN ns) ∧ Below w.heap.size w w' := by
  obtain ⟨a, c, rfl, k1⟩ := h.opened
  obtain ⟨n, hn⟩ : ∃ n, ns.length = n := ⟨_, rfl⟩
  have HC := Lib.hid (fun w' (hb : Below w.heap.size w w') k (hk : k < n) => (k1.on hb).get k (by rw [hn]; exact hk))
  have HY := Lib.hid (show ∀ k, k < n → (nthN ns k).on = -1 → keysN (ns.take (k + 1)) = keysN (ns.take k) ++ [(nthN ns k).key] from fun k hk ho => keysN_yes (by rw [hn]; exact hk) ho)
  have HN := Lib.hid (show ∀ k, k < n → (nthN ns k).on ≠ -1 → keysN (ns.take (k + 1)) = keysN (ns.take k) from fun k hk ho => keysN_no (by rw [hn]; exact hk) ho)
  have HZ := Lib.hid (show keysN (ns.take n) = keysN ns from by rw [← hn, List.take_length])
  have HL := Lib.hid (show ∀ k, (keysN (ns.take k)).length < 1000000000 from fun k => by have := keysN_len (ns.take k); have := List.length_take_le' k ns; omega)
  have hsz0 : (w.alloc (.cells #[.int .i64 g, .slice a n c] 29)).heap.size = w.heap.size + 1 := by simp
  have IB0 := Lib.hid ((InB.start w [.int .i64 g, .slice a n c] 29).on (below_grow _ (.cells #[] 3)))
  obtain ⟨L, hL⟩ : ∃ L : Nat → List Int, ∀ k, keysN (ns.take k) = L k := ⟨_, fun _ => rfl⟩
  have HL0 := Lib.hid (show L 0 = [] from by rw [← hL]; rfl)
  have OV0 : Hid (Own ((w.alloc (.cells #[.int .i64 g, .slice a n c] 29)).alloc (.cells #[] 3)) (w.heap.size + 1) (.slice (some ⟨w.heap.size + 1, 0, none⟩) 0 0) (L 0)) := Lib.hid (by rw [HL0.out, ← hsz0]; exact own_made' _)
  simp only [hL] at HY HN HZ HL
  rw [hn] at hl ⊢
  clear h k1 hn hL hsz0
  go_enter Tryd.func43, Tryd.ntmps43
  go_wp2
  go_loopw [3, 4] (fun u i wr => ∃ k : Nat, k ≤ n ∧ i = .int .i64 k ∧ Hid (Own wr (w.heap.size + 1) u (L k)) ∧ Hid (InB w [.int .i64 g, .slice a n c] 29 wr)) (fun _ i _ => n - (intOf i).toNat)
  case atStart => exact ⟨0, by omega, rfl, OV0, IB0⟩
  case round =>
    obtain ⟨k, hk, rfl, ho, hb⟩ := hrel
    have b0 := hb.out.box.cell 1
    simp at b0
    by_cases hlt : k < n
    · obtain ⟨G, rfl, _, hc⟩ := HC.out _ hb.out.fin k hlt
      have hyes := HY.out k hlt
      have hno := HN.out k hlt
      generalize nthN ns k = y at hc hyes hno
      obtain ⟨c0, c1, c2, c3, c4⟩ := hc
      have hlt1 : (k : Int) < (n : Int) := by omega
      by_cases he : y.on = -1
      · have HX := Lib.hid (hyes he)
        have hd : (y.on == -1) = true := by simp [he]
        have ov := ho.out
        have oz := hb.out.size
        have hll := HL.out k
        clear hyes hno he
        go_wp2_with (at_builtin; refine wpAppInt rfl _ _ rfl rfl ov hll oz rfl ?_)
        intro v2 w4 o2 g2 _
        have O4 : Hid (Own w4 (w.heap.size + 1) v2 (L (k + 1))) := Lib.hid (by rw [HX.out]; exact o2)
        have I4 := Lib.hid (hb.out.grown g2 fun j hj => (ho.out.lt j hj).1)
        clear o2 g2 ov oz hll ho hb
        go_wp2
        go_roundw
        case rel => exact ⟨k + 1, by omega, by go_num, O4, I4⟩
        case measure => simp [intOf]; omega
      · have HX := Lib.hid (hno he)
        have hd : (y.on == -1) = false := by simp [he]
        clear hyes hno he
        go_wp2
        go_roundw
        case rel => exact ⟨k + 1, by omega, by go_num, Lib.hid (by rw [HX.out]; exact ho.out), hb⟩
        case measure => simp [intOf]; omega
    · obtain rfl : k = n := by omega
      go_wp2
      go_ret
      exact ⟨_, rfl, by rw [← HZ.out]; exact own_mono ho.out (Nat.le_succ _), hb.out.fin⟩

/-- Behind the call of l10Keys: the boxes, the list of notes, and the elements. -/
structure Nk (w : World) (P R : List Value) (v : Value) (ns : List Nt) (u : Value) (xs : List Int) (w' : World) : Prop where
  nb : Nb w P R w'
  nt : Nts w' v ns
  ks : Ints w' u xs
theorem Nk.on {w w1 w2 : World} {P R : List Value} {v u : Value} {ns : List Nt} {xs : List Int} (h : Hid (Nk w P R v ns u xs w1)) (hb : Below w1.heap.size w1 w2) : Hid (Nk w P R v ns u xs w2) := Lib.hid ⟨h.out.nb.on hb, h.out.nt.on hb, h.out.ks.below hb⟩
set_option maxRecDepth 20000 in
set_option maxHeartbeats 1600000 in
theorem snt_has (g : Int) (v : Value) (ns : List Nt) (x : Nt) (w : World) (h : Nts w v ns) (hh : hasN ns x = true) : Calls Tryd.prog 37 #[.agg #[.int .i64 g, v], .agg #[.int .i64 x.key, .int .i64 x.on, .int .i64 x.say, .int .i64 x.ask, .int .i64 x.tell]] w fun e w' => e = .returned (.bool false) ∧ Below w.heap.size w w' := by
  obtain ⟨a, c, rfl, k1⟩ := h.opened
  obtain ⟨n, hn⟩ : ∃ n, ns.length = n := ⟨_, rfl⟩
  have hmax := k1.max
  have HC := Lib.hid (fun w' (hb : Below w.heap.size w w') k (hk : k < n) => (k1.on hb).get k (by rw [hn]; exact hk))
  rw [hn] at hmax h ⊢
  unfold maxLen at hmax
  have H := Lib.hid h
  have N0 := Lib.hid (Nb.start w [.int .i64 g, .slice a n c] [.int .i64 x.key, .int .i64 x.on, .int .i64 x.say, .int .i64 x.ask, .int .i64 x.tell] 29 47)
  have tg := noteGuard
  have te := run_equal_note
  have HF := Lib.hid (show NotN ns x n → False from fun hj => by rw [hasN_no (by rw [hn]; exact hj)] at hh; cases hh)
  clear h hn k1 hh
  go_enter Tryd.func37, Tryd.ntmps37
  go_wp2
  go_loopw [5] (fun i wr => ∃ k : Nat, k ≤ n ∧ i = .int .i64 k ∧ Hid (NotN ns x k) ∧ Hid (Nb w [.int .i64 g, .slice a n c] [.int .i64 x.key, .int .i64 x.on, .int .i64 x.say, .int .i64 x.ask, .int .i64 x.tell] wr)) (fun i _ => n - (intOf i).toNat)
  case atStart => exact ⟨0, by omega, rfl, Lib.hid (NotN.zero _ _), N0⟩
  case round =>
    obtain ⟨k, hk, rfl, hj, hb⟩ := hrel
    obtain ⟨wo, rfl⟩ : ∃ wo : World, wo = wr := ⟨_, rfl⟩
    have q := hb.out.b1
    have p0 := hb.out.b0.cell 0
    have p1 := hb.out.b0.cell 1
    have q0 := q.cell 0
    have q1 := q.cell 1
    have q2 := q.cell 2
    have q3 := q.cell 3
    have q4 := q.cell 4
    simp at p0 p1 q0 q1 q2 q3 q4
    clear q
    by_cases hlt : k < n
    · obtain ⟨G, rfl, _, hc⟩ := HC.out _ hb.out.be k hlt
      obtain ⟨y, hy⟩ : ∃ y, nthN ns k = y := ⟨_, rfl⟩
      rw [hy] at hc
      obtain ⟨c0, c1, c2, c3, c4⟩ := hc
      have hlt1 : (k : Int) < (n : Int) := by omega
      cases he : ntB y x
      · have HJ : Hid (NotN ns x (k + 1)) := Lib.hid (hj.out.succ (by rw [hy]; exact he))
        clear hj hy
        go_wp2_with fail
        go_quiet (fail)
        clear c0 c1 c2 c3 c4 p0 p1 q0 q1 q2 q3 q4
        go_wp2
        go_roundw
        case rel => exact ⟨k + 1, by omega, by go_num, HJ, Lib.hid (hb.out.on (below_drewN (Below.refl _ _) _))⟩
        case measure => simp [intOf]; omega
      · have HE := Lib.hid he
        have HYK := Lib.hid hy
        clear hy
        go_wp2_with fail
        go_quiet (fail)
        clear c0 c1 c2 c3 c4 p0 p1 q0 q1 q2 q3 q4
        go_wp2
        go_ret
        exact ⟨rfl, (hb.out.on (below_drewN (Below.refl _ _) _)).be⟩
    · obtain rfl : k = n := by omega
      exact (HF.out hj.out).elim
set_option maxRecDepth 20000 in
set_option maxHeartbeats 3200000 in
theorem snt_key (g : Int) (v : Value) (ns : List Nt) (x : Nt) (w : World) (h : Nts w v ns) (hl : ns.length ≤ 2000000) (hh : hasN ns x = false) (ho : x.on = -1) : Calls Tryd.prog 37 #[.agg #[.int .i64 g, v], .agg #[.int .i64 x.key, .int .i64 x.on, .int .i64 x.say, .int .i64 x.ask, .int .i64 x.tell]] w fun e w' => e = .returned (.bool (elB g x.key && zerB x)) ∧ Below w.heap.size w w' := by
  obtain ⟨a, c, rfl, k1⟩ := h.opened
  obtain ⟨n, hn⟩ : ∃ n, ns.length = n := ⟨_, rfl⟩
  have hmax := k1.max
  have HC := Lib.hid (fun w' (hb : Below w.heap.size w w') k (hk : k < n) => (k1.on hb).get k (by rw [hn]; exact hk))
  rw [hn] at hmax h ⊢
  unfold maxLen at hmax
  have H := Lib.hid h
  have N0 := Lib.hid (Nb.start w [.int .i64 g, .slice a n c] [.int .i64 x.key, .int .i64 x.on, .int .i64 x.say, .int .i64 x.ask, .int .i64 x.tell] 29 47)
  have tg := noteGuard
  have te := run_equal_note
  have HNO := Lib.hid (show ∀ k, k < n → ntB (nthN ns k) x = false from fun k hk => by
    cases e : ntB (nthN ns k) x
    · rfl
    · rw [hasN_yes (by rw [hn]; exact hk) e] at hh; cases hh)
  have HL := Lib.hid hl
  have HML := Lib.hid (show (keysN ns).length ≤ maxLen from Nat.le_trans (keysN_len ns) k1.max)
  have hd : (x.on == -1) = true := by simp [ho]
  have HZ := Lib.hid (show talkB x.say x.ask x.tell 0 0 0 = zerB x from rfl)
  have tg2 := talkGuard
  have te2 := run_equal_talk
  clear h hn k1 hh hl ho
  cases he : elB g x.key
  · have HEL := Lib.hid he
    clear he
    go_enter Tryd.func37, Tryd.ntmps37
    go_wp2
    go_loopw [5] (fun i wr => ∃ k : Nat, k ≤ n ∧ i = .int .i64 k ∧ Hid (NotN ns x k) ∧ Hid (Nb w [.int .i64 g, .slice a n c] [.int .i64 x.key, .int .i64 x.on, .int .i64 x.say, .int .i64 x.ask, .int .i64 x.tell] wr)) (fun i _ => n - (intOf i).toNat)
    case atStart => exact ⟨0, by omega, rfl, Lib.hid (NotN.zero _ _), N0⟩
    case round =>
      obtain ⟨k, hk, rfl, hj, hb⟩ := hrel
      obtain ⟨wo, rfl⟩ : ∃ wo : World, wo = wr := ⟨_, rfl⟩
      have q := hb.out.b1
      have p0 := hb.out.b0.cell 0
      have p1 := hb.out.b0.cell 1
      have q0 := q.cell 0
      have q1 := q.cell 1
      have q2 := q.cell 2
      have q3 := q.cell 3
      have q4 := q.cell 4
      simp at p0 p1 q0 q1 q2 q3 q4
      clear q
      by_cases hlt : k < n
      · obtain ⟨G, rfl, _, hc⟩ := HC.out _ hb.out.be k hlt
        obtain ⟨y, hy⟩ : ∃ y, nthN ns k = y := ⟨_, rfl⟩
        rw [hy] at hc
        obtain ⟨c0, c1, c2, c3, c4⟩ := hc
        have hlt1 : (k : Int) < (n : Int) := by omega
        cases he : ntB y x
        · have HJ : Hid (NotN ns x (k + 1)) := Lib.hid (hj.out.succ (by rw [hy]; exact he))
          clear hj hy
          go_wp2_with fail
          go_quiet (fail)
          clear c0 c1 c2 c3 c4 p0 p1 q0 q1 q2 q3 q4
          go_wp2
          go_roundw
          case rel => exact ⟨k + 1, by omega, by go_num, HJ, Lib.hid (hb.out.on (below_drewN (Below.refl _ _) _))⟩
          case measure => simp [intOf]; omega
        · have HE := Lib.hid he
          have HYK := Lib.hid hy
          clear hy
          exact absurd (HNO.out k hlt) (by rw [HYK.out, HE.out]; decide)
      · obtain rfl : k = n := by omega
        go_wp2_with fail
        refine (skeys_any g _ ns _ (H.out.on hb.out.be) HL.out).mono ?_
        rintro e w1 ⟨u, rfl, ou, hb1⟩
        obtain ⟨ua, uc, hu⟩ := Own.form ou
        subst hu
        have N1 : Hid (Nk w [.int .i64 g, .slice a k c] [.int .i64 x.key, .int .i64 x.on, .int .i64 x.say, .int .i64 x.ask, .int .i64 x.tell] (.slice a k c) ns (.slice ua (keysN ns).length uc) (keysN ns) w1) := Lib.hid ⟨hb.out.on hb1, (H.out.on hb.out.be).on hb1, Ints.of_own ou HML.out⟩
        clear hb1 ou hb p0 p1 q0 q1 q2 q3 q4
        have q11 := N1.out.nb.b1.cell 1
        have q00 := N1.out.nb.b0.cell 0
        have q10 := N1.out.nb.b1.cell 0
        simp at q11 q00 q10
        go_wp2_with fail
        refine (sel_any g x.key _).mono ?_
        rintro e w2 ⟨rfl, hb2⟩
        rw [HEL.out]
        have N2 := Nk.on N1 hb2
        clear hb2 q11 q00 q10
        go_wp2
        go_ret
        exact ⟨rfl, N2.out.nb.be⟩
  · have HEL := Lib.hid he
    clear he
    go_enter Tryd.func37, Tryd.ntmps37
    go_wp2
    go_loopw [5] (fun i wr => ∃ k : Nat, k ≤ n ∧ i = .int .i64 k ∧ Hid (NotN ns x k) ∧ Hid (Nb w [.int .i64 g, .slice a n c] [.int .i64 x.key, .int .i64 x.on, .int .i64 x.say, .int .i64 x.ask, .int .i64 x.tell] wr)) (fun i _ => n - (intOf i).toNat)
    case atStart => exact ⟨0, by omega, rfl, Lib.hid (NotN.zero _ _), N0⟩
    case round =>
      obtain ⟨k, hk, rfl, hj, hb⟩ := hrel
      obtain ⟨wo, rfl⟩ : ∃ wo : World, wo = wr := ⟨_, rfl⟩
      have q := hb.out.b1
      have p0 := hb.out.b0.cell 0
      have p1 := hb.out.b0.cell 1
      have q0 := q.cell 0
      have q1 := q.cell 1
      have q2 := q.cell 2
      have q3 := q.cell 3
      have q4 := q.cell 4
      simp at p0 p1 q0 q1 q2 q3 q4
      clear q
      by_cases hlt : k < n
      · obtain ⟨G, rfl, _, hc⟩ := HC.out _ hb.out.be k hlt
        obtain ⟨y, hy⟩ : ∃ y, nthN ns k = y := ⟨_, rfl⟩
        rw [hy] at hc
        obtain ⟨c0, c1, c2, c3, c4⟩ := hc
        have hlt1 : (k : Int) < (n : Int) := by omega
        cases he : ntB y x
        · have HJ : Hid (NotN ns x (k + 1)) := Lib.hid (hj.out.succ (by rw [hy]; exact he))
          clear hj hy
          go_wp2_with fail
          go_quiet (fail)
          clear c0 c1 c2 c3 c4 p0 p1 q0 q1 q2 q3 q4
          go_wp2
          go_roundw
          case rel => exact ⟨k + 1, by omega, by go_num, HJ, Lib.hid (hb.out.on (below_drewN (Below.refl _ _) _))⟩
          case measure => simp [intOf]; omega
        · have HE := Lib.hid he
          have HYK := Lib.hid hy
          clear hy
          exact absurd (HNO.out k hlt) (by rw [HYK.out, HE.out]; decide)
      · obtain rfl : k = n := by omega
        go_wp2_with fail
        refine (skeys_any g _ ns _ (H.out.on hb.out.be) HL.out).mono ?_
        rintro e w1 ⟨u, rfl, ou, hb1⟩
        obtain ⟨ua, uc, hu⟩ := Own.form ou
        subst hu
        have N1 : Hid (Nk w [.int .i64 g, .slice a k c] [.int .i64 x.key, .int .i64 x.on, .int .i64 x.say, .int .i64 x.ask, .int .i64 x.tell] (.slice a k c) ns (.slice ua (keysN ns).length uc) (keysN ns) w1) := Lib.hid ⟨hb.out.on hb1, (H.out.on hb.out.be).on hb1, Ints.of_own ou HML.out⟩
        clear hb1 ou hb p0 p1 q0 q1 q2 q3 q4
        have q11 := N1.out.nb.b1.cell 1
        have q00 := N1.out.nb.b0.cell 0
        have q10 := N1.out.nb.b1.cell 0
        simp at q11 q00 q10
        go_wp2_with fail
        refine (sel_any g x.key _).mono ?_
        rintro e w2 ⟨rfl, hb2⟩
        rw [HEL.out]
        have N2 := Nk.on N1 hb2
        clear hb2 q11 q00 q10
        have q12 := N2.out.nb.b1.cell 2
        have q13 := N2.out.nb.b1.cell 3
        have q14 := N2.out.nb.b1.cell 4
        simp at q12 q13 q14
        go_wp2
        go_ret
        exact ⟨by rw [← HZ.out]; rfl, N2.out.nb.be⟩
theorem ints_cell {w : World} {g n c j : Nat} {xs : List Int} (h : Ints w (.slice (some ⟨g, 0, none⟩) n c) xs) (hj : j < xs.length) : w.cell? ⟨g, j, none⟩ = some (.int .i64 (nth xs j)) := by
  obtain ⟨a, c', e, k⟩ := h.opened
  obtain ⟨G, e', _, q⟩ := k.get j hj
  cases e; cases e'; exact q
theorem l1In_at {n a b : Int} {r : Bool} (h : (decide (a ≤ n) && decide (n ≤ b)) = r) (w : World) : Calls Tryd.prog 38 #[.int .i64 n, .int .i64 a, .int .i64 b] w fun e w' => e = .returned (.bool r) ∧ w = w' := by rw [← h]; exact l1In_any n a b w
set_option maxRecDepth 20000 in
set_option maxHeartbeats 6400000 in
theorem snt_on (g : Int) (v : Value) (ns : List Nt) (x : Nt) (w : World) (h : Nts w v ns) (hl : ns.length ≤ 2000000) (hh : hasN ns x = false) (ho : x.on ≠ -1) : Calls Tryd.prog 37 #[.agg #[.int .i64 g, v], .agg #[.int .i64 x.key, .int .i64 x.on, .int .i64 x.say, .int .i64 x.ask, .int .i64 x.tell]] w fun e w' => e = .returned (.bool (onB g ns x)) ∧ Below w.heap.size w w' := by
  rw [onB_kat]
  obtain ⟨a, c, rfl, k1⟩ := h.opened
  obtain ⟨n, hn⟩ : ∃ n, ns.length = n := ⟨_, rfl⟩
  have hmax := k1.max
  have HC := Lib.hid (fun w' (hb : Below w.heap.size w w') k (hk : k < n) => (k1.on hb).get k (by rw [hn]; exact hk))
  rw [hn] at hmax h ⊢
  unfold maxLen at hmax
  have H := Lib.hid h
  have N0 := Lib.hid (Nb.start w [.int .i64 g, .slice a n c] [.int .i64 x.key, .int .i64 x.on, .int .i64 x.say, .int .i64 x.ask, .int .i64 x.tell] 29 47)
  have tg := noteGuard
  have te := run_equal_note
  have HNO := Lib.hid (show ∀ k, k < n → ntB (nthN ns k) x = false from fun k hk => by
    cases e : ntB (nthN ns k) x
    · rfl
    · rw [hasN_yes (by rw [hn]; exact hk) e] at hh; cases hh)
  have HL := Lib.hid hl
  have HML := Lib.hid (show (keysN ns).length ≤ maxLen from Nat.le_trans (keysN_len ns) k1.max)
  have hd : (x.on == -1) = false := by simp [ho]
  have hkl := keysN_len ns
  obtain ⟨m, hm⟩ : ∃ m, (keysN ns).length = m := ⟨_, rfl⟩
  have hm2 : m ≤ 2000000 := by omega
  have HM := Lib.hid hm
  have HKT := Lib.hid (show katB ns x.on = (decide (0 ≤ x.on) && decide (x.on ≤ (m : Int) - 1)) by unfold katB; rw [hm]; congr 1; rw [Bool.eq_iff_iff, decide_eq_true_iff, decide_eq_true_iff]; omega)
  have hwm : IntKind.i64.wrap ((m : Int) - 1) = (m : Int) - 1 := IntWalk.i64_in _ (by omega)
  clear h hn k1 hh hl ho hkl hm
  by_cases hx : x.key = 0
  · have hxd : (x.key == 0) = true := by simp [hx]
    cases hk : katB ns x.on
    · have HIN : Hid ((decide (0 ≤ x.on) && decide (x.on ≤ (m : Int) - 1)) = false) := Lib.hid (by rw [← HKT.out]; exact hk)
      have HX := Lib.hid (show (decide (x.key = 0) && false && tokB g (nth (keysN ns) x.on.toNat) x.say x.ask x.tell) = false by simp)
      rw [HX.out]
      clear hk hx
      go_enter Tryd.func37, Tryd.ntmps37
      go_wp2
      go_loopw [5] (fun i wr => ∃ k : Nat, k ≤ n ∧ i = .int .i64 k ∧ Hid (NotN ns x k) ∧ Hid (Nb w [.int .i64 g, .slice a n c] [.int .i64 x.key, .int .i64 x.on, .int .i64 x.say, .int .i64 x.ask, .int .i64 x.tell] wr)) (fun i _ => n - (intOf i).toNat)
      case atStart => exact ⟨0, by omega, rfl, Lib.hid (NotN.zero _ _), N0⟩
      case round =>
        obtain ⟨k, hk, rfl, hj, hb⟩ := hrel
        obtain ⟨wo, rfl⟩ : ∃ wo : World, wo = wr := ⟨_, rfl⟩
        have q := hb.out.b1
        have p0 := hb.out.b0.cell 0
        have p1 := hb.out.b0.cell 1
        have q0 := q.cell 0
        have q1 := q.cell 1
        have q2 := q.cell 2
        have q3 := q.cell 3
        have q4 := q.cell 4
        simp at p0 p1 q0 q1 q2 q3 q4
        clear q
        by_cases hlt : k < n
        · obtain ⟨G, rfl, _, hc⟩ := HC.out _ hb.out.be k hlt
          obtain ⟨y, hy⟩ : ∃ y, nthN ns k = y := ⟨_, rfl⟩
          rw [hy] at hc
          obtain ⟨c0, c1, c2, c3, c4⟩ := hc
          have hlt1 : (k : Int) < (n : Int) := by omega
          cases he : ntB y x
          · have HJ : Hid (NotN ns x (k + 1)) := Lib.hid (hj.out.succ (by rw [hy]; exact he))
            clear hj hy
            go_wp2_with fail
            go_quiet (fail)
            clear c0 c1 c2 c3 c4 p0 p1 q0 q1 q2 q3 q4
            go_wp2
            go_roundw
            case rel => exact ⟨k + 1, by omega, by go_num, HJ, Lib.hid (hb.out.on (below_drewN (Below.refl _ _) _))⟩
            case measure => simp [intOf]; omega
          · have HE := Lib.hid he
            have HYK := Lib.hid hy
            clear hy
            exact absurd (HNO.out k hlt) (by rw [HYK.out, HE.out]; decide)
        · obtain rfl : k = n := by omega
          go_wp2_with fail
          refine (skeys_any g _ ns _ (H.out.on hb.out.be) HL.out).mono ?_
          rintro e w1 ⟨u, rfl, ou, hb1⟩
          obtain ⟨ua, uc, hu, hc9⟩ := (Ints.of_own ou HML.out).opened
          rw [HM.out] at hu
          subst hu
          have N1 : Hid (Nk w [.int .i64 g, .slice a k c] [.int .i64 x.key, .int .i64 x.on, .int .i64 x.say, .int .i64 x.ask, .int .i64 x.tell] (.slice a k c) ns (.slice ua m uc) (keysN ns) w1) := Lib.hid ⟨hb.out.on hb1, (H.out.on hb.out.be).on hb1, Ints.of_own ou HML.out⟩
          clear hb1 ou hb hc9 p0 p1 q0 q1 q2 q3 q4
          have q11 := N1.out.nb.b1.cell 1
          simp at q11
          go_upto_region 9 with (fail)
          clear q11
          have HD : Hid (Nk w [.int .i64 g, .slice a k c] [.int .i64 x.key, .int .i64 x.on, .int .i64 x.say, .int .i64 x.ask, .int .i64 x.tell] (.slice a k c) ns (.slice ua m uc) (keysN ns) w1.drew) := Nk.on N1 (Below.refl _ _).drew
          go_wp2_with fail
          refine wp_region_class (C := fun w' => Hid (Nk w [.int .i64 g, .slice a k c] [.int .i64 x.key, .int .i64 x.on, .int .i64 x.say, .int .i64 x.ask, .int .i64 x.tell] (.slice a k c) ns (.slice ua m uc) (keysN ns) w')) (by kernel_rfl) (by kernel_rfl) HD ?_
          repeat (first | go_big_quiet_skip | (go_big_quiet_want; go_big_quiet_op; first | go_big_quiet_on | (refine ⟨_, fun _ _ => rfl, ?_⟩; go_big_quiet_on)))
          go_big_quiet_want
          go_big_quiet_op
          refine ⟨.int .i64 x.key, fun w' hw' => ?_, ?_⟩
          · have q := hw'.out.nb.b1.cell 0
            simp at q
            simp [go_sem, q]
          go_big_quiet_on
          repeat (first | go_big_quiet_skip | (go_big_quiet_want; go_big_quiet_op; first | go_big_quiet_on | (refine ⟨_, fun _ _ => rfl, ?_⟩; go_big_quiet_on)))
          go_big_quiet_want
          go_big_quiet_op
          refine ⟨.int .i64 x.on, fun w' hw' => ?_, ?_⟩
          · have q := hw'.out.nb.b1.cell 1
            simp at q
            simp [go_sem, q]
          go_big_quiet_on
          repeat (first | go_big_quiet_skip | (go_big_quiet_want; go_big_quiet_op; first | go_big_quiet_on | (refine ⟨_, fun _ _ => rfl, ?_⟩; go_big_quiet_on)))
          go_big_quiet_want
          go_big_quiet_op
          go_big_quiet_call ((intro hw; exact (l1In_at HIN.out _).mono fun _ _ ⟨he, hw2⟩ => ⟨he, by rw [← hw2]; exact hw⟩))
          repeat (first | go_big_quiet_skip | (go_big_quiet_want; go_big_quiet_op; first | go_big_quiet_on | (refine ⟨_, fun _ _ => rfl, ?_⟩; go_big_quiet_on)))
          refine wpQuiet_nil ?_
          intro w5 hw5
          clear HD
          go_wp2
          go_ret
          exact ⟨rfl, hw5.out.nb.be⟩
    · have HIN : Hid ((decide (0 ≤ x.on) && decide (x.on ≤ (m : Int) - 1)) = true) := Lib.hid (by rw [← HKT.out]; exact hk)
      have hin := HIN.out
      simp only [Bool.and_eq_true, decide_eq_true_eq] at hin
      obtain ⟨h0, h1'⟩ := hin
      have h1 : x.on < (m : Int) := by omega
      obtain ⟨y, hy⟩ : ∃ y, nth (keysN ns) x.on.toNat = y := ⟨_, rfl⟩
      have HY := Lib.hid hy
      have HX := Lib.hid (show (decide (x.key = 0) && true && tokB g (nth (keysN ns) x.on.toNat) x.say x.ask x.tell) = tokB g y x.say x.ask x.tell by rw [hy]; simp [hx])
      rw [HX.out]
      clear hk hx hy h1'
      go_enter Tryd.func37, Tryd.ntmps37
      go_wp2
      go_loopw [5] (fun i wr => ∃ k : Nat, k ≤ n ∧ i = .int .i64 k ∧ Hid (NotN ns x k) ∧ Hid (Nb w [.int .i64 g, .slice a n c] [.int .i64 x.key, .int .i64 x.on, .int .i64 x.say, .int .i64 x.ask, .int .i64 x.tell] wr)) (fun i _ => n - (intOf i).toNat)
      case atStart => exact ⟨0, by omega, rfl, Lib.hid (NotN.zero _ _), N0⟩
      case round =>
        obtain ⟨k, hk, rfl, hj, hb⟩ := hrel
        obtain ⟨wo, rfl⟩ : ∃ wo : World, wo = wr := ⟨_, rfl⟩
        have q := hb.out.b1
        have p0 := hb.out.b0.cell 0
        have p1 := hb.out.b0.cell 1
        have q0 := q.cell 0
        have q1 := q.cell 1
        have q2 := q.cell 2
        have q3 := q.cell 3
        have q4 := q.cell 4
        simp at p0 p1 q0 q1 q2 q3 q4
        clear q
        by_cases hlt : k < n
        · obtain ⟨G, rfl, _, hc⟩ := HC.out _ hb.out.be k hlt
          obtain ⟨y, hy⟩ : ∃ y, nthN ns k = y := ⟨_, rfl⟩
          rw [hy] at hc
          obtain ⟨c0, c1, c2, c3, c4⟩ := hc
          have hlt1 : (k : Int) < (n : Int) := by omega
          cases he : ntB y x
          · have HJ : Hid (NotN ns x (k + 1)) := Lib.hid (hj.out.succ (by rw [hy]; exact he))
            clear hj hy
            go_wp2_with fail
            go_quiet (fail)
            clear c0 c1 c2 c3 c4 p0 p1 q0 q1 q2 q3 q4
            go_wp2
            go_roundw
            case rel => exact ⟨k + 1, by omega, by go_num, HJ, Lib.hid (hb.out.on (below_drewN (Below.refl _ _) _))⟩
            case measure => simp [intOf]; omega
          · have HE := Lib.hid he
            have HYK := Lib.hid hy
            clear hy
            exact absurd (HNO.out k hlt) (by rw [HYK.out, HE.out]; decide)
        · obtain rfl : k = n := by omega
          go_wp2_with fail
          refine (skeys_any g _ ns _ (H.out.on hb.out.be) HL.out).mono ?_
          rintro e w1 ⟨u, rfl, ou, hb1⟩
          obtain ⟨ua, uc, hu, hc9⟩ := (Ints.of_own ou HML.out).opened
          rw [HM.out] at hu
          subst hu
          obtain ⟨ga, rfl, _, _⟩ := hc9.get x.on.toNat (by rw [HM.out]; omega)
          have N1 : Hid (Nk w [.int .i64 g, .slice a k c] [.int .i64 x.key, .int .i64 x.on, .int .i64 x.say, .int .i64 x.ask, .int .i64 x.tell] (.slice a k c) ns (.slice (some ⟨ga, 0, none⟩) m uc) (keysN ns) w1) := Lib.hid ⟨hb.out.on hb1, (H.out.on hb.out.be).on hb1, Ints.of_own ou HML.out⟩
          clear hb1 ou hb hc9 p0 p1 q0 q1 q2 q3 q4
          have q11 := N1.out.nb.b1.cell 1
          simp at q11
          go_upto_region 9 with (fail)
          clear q11
          have HD : Hid (Nk w [.int .i64 g, .slice a k c] [.int .i64 x.key, .int .i64 x.on, .int .i64 x.say, .int .i64 x.ask, .int .i64 x.tell] (.slice a k c) ns (.slice (some ⟨ga, 0, none⟩) m uc) (keysN ns) w1.drew) := Nk.on N1 (Below.refl _ _).drew
          go_wp2_with fail
          refine wp_region_class (C := fun w' => Hid (Nk w [.int .i64 g, .slice a k c] [.int .i64 x.key, .int .i64 x.on, .int .i64 x.say, .int .i64 x.ask, .int .i64 x.tell] (.slice a k c) ns (.slice (some ⟨ga, 0, none⟩) m uc) (keysN ns) w')) (by kernel_rfl) (by kernel_rfl) HD ?_
          repeat (first | go_big_quiet_skip | (go_big_quiet_want; go_big_quiet_op; first | go_big_quiet_on | (refine ⟨_, fun _ _ => rfl, ?_⟩; go_big_quiet_on)))
          go_big_quiet_want
          go_big_quiet_op
          refine ⟨.int .i64 x.key, fun w' hw' => ?_, ?_⟩
          · have q := hw'.out.nb.b1.cell 0
            simp at q
            simp [go_sem, q]
          go_big_quiet_on
          repeat (first | go_big_quiet_skip | (go_big_quiet_want; go_big_quiet_op; first | go_big_quiet_on | (refine ⟨_, fun _ _ => rfl, ?_⟩; go_big_quiet_on)))
          go_big_quiet_want
          go_big_quiet_op
          refine ⟨.int .i64 x.on, fun w' hw' => ?_, ?_⟩
          · have q := hw'.out.nb.b1.cell 1
            simp at q
            simp [go_sem, q]
          go_big_quiet_on
          repeat (first | go_big_quiet_skip | (go_big_quiet_want; go_big_quiet_op; first | go_big_quiet_on | (refine ⟨_, fun _ _ => rfl, ?_⟩; go_big_quiet_on)))
          go_big_quiet_want
          go_big_quiet_op
          go_big_quiet_call ((intro hw; exact (l1In_at HIN.out _).mono fun _ _ ⟨he, hw2⟩ => ⟨he, by rw [← hw2]; exact hw⟩))
          repeat (first | go_big_quiet_skip | (go_big_quiet_want; go_big_quiet_op; first | go_big_quiet_on | (refine ⟨_, fun _ _ => rfl, ?_⟩; go_big_quiet_on)))
          go_big_quiet_want
          go_big_quiet_op
          refine ⟨.int .i64 g, fun w' hw' => ?_, ?_⟩
          · have q := hw'.out.nb.b0.cell 0
            simp at q
            simp [go_sem, q]
          go_big_quiet_on
          repeat (first | go_big_quiet_skip | (go_big_quiet_want; go_big_quiet_op; first | go_big_quiet_on | (refine ⟨_, fun _ _ => rfl, ?_⟩; go_big_quiet_on)))
          go_big_quiet_want
          go_big_quiet_op
          refine ⟨.int .i64 x.on, fun w' hw' => ?_, ?_⟩
          · have q := hw'.out.nb.b1.cell 1
            simp at q
            simp [go_sem, q]
          go_big_quiet_on
          repeat (first | go_big_quiet_skip | (go_big_quiet_want; go_big_quiet_op; first | go_big_quiet_on | (refine ⟨_, fun _ _ => rfl, ?_⟩; go_big_quiet_on)))
          go_big_quiet_want
          go_big_quiet_op
          refine ⟨.int .i64 y, fun w' hw' => ?_, ?_⟩
          · have q := ints_cell hw'.out.ks (j := x.on.toNat) (by rw [HM.out]; omega)
            rw [HY.out] at q
            simp [go_sem, q]
          go_big_quiet_on
          repeat (first | go_big_quiet_skip | (go_big_quiet_want; go_big_quiet_op; first | go_big_quiet_on | (refine ⟨_, fun _ _ => rfl, ?_⟩; go_big_quiet_on)))
          go_big_quiet_want
          go_big_quiet_op
          refine ⟨.agg #[.int .i64 x.say, .int .i64 x.ask, .int .i64 x.tell], fun w' hw' => ?_, ?_⟩
          · have r2 := hw'.out.nb.b1.cell 2
            have r3 := hw'.out.nb.b1.cell 3
            have r4 := hw'.out.nb.b1.cell 4
            simp at r2 r3 r4
            simp [go_sem, r2, r3, r4]
          go_big_quiet_on
          repeat (first | go_big_quiet_skip | (go_big_quiet_want; go_big_quiet_op; first | go_big_quiet_on | (refine ⟨_, fun _ _ => rfl, ?_⟩; go_big_quiet_on)))
          go_big_quiet_want
          go_big_quiet_op
          go_big_quiet_call ((intro hw; exact (stok_any g y x.say x.ask x.tell _).mono fun _ _ ⟨he, hb⟩ => ⟨he, Nk.on hw hb⟩))
          repeat (first | go_big_quiet_skip | (go_big_quiet_want; go_big_quiet_op; first | go_big_quiet_on | (refine ⟨_, fun _ _ => rfl, ?_⟩; go_big_quiet_on)))
          refine wpQuiet_nil ?_
          intro w5 hw5
          clear HD
          go_wp2
          go_ret
          exact ⟨rfl, hw5.out.nb.be⟩
  · have hxd : (x.key == 0) = false := by simp [hx]
    have HX := Lib.hid (show (decide (x.key = 0) && katB ns x.on && tokB g (nth (keysN ns) x.on.toNat) x.say x.ask x.tell) = false by simp [hx])
    rw [HX.out]
    clear hx
    go_enter Tryd.func37, Tryd.ntmps37
    go_wp2
    go_loopw [5] (fun i wr => ∃ k : Nat, k ≤ n ∧ i = .int .i64 k ∧ Hid (NotN ns x k) ∧ Hid (Nb w [.int .i64 g, .slice a n c] [.int .i64 x.key, .int .i64 x.on, .int .i64 x.say, .int .i64 x.ask, .int .i64 x.tell] wr)) (fun i _ => n - (intOf i).toNat)
    case atStart => exact ⟨0, by omega, rfl, Lib.hid (NotN.zero _ _), N0⟩
    case round =>
      obtain ⟨k, hk, rfl, hj, hb⟩ := hrel
      obtain ⟨wo, rfl⟩ : ∃ wo : World, wo = wr := ⟨_, rfl⟩
      have q := hb.out.b1
      have p0 := hb.out.b0.cell 0
      have p1 := hb.out.b0.cell 1
      have q0 := q.cell 0
      have q1 := q.cell 1
      have q2 := q.cell 2
      have q3 := q.cell 3
      have q4 := q.cell 4
      simp at p0 p1 q0 q1 q2 q3 q4
      clear q
      by_cases hlt : k < n
      · obtain ⟨G, rfl, _, hc⟩ := HC.out _ hb.out.be k hlt
        obtain ⟨y, hy⟩ : ∃ y, nthN ns k = y := ⟨_, rfl⟩
        rw [hy] at hc
        obtain ⟨c0, c1, c2, c3, c4⟩ := hc
        have hlt1 : (k : Int) < (n : Int) := by omega
        cases he : ntB y x
        · have HJ : Hid (NotN ns x (k + 1)) := Lib.hid (hj.out.succ (by rw [hy]; exact he))
          clear hj hy
          go_wp2_with fail
          go_quiet (fail)
          clear c0 c1 c2 c3 c4 p0 p1 q0 q1 q2 q3 q4
          go_wp2
          go_roundw
          case rel => exact ⟨k + 1, by omega, by go_num, HJ, Lib.hid (hb.out.on (below_drewN (Below.refl _ _) _))⟩
          case measure => simp [intOf]; omega
        · have HE := Lib.hid he
          have HYK := Lib.hid hy
          clear hy
          exact absurd (HNO.out k hlt) (by rw [HYK.out, HE.out]; decide)
      · obtain rfl : k = n := by omega
        go_wp2_with fail
        refine (skeys_any g _ ns _ (H.out.on hb.out.be) HL.out).mono ?_
        rintro e w1 ⟨u, rfl, ou, hb1⟩
        obtain ⟨ua, uc, hu, hc9⟩ := (Ints.of_own ou HML.out).opened
        rw [HM.out] at hu
        subst hu
        have N1 : Hid (Nk w [.int .i64 g, .slice a k c] [.int .i64 x.key, .int .i64 x.on, .int .i64 x.say, .int .i64 x.ask, .int .i64 x.tell] (.slice a k c) ns (.slice ua m uc) (keysN ns) w1) := Lib.hid ⟨hb.out.on hb1, (H.out.on hb.out.be).on hb1, Ints.of_own ou HML.out⟩
        clear hb1 ou hb hc9 p0 p1 q0 q1 q2 q3 q4
        have q11 := N1.out.nb.b1.cell 1
        simp at q11
        go_upto_region 9 with (fail)
        clear q11
        have HD : Hid (Nk w [.int .i64 g, .slice a k c] [.int .i64 x.key, .int .i64 x.on, .int .i64 x.say, .int .i64 x.ask, .int .i64 x.tell] (.slice a k c) ns (.slice ua m uc) (keysN ns) w1.drew) := Nk.on N1 (Below.refl _ _).drew
        go_wp2_with fail
        refine wp_region_class (C := fun w' => Hid (Nk w [.int .i64 g, .slice a k c] [.int .i64 x.key, .int .i64 x.on, .int .i64 x.say, .int .i64 x.ask, .int .i64 x.tell] (.slice a k c) ns (.slice ua m uc) (keysN ns) w')) (by kernel_rfl) (by kernel_rfl) HD ?_
        repeat (first | go_big_quiet_skip | (go_big_quiet_want; go_big_quiet_op; first | go_big_quiet_on | (refine ⟨_, fun _ _ => rfl, ?_⟩; go_big_quiet_on)))
        go_big_quiet_want
        go_big_quiet_op
        refine ⟨.int .i64 x.key, fun w' hw' => ?_, ?_⟩
        · have q := hw'.out.nb.b1.cell 0
          simp at q
          simp [go_sem, q]
        go_big_quiet_on
        repeat (first | go_big_quiet_skip | (go_big_quiet_want; go_big_quiet_op; first | go_big_quiet_on | (refine ⟨_, fun _ _ => rfl, ?_⟩; go_big_quiet_on)))
        refine wpQuiet_nil ?_
        intro w5 hw5
        clear HD
        go_wp2
        go_ret
        exact ⟨rfl, hw5.out.nb.be⟩

theorem snt_any (g : Int) (v : Value) (ns : List Nt) (x : Nt) (w : World) (h : Nts w v ns) (hl : ns.length ≤ 2000000) : Calls Tryd.prog 37 #[.agg #[.int .i64 g, v], .agg #[.int .i64 x.key, .int .i64 x.on, .int .i64 x.say, .int .i64 x.ask, .int .i64 x.tell]] w fun e w' => e = .returned (.bool (fitB g ns x)) ∧ Below w.heap.size w w' := by
  cases hh : hasN ns x
  · by_cases ho : x.on = -1
    · rw [fit_key hh ho]; exact snt_key g v ns x w h hl hh ho
    · rw [fit_on hh ho]; exact snt_on g v ns x w h hl hh ho
  · rw [fit_has hh]; exact snt_has g v ns x w h hh
theorem snt_is {g : Int} {v : Value} {ns : List Nt} {x : Nt} {w : World} {b : Bool} (hb : fitB g ns x = b) (h : Nts w v ns) (hl : ns.length ≤ 2000000) : Calls Tryd.prog 37 #[.agg #[.int .i64 g, v], .agg #[.int .i64 x.key, .int .i64 x.on, .int .i64 x.say, .int .i64 x.ask, .int .i64 x.tell]] w fun e w' => e = .returned (.bool b) ∧ Below w.heap.size w w' := by rw [← hb]; exact snt_any g v ns x w h hl

structure Bk (w : World) (P : List Value) (v : Value) (ns : List Nt) (w' : World) : Prop where
  ib : InB w P 29 w'
  nt : Nts w' v ns
theorem Bk.on {w w1 w2 : World} {P : List Value} {v : Value} {ns : List Nt} (h : Hid (Bk w P v ns w1)) (hb : Below w1.heap.size w1 w2) : Hid (Bk w P v ns w2) := Lib.hid ⟨h.out.ib.on hb, h.out.nt.on hb⟩
set_option maxRecDepth 20000 in
set_option maxHeartbeats 3200000 in
theorem sbrd_any (g : Int) (v : Value) (ns : List Nt) (w : World) (h : Nts w v ns) (hl : ns.length ≤ 2000000) : Calls Tryd.prog 11 #[.agg #[.int .i64 g, v]] w fun e w' => e = .returned (.bool (brdB g ns)) ∧ Below w.heap.size w w' := by
  obtain ⟨a, c, rfl, k1⟩ := h.opened
  obtain ⟨n, hn⟩ : ∃ n, ns.length = n := ⟨_, rfl⟩
  have hcp := k1.cap
  have hmax := k1.max
  have HA := Lib.hid (fun k (hk : k < n) => k1.get k (by rw [hn]; exact hk))
  have HAT : Hid (∀ w', Nts w' (.slice a n c) ns → ∀ k, k < n → ∃ G, a = some ⟨G, 0, none⟩ ∧ G < w'.heap.size ∧ NtAt w' G k (nthN ns k)) := Lib.hid (fun w' M k hk => by
    obtain ⟨a1, c1, q1, m1⟩ := M.opened
    obtain ⟨G, E, hl, A1⟩ := m1.get k (by rw [hn]; exact hk)
    cases q1
    exact ⟨G, E, hl, A1⟩)
  have HP : Hid (∀ w', Nts w' (.slice a n c) ns → ∀ k, k < n → Nts w' (.slice a k c) (ns.take k)) := Lib.hid (fun w' M k hk => M.pre hn (by omega) (Nat.le_of_lt hk))
  have HPL := Lib.hid (fun k => Nat.le_trans (List.length_take_le' k ns) hl)
  have HBN := Lib.hid (fun k (hk : k < n) (hf : fitB g (ns.take k) (nthN ns k) = false) => brd_no (by rw [hn]; exact hk) hf)
  have HBY := Lib.hid (show FitTo g ns n → brdB g ns = (gok g && decide (n ≤ 12)) from fun hf => by have := brd_fits (show FitTo g ns ns.length by rw [hn]; exact hf); rw [hn] at this; exact this)
  have M0 : Hid (Bk w [.int .i64 g, .slice a n c] (.slice a n c) ns (w.alloc (.cells #[.int .i64 g, .slice a n c] 29))) := Lib.hid ⟨InB.start w [.int .i64 g, .slice a n c] 29, by have := h.on (below_grow w (.cells #[.int .i64 g, .slice a ns.length c] 29)); rw [hn] at this; exact this⟩
  rw [hn] at hcp hl hmax ⊢
  unfold maxLen at hmax
  clear h k1 hn
  go_enter Tryd.func11, Tryd.ntmps11
  go_wp2
  go_loopw [3] (fun i wr => ∃ k : Nat, k ≤ n ∧ i = .int .i64 k ∧ Hid (FitTo g ns k) ∧ Hid (Bk w [.int .i64 g, .slice a n c] (.slice a n c) ns wr)) (fun i _ => n - (intOf i).toNat)
  case atStart => exact ⟨0, by omega, rfl, Lib.hid (FitTo.zero _ _), M0⟩
  case round =>
    obtain ⟨k, hk, rfl, hf, M⟩ := hrel
    obtain ⟨wo, rfl⟩ : ∃ wo : World, wo = wr := ⟨_, rfl⟩
    have p0 := M.out.ib.box.cell 0
    have p1 := M.out.ib.box.cell 1
    simp at p0 p1
    by_cases hlt : k < n
    · obtain ⟨A, rfl, _, _⟩ := HA.out k hlt
      obtain ⟨y, hy⟩ : ∃ y, nthN ns k = y := ⟨_, rfl⟩
      have HYK := Lib.hid hy
      have hlt1 : (k : Int) < (n : Int) := by omega
      have hkc : k ≤ c := by omega
      clear hy
      cases hfit : fitB g (ns.take k) y
      · have HF := Lib.hid hfit
        clear hfit
        have HD : Hid (Bk w [.int .i64 g, .slice (some ⟨A, 0, none⟩) n c] (.slice (some ⟨A, 0, none⟩) n c) ns wo.drew) := Bk.on M (Below.refl _ _).drew
        go_wp2_with fail
        refine wp_region_class (C := fun w' => Hid (Bk w [.int .i64 g, .slice (some ⟨A, 0, none⟩) n c] (.slice (some ⟨A, 0, none⟩) n c) ns w')) (by kernel_rfl) (by kernel_rfl) HD ?_
        repeat (first | go_big_quiet_skip | (go_big_quiet_want; go_big_quiet_op; first | go_big_quiet_on | (refine ⟨_, fun _ _ => rfl, ?_⟩; go_big_quiet_on)))
        go_big_quiet_want
        go_big_quiet_op
        refine ⟨.int .i64 g, fun w' hw' => ?_, ?_⟩
        · have q := hw'.out.ib.box.cell 0
          simp at q
          simp [go_sem, q]
        go_big_quiet_on
        repeat (first | go_big_quiet_skip | (go_big_quiet_want; go_big_quiet_op; first | go_big_quiet_on | (refine ⟨_, fun _ _ => rfl, ?_⟩; go_big_quiet_on)))
        go_big_quiet_want
        go_big_quiet_op
        refine ⟨.slice (some ⟨A, 0, none⟩) n c, fun w' hw' => ?_, ?_⟩
        · have q := hw'.out.ib.box.cell 1
          simp at q
          simp [go_sem, q]
        go_big_quiet_on
        repeat (first | go_big_quiet_skip | (go_big_quiet_want; go_big_quiet_op; first | go_big_quiet_on | (refine ⟨_, fun _ _ => rfl, ?_⟩; go_big_quiet_on)))
        go_big_quiet_want
        go_big_quiet_op
        refine ⟨.slice (some ⟨A, 0, none⟩) n c, fun w' hw' => ?_, ?_⟩
        · have q := hw'.out.ib.box.cell 1
          simp at q
          simp [go_sem, q]
        go_big_quiet_on
        repeat (first | go_big_quiet_skip | (go_big_quiet_want; go_big_quiet_op; first | go_big_quiet_on | (refine ⟨_, fun _ _ => rfl, ?_⟩; go_big_quiet_on)))
        go_big_quiet_want
        go_big_quiet_op
        refine ⟨.agg #[.int .i64 y.key, .int .i64 y.on, .int .i64 y.say, .int .i64 y.ask, .int .i64 y.tell], fun w' hw' => ?_, ?_⟩
        · obtain ⟨G9, e9, _, q0, q1, q2, q3, q4⟩ := HAT.out _ hw'.out.nt k hlt
          cases e9
          rw [HYK.out] at q0 q1 q2 q3 q4
          simp [go_sem, q0, q1, q2, q3, q4]
        go_big_quiet_on
        repeat (first | go_big_quiet_skip | (go_big_quiet_want; go_big_quiet_op; first | go_big_quiet_on | (refine ⟨_, fun _ _ => rfl, ?_⟩; go_big_quiet_on)))
        go_big_quiet_want
        go_big_quiet_op
        go_big_quiet_call ((intro hw; exact (snt_is HF.out (HP.out _ hw.out.nt k hlt) (HPL.out k)).mono fun _ _ ⟨he, hb⟩ => ⟨he, Bk.on hw hb⟩))
        repeat (first | go_big_quiet_skip | (go_big_quiet_want; go_big_quiet_op; first | go_big_quiet_on | (refine ⟨_, fun _ _ => rfl, ?_⟩; go_big_quiet_on)))
        refine wpQuiet_nil ?_
        intro w5 hw5
        clear HD M
        have HX := Lib.hid (HBN.out k hlt (by rw [HYK.out]; exact HF.out))
        go_wp2
        go_ret
        exact ⟨by rw [HX.out]; try rfl, hw5.out.ib.fin⟩
      · have HF := Lib.hid hfit
        clear hfit
        have HD : Hid (Bk w [.int .i64 g, .slice (some ⟨A, 0, none⟩) n c] (.slice (some ⟨A, 0, none⟩) n c) ns wo.drew) := Bk.on M (Below.refl _ _).drew
        go_wp2_with fail
        refine wp_region_class (C := fun w' => Hid (Bk w [.int .i64 g, .slice (some ⟨A, 0, none⟩) n c] (.slice (some ⟨A, 0, none⟩) n c) ns w')) (by kernel_rfl) (by kernel_rfl) HD ?_
        repeat (first | go_big_quiet_skip | (go_big_quiet_want; go_big_quiet_op; first | go_big_quiet_on | (refine ⟨_, fun _ _ => rfl, ?_⟩; go_big_quiet_on)))
        go_big_quiet_want
        go_big_quiet_op
        refine ⟨.int .i64 g, fun w' hw' => ?_, ?_⟩
        · have q := hw'.out.ib.box.cell 0
          simp at q
          simp [go_sem, q]
        go_big_quiet_on
        repeat (first | go_big_quiet_skip | (go_big_quiet_want; go_big_quiet_op; first | go_big_quiet_on | (refine ⟨_, fun _ _ => rfl, ?_⟩; go_big_quiet_on)))
        go_big_quiet_want
        go_big_quiet_op
        refine ⟨.slice (some ⟨A, 0, none⟩) n c, fun w' hw' => ?_, ?_⟩
        · have q := hw'.out.ib.box.cell 1
          simp at q
          simp [go_sem, q]
        go_big_quiet_on
        repeat (first | go_big_quiet_skip | (go_big_quiet_want; go_big_quiet_op; first | go_big_quiet_on | (refine ⟨_, fun _ _ => rfl, ?_⟩; go_big_quiet_on)))
        go_big_quiet_want
        go_big_quiet_op
        refine ⟨.slice (some ⟨A, 0, none⟩) n c, fun w' hw' => ?_, ?_⟩
        · have q := hw'.out.ib.box.cell 1
          simp at q
          simp [go_sem, q]
        go_big_quiet_on
        repeat (first | go_big_quiet_skip | (go_big_quiet_want; go_big_quiet_op; first | go_big_quiet_on | (refine ⟨_, fun _ _ => rfl, ?_⟩; go_big_quiet_on)))
        go_big_quiet_want
        go_big_quiet_op
        refine ⟨.agg #[.int .i64 y.key, .int .i64 y.on, .int .i64 y.say, .int .i64 y.ask, .int .i64 y.tell], fun w' hw' => ?_, ?_⟩
        · obtain ⟨G9, e9, _, q0, q1, q2, q3, q4⟩ := HAT.out _ hw'.out.nt k hlt
          cases e9
          rw [HYK.out] at q0 q1 q2 q3 q4
          simp [go_sem, q0, q1, q2, q3, q4]
        go_big_quiet_on
        repeat (first | go_big_quiet_skip | (go_big_quiet_want; go_big_quiet_op; first | go_big_quiet_on | (refine ⟨_, fun _ _ => rfl, ?_⟩; go_big_quiet_on)))
        go_big_quiet_want
        go_big_quiet_op
        go_big_quiet_call ((intro hw; exact (snt_is HF.out (HP.out _ hw.out.nt k hlt) (HPL.out k)).mono fun _ _ ⟨he, hb⟩ => ⟨he, Bk.on hw hb⟩))
        repeat (first | go_big_quiet_skip | (go_big_quiet_want; go_big_quiet_op; first | go_big_quiet_on | (refine ⟨_, fun _ _ => rfl, ?_⟩; go_big_quiet_on)))
        refine wpQuiet_nil ?_
        intro w5 hw5
        clear HD M
        have F4 := Lib.hid (hf.out.succ (by rw [HYK.out]; exact HF.out))
        clear hf
        go_wp2
        go_roundw
        case rel => exact ⟨k + 1, by omega, by go_num, F4, hw5⟩
        case measure => simp [intOf]; omega
    · obtain rfl : k = n := by omega
      have HX := Lib.hid (HBY.out hf.out)
      clear hf
      cases hg : gok g
      · have HG : Hid ((decide ((0 : Int) ≤ g) && decide (g ≤ 3)) = false) := Lib.hid (by rw [← hg]; unfold gok; congr 1; rw [Bool.eq_iff_iff, decide_eq_true_iff, decide_eq_true_iff]; omega)
        have HR := Lib.hid (show brdB g ns = false by rw [HX.out, hg]; rfl)
        clear hg
        go_wp2_with fail
        refine (l1In_at HG.out _).mono ?_
        rintro e w1 ⟨rfl, rfl⟩
        go_wp2
        go_ret
        exact ⟨by rw [HR.out]; try rfl, M.out.ib.fin⟩
      · have HG : Hid ((decide ((0 : Int) ≤ g) && decide (g ≤ 3)) = true) := Lib.hid (by rw [← hg]; unfold gok; congr 1; rw [Bool.eq_iff_iff, decide_eq_true_iff, decide_eq_true_iff]; omega)
        by_cases h12 : k ≤ 12
        · have hd : decide ((k : Int) ≤ 12) = true := by simp; omega
          have HR := Lib.hid (show brdB g ns = true by rw [HX.out, hg]; simpa using h12)
          clear hg
          go_wp2_with fail
          refine (l1In_at HG.out _).mono ?_
          rintro e w1 ⟨rfl, rfl⟩
          go_wp2
          go_ret
          exact ⟨by rw [HR.out]; try rfl, M.out.ib.fin⟩
        · have hd : decide ((k : Int) ≤ 12) = false := by simp; omega
          have HR := Lib.hid (show brdB g ns = false by rw [HX.out, hg]; simpa using h12)
          clear hg
          go_wp2_with fail
          refine (l1In_at HG.out _).mono ?_
          rintro e w1 ⟨rfl, rfl⟩
          go_wp2
          go_ret
          exact ⟨by rw [HR.out]; try rfl, M.out.ib.fin⟩
end Go.Proofs.YtiinifcepcaonaaDoor
