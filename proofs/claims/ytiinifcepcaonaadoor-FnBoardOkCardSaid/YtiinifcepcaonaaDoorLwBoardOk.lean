/- The law FnBoardOk, walked. -/
import Derived.Test.YtiinifcepcaonaaDoorLwKn
namespace Go.Proofs.YtiinifcepcaonaaDoor
open Go.RowKit

theorem brd_last {g : Int} {ns : List Nt} (h : brdB g ns = true) (k : Nat) {b : Bool} (hb : brdB g (ns.take k) = b) : b = true := by rw [← hb]; exact brd_take h k
set_option maxRecDepth 100000 in
set_option maxHeartbeats 6400000 in
theorem lBoardOk_walk (s : Value) (w : World) (h : CodeIn w s) (G : Gr w) : Calls Tryd.prog 6 #[s] w fun e w' => e = .returned (.bool true) ∧ Below w.heap.size w w' := by
  obtain ⟨a0, len0, cap0, rfl⟩ := h.slice
  have H := Lib.hid h; clear h
  have G0 := Lib.hid G; clear G
  by_cases hl : 1048576 < len0
  · go_enter Tryd.func6, Tryd.ntmps6
    go_wp2
    go_ret
    exact ⟨rfl, Below.refl _ _⟩
  go_enter Tryd.func6, Tryd.ntmps6
  go_wp2_with fail
  refine (drawBoardOk_any _ _ H.out).mono ?_
  rintro e w1 ⟨g, v, ns, rfl, oo, hlen, hb⟩
  obtain ⟨va, vc, ev⟩ := OwnN.form oo
  subst ev
  have N1 := Lib.hid (Nts.of_own oo (by unfold maxLen; omega))
  have T1 := Lib.hid hb
  clear oo hb
  obtain ⟨nl, hnl⟩ : ∃ n, ns.length = n := ⟨_, rfl⟩
  have HNL := Lib.hid hnl
  rw [hnl] at N1 ⊢
  obtain ⟨w2, hw2⟩ : ∃ z, z = w1.alloc (.cells #[.int .i64 g, .slice va nl vc] 29) := ⟨_, rfl⟩
  have HB2 := Lib.hid (show Below w1.heap.size w1 w2 by rw [hw2]; exact below_grow _ _)
  have S2 : Hid (Kn w w1.heap.size [.int .i64 g, .slice va nl vc] (.slice va nl vc) ns (.slice none 0 0) [] w2) := Lib.hid ⟨Below.on T1.out HB2.out, by rw [hw2]; exact Box.made w1 _ _, N1.out.on HB2.out, .inl ⟨rfl, rfl⟩⟩
  have HL := Lib.hid hlen
  have HCV := Lib.hid (show nl ≤ vc from by obtain ⟨a', c', e, k1⟩ := S2.out.nt.opened; cases e; exact HNL.out ▸ k1.cap)
  clear hlen hnl N1 T1 HB2
  have q0 := S2.out.bx.cell 0
  have q1 := S2.out.bx.cell 1
  simp at q0 q1
  rw [hw2] at q0 q1
  go_wp2_with fail
  rw [← hw2]
  refine (ibrd_any g _ ns _ (G0.out.on S2.out.be) S2.out.nt (by have := HL.out; omega)).mono ?_
  rintro e w3 ⟨rfl, hb⟩
  have S3 := Lib.hid (S2.out.on hb)
  clear hb q0 q1 S2 hw2
  have q0 := S3.out.bx.cell 0
  have q1 := S3.out.bx.cell 1
  simp at q0 q1
  go_wp2_with fail
  refine (sbrd_any g _ ns _ S3.out.nt (by have := HL.out; omega)).mono ?_
  rintro e w4 ⟨rfl, hb⟩
  have S4 := Lib.hid (S3.out.on hb)
  have hbb : (brdB g ns != brdB g ns) = false := by simp
  clear hb S3 q0 q1
  have q0 := S4.out.bx.cell 0
  have q1 := S4.out.bx.cell 1
  simp at q0 q1
  cases hbd : brdB g ns
  · rw [hbd] at hbb
    go_wp2_with fail
    refine (alive_any _ (G0.out.on S4.out.be)).mono ?_
    rintro e wz ⟨rfl, rfl⟩
    go_wp2
    go_ret
    exact ⟨rfl, S4.out.be⟩
  have HBD := Lib.hid hbd
  rw [hbd] at hbb
  clear hbd
  by_cases h0 : nl = 0
  · subst h0
    go_wp2_with fail
    refine (alive_any _ (G0.out.on S4.out.be)).mono ?_
    rintro e wz ⟨rfl, rfl⟩
    go_wp2
    go_ret
    exact ⟨rfl, S4.out.be⟩
  have hn0 : ¬ (nl : Int) = 0 := by omega
  have hn20 : nl ≤ 20 := by have := HL.out; have := HNL.out; omega
  go_wp2_with fail
  refine (ikon_any g _ ns _ (G0.out.on S4.out.be) S4.out.nt (by have := HL.out; omega)).mono ?_
  rintro e w5 ⟨u, rfl, oo, hb⟩
  obtain ⟨a, c, eu⟩ := Own.form oo
  subst eu
  have HKL := Lib.hid (konL_len g ns)
  obtain ⟨n, hn⟩ : ∃ n, (konL g ns).length = n := ⟨_, rfl⟩
  rw [hn] at oo ⊢
  have S5 := Lib.hid ((S4.out.on hb).keys (Ints.of_own oo (by have := HKL.out; unfold maxLen; omega)))
  have HN := Lib.hid hn
  have hn12 : n ≤ 12 := by have := HKL.out; rwa [hn] at this
  clear oo hb hn q0 q1 S4
  go_wp2
  go_loopw [6] (fun i wr => ∃ k : Nat, k ≤ nl ∧ i = .int .i64 k ∧ Hid ((fun w' => Kn w w1.heap.size [.int .i64 g, .slice va nl vc] (.slice va nl vc) ns (.slice a n c) (konL g ns) w') wr)) (fun i _ => nl - (intOf i).toNat)
  case atStart => exact ⟨0, by omega, rfl, S5⟩
  case round =>
    obtain ⟨k, hk, rfl, S6⟩ := hrel
    obtain ⟨wo, rfl⟩ : ∃ wo : World, wo = wr := ⟨_, rfl⟩
    clear S5
    have qb := S6.out.bx.cell 1
    simp at qb
    by_cases hlt : k < nl
    · have hk1 : (k : Int) < (nl : Int) := by omega
      have htk := brd_talk HBD.out (k := k) (by rw [HNL.out]; exact hlt)
      rw [← konL_yes HBD.out, HN.out] at htk
      obtain ⟨x, hx⟩ : ∃ x, nthN ns k = x := ⟨_, rfl⟩
      rw [hx] at htk
      obtain ⟨Gn, rfl⟩ : ∃ X, va = some ⟨X, 0, none⟩ := by
        obtain ⟨a', c', e, k1⟩ := S6.out.nt.opened
        cases e
        obtain ⟨X, e2, _⟩ := k1.get k (by rw [HNL.out]; exact hlt)
        exact ⟨X, e2⟩
      have HAT : Hid (∀ w', (fun w' => Kn w w1.heap.size [.int .i64 g, .slice (some ⟨Gn, 0, none⟩) nl vc] (.slice (some ⟨Gn, 0, none⟩) nl vc) ns (.slice a n c) (konL g ns) w') w' → NtAt w' Gn k x) := Lib.hid (fun w' hw => by
        obtain ⟨a', c', e, k1⟩ := hw.nt.opened
        cases e
        obtain ⟨X', e2, _, e3⟩ := k1.get k (by rw [HNL.out]; exact hlt)
        cases e2
        rw [hx] at e3
        exact e3)
      obtain ⟨c0, c1, c2, c3, c4⟩ := HAT.out _ S6.out
      clear hx
      have HD : Hid ((fun w' => Kn w w1.heap.size [.int .i64 g, .slice (some ⟨Gn, 0, none⟩) nl vc] (.slice (some ⟨Gn, 0, none⟩) nl vc) ns (.slice a n c) (konL g ns) w') wo.drew) := Lib.hid (S6.out.on (Below.refl _ _).drew)
      rcases htk with ho | ⟨o0, o1, htok⟩
      · have hge : decide ((n : Int) ≤ -1) = false := by simp; omega
        rw [ho] at c1
        go_wp2_with fail
        refine wp_region_class (C := fun w' => Hid ((fun w' => Kn w w1.heap.size [.int .i64 g, .slice (some ⟨Gn, 0, none⟩) nl vc] (.slice (some ⟨Gn, 0, none⟩) nl vc) ns (.slice a n c) (konL g ns) w') w')) (by kernel_rfl) (by kernel_rfl) HD ?_
        repeat (first | go_big_quiet_skip | (go_big_quiet_want; go_big_quiet_op; first | go_big_quiet_on | (refine ⟨_, fun _ _ => rfl, ?_⟩; go_big_quiet_on)))
        refine wpQuiet_nil ?_
        intro w7 hw7
        clear HD S6 c0 c1 c2 c3 c4
        go_wp2
        go_roundw
        case rel => exact ⟨k + 1, by omega, by go_num, hw7⟩
        case measure => simp [intOf]; omega
      · obtain ⟨m, hm⟩ := Int.eq_ofNat_of_zero_le o0
        have hmn : m < n := by omega
        rw [hm] at c1 htok
        have hge : decide ((n : Int) ≤ (m : Int)) = false := by simp; omega
        have hge2 : decide (n ≤ m) = false := by simp; omega
        have hm0 : decide ((0 : Int) ≤ (m : Int)) = true := by simp
        have hmn1 : (m : Int) < (n : Int) := by omega
        have HTOK : Hid (tokB g (nth (konL g ns) m) x.say x.ask x.tell = true) := Lib.hid (by rw [Int.toNat_natCast] at htok; exact htok)
        obtain ⟨X, rfl⟩ : ∃ X, a = some ⟨X, 0, none⟩ := by
          obtain ⟨a', c', e, k1⟩ := S6.out.ks.opened
          cases e
          obtain ⟨X, e2, _⟩ := k1.get m (by rw [HN.out]; exact hmn)
          exact ⟨X, e2⟩
        have HC : Hid (∀ w', (fun w' => Kn w w1.heap.size [.int .i64 g, .slice (some ⟨Gn, 0, none⟩) nl vc] (.slice (some ⟨Gn, 0, none⟩) nl vc) ns (.slice (some ⟨X, 0, none⟩) n c) (konL g ns) w') w' → w'.cell? ⟨X, m, none⟩ = some (.int .i64 (nth (konL g ns) m))) := Lib.hid (fun w' hw => by
          obtain ⟨a', c', e, k1⟩ := hw.ks.opened
          cases e
          obtain ⟨X', e2, _, e3⟩ := k1.get m (by rw [HN.out]; exact hmn)
          cases e2
          exact e3)
        clear htok
        go_wp2_with fail
        refine wp_region_class (C := fun w' => Hid ((fun w' => Kn w w1.heap.size [.int .i64 g, .slice (some ⟨Gn, 0, none⟩) nl vc] (.slice (some ⟨Gn, 0, none⟩) nl vc) ns (.slice (some ⟨X, 0, none⟩) n c) (konL g ns) w') w')) (by kernel_rfl) (by kernel_rfl) HD ?_
        repeat (first | go_big_quiet_skip | (go_big_quiet_want; go_big_quiet_op; first | go_big_quiet_on | (refine ⟨_, fun _ _ => rfl, ?_⟩; go_big_quiet_on)))
        go_big_quiet_want
        go_big_quiet_op
        refine ⟨.int .i64 g, fun w' hw' => ?_, ?_⟩
        · have qa := hw'.out.bx.cell 0
          simp at qa
          simp [go_sem, qa]
        go_big_quiet_on
        repeat (first | go_big_quiet_skip | (go_big_quiet_want; go_big_quiet_op; first | go_big_quiet_on | (refine ⟨_, fun _ _ => rfl, ?_⟩; go_big_quiet_on)))
        go_big_quiet_want
        go_big_quiet_op
        refine ⟨.int .i64 (nth (konL g ns) m), fun w' hw' => ?_, ?_⟩
        · have qa := HC.out _ hw'.out
          simp [go_sem, qa]
        go_big_quiet_on
        repeat (first | go_big_quiet_skip | (go_big_quiet_want; go_big_quiet_op; first | go_big_quiet_on | (refine ⟨_, fun _ _ => rfl, ?_⟩; go_big_quiet_on)))
        go_big_quiet_want
        go_big_quiet_op
        refine ⟨.slice (some ⟨Gn, 0, none⟩) nl vc, fun w' hw' => ?_, ?_⟩
        · have qa := hw'.out.bx.cell 1
          simp at qa
          simp [go_sem, qa]
        go_big_quiet_on
        repeat (first | go_big_quiet_skip | (go_big_quiet_want; go_big_quiet_op; first | go_big_quiet_on | (refine ⟨_, fun _ _ => rfl, ?_⟩; go_big_quiet_on)))
        go_big_quiet_want
        go_big_quiet_op
        refine ⟨.agg #[.int .i64 x.say, .int .i64 x.ask, .int .i64 x.tell], fun w' hw' => ?_, ?_⟩
        · obtain ⟨d0, d1, d2, d3, d4⟩ := HAT.out _ hw'.out
          simp [go_sem, d2, d3, d4]
        go_big_quiet_on
        repeat (first | go_big_quiet_skip | (go_big_quiet_want; go_big_quiet_op; first | go_big_quiet_on | (refine ⟨_, fun _ _ => rfl, ?_⟩; go_big_quiet_on)))
        go_big_quiet_want
        go_big_quiet_op
        go_big_quiet_call ((intro hw; exact (itok_any g (nth (konL g ns) m) x.say x.ask x.tell _ (G0.out.on hw.out.be)).mono fun _ _ ⟨he, hb⟩ => ⟨by rw [he, HTOK.out], Lib.hid (hw.out.on hb)⟩))
        repeat (first | go_big_quiet_skip | (go_big_quiet_want; go_big_quiet_op; first | go_big_quiet_on | (refine ⟨_, fun _ _ => rfl, ?_⟩; go_big_quiet_on)))
        refine wpQuiet_nil ?_
        intro w7 hw7
        clear HD S6 c0 c1 c2 c3 c4
        go_wp2
        go_roundw
        case rel => exact ⟨k + 1, by omega, by go_num, hw7⟩
        case measure => simp [intOf]; omega
    · obtain rfl : k = nl := by omega
      have hsl : (k : Int) - 1 = ((k - 1 : Nat) : Int) := by omega
      have hcv := HCV.out
      have hk1c : k - 1 ≤ vc := by omega
      have HD : Hid ((fun w' => Kn w w1.heap.size [.int .i64 g, .slice va k vc] (.slice va k vc) ns (.slice a n c) (konL g ns) w') wo.drew) := Lib.hid (S6.out.on (Below.refl _ _).drew)
      have HT := Lib.hid (brd_take HBD.out (k - 1))
      go_wp2_with fail
      refine wp_region_class (C := fun w' => Hid ((fun w' => Kn w w1.heap.size [.int .i64 g, .slice va k vc] (.slice va k vc) ns (.slice a n c) (konL g ns) w') w')) (by kernel_rfl) (by kernel_rfl) HD ?_
      repeat (first | go_big_quiet_skip | (go_big_quiet_want; go_big_quiet_op; first | go_big_quiet_on | (refine ⟨_, fun _ _ => rfl, ?_⟩; go_big_quiet_on)))
      go_big_quiet_want
      go_big_quiet_op
      refine ⟨.int .i64 g, fun w' hw' => ?_, ?_⟩
      · have qa := hw'.out.bx.cell 0
        simp at qa
        simp [go_sem, qa]
      go_big_quiet_on
      repeat (first | go_big_quiet_skip | (go_big_quiet_want; go_big_quiet_op; first | go_big_quiet_on | (refine ⟨_, fun _ _ => rfl, ?_⟩; go_big_quiet_on)))
      go_big_quiet_want
      go_big_quiet_op
      refine ⟨.slice va k vc, fun w' hw' => ?_, ?_⟩
      · have qa := hw'.out.bx.cell 1
        simp at qa
        simp [go_sem, qa]
      go_big_quiet_on
      repeat (first | go_big_quiet_skip | (go_big_quiet_want; go_big_quiet_op; first | go_big_quiet_on | (refine ⟨_, fun _ _ => rfl, ?_⟩; go_big_quiet_on)))
      go_big_quiet_want
      go_big_quiet_op
      refine ⟨.slice va k vc, fun w' hw' => ?_, ?_⟩
      · have qa := hw'.out.bx.cell 1
        simp at qa
        simp [go_sem, qa]
      go_big_quiet_on
      repeat (first | go_big_quiet_skip | (go_big_quiet_want; go_big_quiet_op; first | go_big_quiet_on | (refine ⟨_, fun _ _ => rfl, ?_⟩; go_big_quiet_on)))
      go_big_quiet_want
      go_big_quiet_op
      go_big_quiet_call ((intro hw; exact (ibrd_any g _ (ns.take (k - 1)) _ (G0.out.on hw.out.be) (hw.out.nt.pre HNL.out (by omega) (by omega)) (by rw [List.length_take]; omega)).mono fun _ _ ⟨he, hb⟩ => ⟨by rw [he, HT.out], Lib.hid (hw.out.on hb)⟩))
      repeat (first | go_big_quiet_skip | (go_big_quiet_want; go_big_quiet_op; first | go_big_quiet_on | (refine ⟨_, fun _ _ => rfl, ?_⟩; go_big_quiet_on)))
      refine wpQuiet_nil ?_
      intro w7 hw7
      go_wp2
      go_ret
      exact ⟨rfl, hw7.out.be⟩
end Go.Proofs.YtiinifcepcaonaaDoor
