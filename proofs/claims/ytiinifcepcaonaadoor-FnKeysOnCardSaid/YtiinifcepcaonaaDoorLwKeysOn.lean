/- The law FnKeysOn, walked. -/
import Derived.Test.YtiinifcepcaonaaDoorLwKn
namespace Go.Proofs.YtiinifcepcaonaaDoor
open Go.RowKit

set_option maxRecDepth 100000 in
set_option maxHeartbeats 6400000 in
theorem lKeysOn_walk (s : Value) (w : World) (h : CodeIn w s) (G : Gr w) : Calls Tryd.prog 8 #[s] w fun e w' => e = .returned (.bool true) ∧ Below w.heap.size w w' := by
  obtain ⟨a0, len0, cap0, rfl⟩ := h.slice
  have H := Lib.hid h; clear h
  have G0 := Lib.hid G; clear G
  by_cases hl : 1048576 < len0
  · go_enter Tryd.func8, Tryd.ntmps8
    go_wp2
    go_ret
    exact ⟨rfl, Below.refl _ _⟩
  go_enter Tryd.func8, Tryd.ntmps8
  go_wp2_with fail
  refine (drawKeysOn_any _ _ H.out).mono ?_
  rintro e w1 ⟨g, v, ns, rfl, oo, hlen, hb⟩
  obtain ⟨va, vc, ev⟩ := OwnN.form oo
  subst ev
  have N1 := Lib.hid (Nts.of_own oo (by unfold maxLen; omega))
  have T1 := Lib.hid hb
  clear oo hb
  obtain ⟨nl, hnl⟩ : ∃ n, ns.length = n := ⟨_, rfl⟩
  have HNL := Lib.hid hnl
  rw [hnl] at N1 ⊢
  obtain ⟨w2, hw2⟩ : ∃ z, z = w1.alloc (.cells #[.int .i64 g, .slice va nl vc] 29) := ⟨_, rfl⟩
  have HB2 := Lib.hid (show Below w1.heap.size w1 w2 by rw [hw2]; exact below_grow _ _)
  have S2 : Hid (Kn w w1.heap.size [.int .i64 g, .slice va nl vc] (.slice va nl vc) ns (.slice none 0 0) [] w2) := Lib.hid ⟨Below.on T1.out HB2.out, by rw [hw2]; exact Box.made w1 _ _, N1.out.on HB2.out, .inl ⟨rfl, rfl⟩⟩
  have HL := Lib.hid hlen
  clear hlen hnl N1 T1 HB2
  have q0 := S2.out.bx.cell 0
  have q1 := S2.out.bx.cell 1
  simp at q0 q1
  rw [hw2] at q0 q1
  go_wp2_with fail
  rw [← hw2]
  refine (ikon_any g _ ns _ (G0.out.on S2.out.be) S2.out.nt (by have := HL.out; omega)).mono ?_
  rintro e w3 ⟨u, rfl, oo, hb⟩
  obtain ⟨a, c, eu⟩ := Own.form oo
  subst eu
  have HKL := Lib.hid (konL_len g ns)
  obtain ⟨n, hn⟩ : ∃ n, (konL g ns).length = n := ⟨_, rfl⟩
  rw [hn] at oo ⊢
  have S3 := Lib.hid ((S2.out.on hb).keys (Ints.of_own oo (by have := HKL.out; unfold maxLen; omega)))
  have HN := Lib.hid hn
  have HCP := Lib.hid (show n ≤ c from Own.capped oo _ _ _ rfl)
  have hn12 : n ≤ 12 := by have := HKL.out; rwa [hn] at this
  clear oo hb hn q0 q1 S2 hw2
  have q0 := S3.out.bx.cell 0
  have q1 := S3.out.bx.cell 1
  simp at q0 q1
  go_wp2_with fail
  refine (skon_any g _ ns _ S3.out.nt (by have := HL.out; omega)).mono ?_
  rintro e w4 ⟨u2, rfl, oo, hb⟩
  have S4 := Lib.hid (S3.out.on hb)
  have I4 := Lib.hid (Ints.of_own oo (by have := HKL.out; unfold maxLen; omega))
  clear oo hb S3 q0 q1
  go_wp2_with fail
  refine (same_eq _ _ (konL g ns) _ S4.out.ks I4.out).mono ?_
  rintro e w5 ⟨rfl, hb⟩
  have S5 := Lib.hid (S4.out.on hb)
  clear hb S4 I4
  go_wp2
  go_loopw [5] (fun i wr => ∃ k : Nat, k ≤ n ∧ i = .int .i64 k ∧ Hid ((fun w' => Kn w w1.heap.size [.int .i64 g, .slice va nl vc] (.slice va nl vc) ns (.slice a n c) (konL g ns) w') wr)) (fun i _ => n - (intOf i).toNat)
  case atStart => exact ⟨0, by omega, rfl, S5⟩
  case round =>
    obtain ⟨k, hk, rfl, S6⟩ := hrel
    obtain ⟨wo, rfl⟩ : ∃ wo : World, wo = wr := ⟨_, rfl⟩
    clear S5
    by_cases hlt : k < n
    · have hk1 : (k : Int) < (n : Int) := by omega
      obtain ⟨X, rfl⟩ : ∃ X, a = some ⟨X, 0, none⟩ := by
        obtain ⟨a', c', e, k1⟩ := S6.out.ks.opened
        cases e
        obtain ⟨X, e2, _⟩ := k1.get k (by rw [HN.out]; exact hlt)
        exact ⟨X, e2⟩
      have HC : Hid (∀ w', (fun w' => Kn w w1.heap.size [.int .i64 g, .slice va nl vc] (.slice va nl vc) ns (.slice (some ⟨X, 0, none⟩) n c) (konL g ns) w') w' → w'.cell? ⟨X, k, none⟩ = some (.int .i64 (nth (konL g ns) k))) := Lib.hid (fun w' hw => by
        obtain ⟨a', c', e, k1⟩ := hw.ks.opened
        cases e
        obtain ⟨X', e2, _, e3⟩ := k1.get k (by rw [HN.out]; exact hlt)
        cases e2
        exact e3)
      have HEL := Lib.hid (kon_el (g := g) (ns := ns) (k := k) (by rw [HN.out]; exact hlt))
      have HNW := Lib.hid (kon_new (g := g) (ns := ns) (k := k) (by rw [HN.out]; exact hlt))
      have hcap := HCP.out
      have hkc : k ≤ c := by omega
      have HD : Hid ((fun w' => Kn w w1.heap.size [.int .i64 g, .slice va nl vc] (.slice va nl vc) ns (.slice (some ⟨X, 0, none⟩) n c) (konL g ns) w') wo.drew) := Lib.hid (S6.out.on (Below.refl _ _).drew)
      go_wp2_with fail
      refine wp_region_class (C := fun w' => Hid ((fun w' => Kn w w1.heap.size [.int .i64 g, .slice va nl vc] (.slice va nl vc) ns (.slice (some ⟨X, 0, none⟩) n c) (konL g ns) w') w')) (by kernel_rfl) (by kernel_rfl) HD ?_
      repeat (first | go_big_quiet_skip | (go_big_quiet_want; go_big_quiet_op; first | go_big_quiet_on | (refine ⟨_, fun _ _ => rfl, ?_⟩; go_big_quiet_on)))
      go_big_quiet_want
      go_big_quiet_op
      refine ⟨.int .i64 g, fun w' hw' => ?_, ?_⟩
      · have qa := hw'.out.bx.cell 0
        simp at qa
        simp [go_sem, qa]
      go_big_quiet_on
      repeat (first | go_big_quiet_skip | (go_big_quiet_want; go_big_quiet_op; first | go_big_quiet_on | (refine ⟨_, fun _ _ => rfl, ?_⟩; go_big_quiet_on)))
      go_big_quiet_want
      go_big_quiet_op
      refine ⟨.int .i64 (nth (konL g ns) k), fun w' hw' => ?_, ?_⟩
      · have qa := HC.out _ hw'.out
        simp [go_sem, qa]
      go_big_quiet_on
      repeat (first | go_big_quiet_skip | (go_big_quiet_want; go_big_quiet_op; first | go_big_quiet_on | (refine ⟨_, fun _ _ => rfl, ?_⟩; go_big_quiet_on)))
      go_big_quiet_want
      go_big_quiet_op
      go_big_quiet_call ((intro hw; exact (iel_any g (nth (konL g ns) k) _ (G0.out.on hw.out.be)).mono fun _ _ ⟨he, m, hw2⟩ => ⟨by rw [he, HEL.out], Lib.hid (by rw [hw2]; exact hw.out.on (below_drewN (Below.refl _ _) _))⟩))
      repeat (first | go_big_quiet_skip | (go_big_quiet_want; go_big_quiet_op; first | go_big_quiet_on | (refine ⟨_, fun _ _ => rfl, ?_⟩; go_big_quiet_on)))
      go_big_quiet_want
      go_big_quiet_op
      refine ⟨.int .i64 (nth (konL g ns) k), fun w' hw' => ?_, ?_⟩
      · have qa := HC.out _ hw'.out
        simp [go_sem, qa]
      go_big_quiet_on
      repeat (first | go_big_quiet_skip | (go_big_quiet_want; go_big_quiet_op; first | go_big_quiet_on | (refine ⟨_, fun _ _ => rfl, ?_⟩; go_big_quiet_on)))
      go_big_quiet_want
      go_big_quiet_op
      go_big_quiet_call ((intro hw; exact (has_any _ ((konL g ns).take k) (nth (konL g ns) k) _ (hw.out.ks.preB HN.out (by omega) (Nat.le_of_lt hlt))).mono fun _ _ ⟨he, hw2⟩ => ⟨by rw [he, HNW.out], by rw [← hw2]; exact hw⟩))
      repeat (first | go_big_quiet_skip | (go_big_quiet_want; go_big_quiet_op; first | go_big_quiet_on | (refine ⟨_, fun _ _ => rfl, ?_⟩; go_big_quiet_on)))
      refine wpQuiet_nil ?_
      intro w7 hw7
      clear HD S6
      go_wp2
      go_roundw
      case rel => exact ⟨k + 1, by omega, by go_num, hw7⟩
      case measure => simp [intOf]; omega
    · obtain rfl : k = n := by omega
      go_wp2_with fail
      refine (alive_any _ (G0.out.on S6.out.be)).mono ?_
      rintro e wz ⟨rfl, rfl⟩
      go_wp2
      go_ret
      exact ⟨rfl, S6.out.be⟩
end Go.Proofs.YtiinifcepcaonaaDoor
