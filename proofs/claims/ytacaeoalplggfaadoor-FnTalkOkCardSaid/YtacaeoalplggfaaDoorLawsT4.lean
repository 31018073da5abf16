/- The law of TalkOk, walked. -/
import Derived.Test.YtacaeoalplggfaaDoorLawsT
import Derived.Test.YtacaeoalplggfaaDoorRegionG
namespace Go.Proofs.YtacaeoalplggfaaDoor
open Go.RowKit

/-- Later than w6; the box that the region makes: not yet, made, written. -/
def Gz (w6 : World) (x y v : Int) : Option (Nat × Bool) → World → Prop
  | none, w => Below w6.heap.size w6 w
  | some (b, false), w => Below w6.heap.size w6 w ∧ w6.heap.size ≤ b ∧ Box w b 0 0 0
  | some (b, true), w => Below w6.heap.size w6 w ∧ w6.heap.size ≤ b ∧ Box w b x y v
theorem Gz.later {w6 w : World} {x y v : Int} {z : Option (Nat × Bool)} (h : Gz w6 x y v z w) : Below w6.heap.size w6 w := by
  match z, h with
  | none, h => exact h
  | some (b, false), h => exact h.1
  | some (b, true), h => exact h.1
theorem Gz.on {w6 w w' : World} {x y v : Int} {z : Option (Nat × Bool)} (h : Hid (Gz w6 x y v z w)) (hb : Below w.heap.size w w') : Hid (Gz w6 x y v z w') := by
  have hl := h.out.later.trans (hb.mono h.out.later.size)
  match z, h with
  | none, _ => exact Lib.hid hl
  | some (b, false), h => exact Lib.hid ⟨hl, h.out.2.1, h.out.2.2.below hb⟩
  | some (b, true), h => exact Lib.hid ⟨hl, h.out.2.1, h.out.2.2.below hb⟩

theorem Box.drewN {w : World} {N : Nat} {s a t : Int} (h : Box w N s a t) (m : Nat) : Box (w.drewN m) N s a t := h.below (below_drewN (Below.refl _ _) m)
theorem Box.drew {w : World} {N : Nat} {s a t : Int} (h : Box w N s a t) : Box w.drew N s a t := h.below (Below.refl _ _).drew
set_option maxHeartbeats 1600000 in
theorem lTalkOk_walk (s : Value) (w : World) (h : CodeIn w s) (G : Gr w) : Calls Tryd.prog 5 #[s] w fun e w' => e = .returned (.bool true) ∧ Below w.heap.size w w' := by
  obtain ⟨a0, len0, cap0, rfl⟩ := h.slice
  have H := Lib.hid h; clear h
  have G0 := Lib.hid G; clear G
  have B0 := Lib.hid (Below.refl w.heap.size w)
  by_cases hl : 1048576 < len0
  · go_enter Tryd.func5, Tryd.ntmps5
    go_wp2
    go_ret
    exact ⟨rfl, Below.refl _ _⟩
  go_enter Tryd.func5, Tryd.ntmps5
  go_wp2_with fail
  refine (drawTalkOk_any _ _ H.out).mono ?_
  rintro e w1 ⟨g, key, s, a, t, rfl, lg, ls, la, lt, hb⟩
  have B1 := Lib.hid hb
  have G1 := Lib.hid (G0.out.on hb)
  clear hb
  go_wp2_with fail
  obtain ⟨w2, hw⟩ : ∃ wz, wz = w1.alloc (.cells #[.int .i64 (s), .int .i64 (a), .int .i64 (t)] 33) := ⟨_, rfl⟩
  have hb : Below w1.heap.size w1 w2 := by rw [hw]; exact below_alloc _ _
  have X2 : Hid (Box w2 w1.heap.size (s) (a) (t)) := Lib.hid (by rw [hw]; exact Box.new _ _ _ _)
  have B2 := Lib.hid (B1.out.trans (hb.mono B1.out.size))
  have G2 := Lib.hid (G1.out.on hb)
  rw [← hw]
  clear hb hw
  obtain ⟨⟨c0, c1, c2⟩, _⟩ := Box.cells X2.out
  have hlx := X2.out.lt
  go_wp2_with fail
  refine (itok_any _ _ _ _ _ _ G2.out).mono ?_
  rintro e w3 ⟨rfl, hb⟩
  have X3 := Lib.hid (X2.out.below hb)
  have B3 := Lib.hid (B2.out.trans (hb.mono B2.out.size))
  have G3 := Lib.hid (G2.out.on hb)
  clear hb
  clear c0 c1 c2 hlx
  obtain ⟨⟨c0, c1, c2⟩, _⟩ := Box.cells X3.out
  have hlx := X3.out.lt
  go_wp2_with fail
  refine (stok_any _ _ _ _ _ _).mono ?_
  rintro e w4 ⟨rfl, hb⟩
  have X4 := Lib.hid (X3.out.below hb)
  have B4 := Lib.hid (B3.out.trans (hb.mono B3.out.size))
  have G4 := Lib.hid (G3.out.on hb)
  clear hb
  clear c0 c1 c2 hlx
  obtain ⟨⟨c0, c1, c2⟩, _⟩ := Box.cells X4.out
  have hlx := X4.out.lt
  cases hk : elB g key
  · have HX := Lib.hid (show tokB g key s a t = false by unfold tokB; rw [hk]; rfl)
    go_wp2_with fail
    refine (sel_any _ _ _).mono ?_
    rintro e w5 ⟨rfl, hb⟩
    have B5 := Lib.hid (B4.out.trans (hb.mono B4.out.size))
    have G5 := Lib.hid (G4.out.on hb)
    clear hb
    rw [HX.out]
    go_wp2_with fail
    refine (alive_any _ G5.out).mono ?_
    rintro e wz_ ⟨rfl, rfl⟩
    go_wp2
    go_ret
    exact ⟨rfl, B5.out⟩
  · cases hs : elB g s
    · have HX := Lib.hid (show tokB g key s a t = false by unfold tokB; rw [hk, hs]; rfl)
      go_wp2_with fail
      refine (sel_any _ _ _).mono ?_
      rintro e w5 ⟨rfl, hb⟩
      have X5 := Lib.hid (X4.out.below hb)
      have B5 := Lib.hid (B4.out.trans (hb.mono B4.out.size))
      have G5 := Lib.hid (G4.out.on hb)
      clear hb
      clear c0 c1 c2 hlx
      obtain ⟨⟨c0, c1, c2⟩, _⟩ := Box.cells X5.out
      have hlx := X5.out.lt
      go_wp2_with fail
      refine (sel_any _ _ _).mono ?_
      rintro e w6 ⟨rfl, hb⟩
      have X6 := Lib.hid (X5.out.below hb)
      have B6 := Lib.hid (B5.out.trans (hb.mono B5.out.size))
      have G6 := Lib.hid (G5.out.on hb)
      clear hb
      rw [HX.out]
      go_wp2_with fail
      refine (alive_any _ G6.out).mono ?_
      rintro e wz_ ⟨rfl, rfl⟩
      go_wp2
      go_ret
      exact ⟨rfl, B6.out⟩
    · have HT := Lib.hid (tok_true_talk (ask := a) (tell := t) hk hs)
      have HE := Lib.hid (el_gp hs)
      have HK := Lib.hid (glog_ex hk)
      have HSx := Lib.hid (glog_ex hs)
      go_wp2_with fail
      refine (sel_any _ _ _).mono ?_
      rintro e w5 ⟨rfl, hb⟩
      have X5 := Lib.hid (X4.out.below hb)
      have B5 := Lib.hid (B4.out.trans (hb.mono B4.out.size))
      have G5 := Lib.hid (G4.out.on hb)
      clear hb
      clear c0 c1 c2 hlx
      obtain ⟨⟨c0, c1, c2⟩, _⟩ := Box.cells X5.out
      have hlx := X5.out.lt
      go_wp2_with fail
      refine (sel_any _ _ _).mono ?_
      rintro e w6 ⟨rfl, hb⟩
      have X6 := Lib.hid (X5.out.below hb)
      have B6 := Lib.hid (B5.out.trans (hb.mono B5.out.size))
      have G6 := Lib.hid (G5.out.on hb)
      clear hb
      clear c0 c1 c2 hlx
      obtain ⟨⟨c0, c1, c2⟩, _⟩ := Box.cells X6.out
      have hlx := X6.out.lt
      go_wp2_with fail
      refine (ibas_any _ _ G6.out).mono ?_
      rintro e wz_ ⟨rfl, rfl⟩
      cases ha : exB g a
      · have HQ := Lib.hid (show tokB g key s a t = false by rw [HT.out, ha]; rfl)
        have hlx3 := X6.out.lt
        clear c0 c1 c2 hlx
        go_wp2_with fail
        apply wp_region_G (n := 16) (S := fun k => k == 16 || k == 17) (C := fun z w' => Hid (Gz w6 (0) (0) (0) z w')) none
        · kernel_rfl
        · kernel_rfl
        · kernel_rfl
        · rfl
        · exact Lib.hid (Below.refl _ _).drew
        · intro z
          dsimp only [List.take]
          repeat (first | go_big_quiet_skip | (go_big_quiet_want; go_big_quiet_op; first | go_big_quiet_on | (refine ⟨_, fun _ _ => rfl, ?_⟩; go_big_quiet_on)))
          go_big_quiet_want
          go_big_quiet_op
          go_big_quiet_call ((intro hw; exact (ilog_any g (bas g) key _ (G6.out.on hw.out.later)).mono fun _ _ ⟨he, m, hb⟩ => ⟨he, Gz.on hw (by rw [hb]; exact below_drewN (Below.refl _ _) m)⟩))
          repeat (first | go_big_quiet_skip | (go_big_quiet_want; go_big_quiet_op; first | go_big_quiet_on | (refine ⟨_, fun _ _ => rfl, ?_⟩; go_big_quiet_on)))
          go_big_quiet_want
          go_big_quiet_op
          refine ⟨.int .i64 s, fun w' hw' => ?_, ?_⟩
          · have q := (Box.cells (X6.out.below hw'.out.later)).1.1
            simp [go_sem, q]
          go_big_quiet_on
          repeat (first | go_big_quiet_skip | (go_big_quiet_want; go_big_quiet_op; first | go_big_quiet_on | (refine ⟨_, fun _ _ => rfl, ?_⟩; go_big_quiet_on)))
          go_big_quiet_want
          go_big_quiet_op
          go_big_quiet_call ((intro hw; exact (ilog_any g (bas g) s _ (G6.out.on hw.out.later)).mono fun _ _ ⟨he, m, hb⟩ => ⟨he, Gz.on hw (by rw [hb]; exact below_drewN (Below.refl _ _) m)⟩))
          repeat (first | go_big_quiet_skip | (go_big_quiet_want; go_big_quiet_op; first | go_big_quiet_on | (refine ⟨_, fun _ _ => rfl, ?_⟩; go_big_quiet_on)))
          go_big_quiet_want
          go_big_quiet_op
          refine ⟨.int .i64 a, fun w' hw' => ?_, ?_⟩
          · have q := (Box.cells (X6.out.below hw'.out.later)).1.2.1
            simp [go_sem, q]
          go_big_quiet_on
          repeat (first | go_big_quiet_skip | (go_big_quiet_want; go_big_quiet_op; first | go_big_quiet_on | (refine ⟨_, fun _ _ => rfl, ?_⟩; go_big_quiet_on)))
          go_big_quiet_want
          go_big_quiet_op
          go_big_quiet_call ((intro hw; exact (italk_no g (glog g (bas g) key) (glog g (bas g) s) a _ (G6.out.on hw.out.later) (fun h => by rw [ha] at h; exact absurd h.2.2 (by decide))).mono fun _ _ ⟨he, hb⟩ => ⟨he, Gz.on hw hb⟩))
          repeat (first | go_big_quiet_skip | (go_big_quiet_want; go_big_quiet_op; first | go_big_quiet_on | (refine ⟨_, fun _ _ => rfl, ?_⟩; go_big_quiet_on)))
          exact wpQuiet_nil rfl
        refine wpAnyG_special (i := 16) (by kernel_rfl) rfl rfl rfl fun wa ha0 => ?_
        refine ⟨.pointer (some ⟨wa.heap.size, 0, none⟩), wa.alloc (.cells #[.int .i64 0, .int .i64 0, .int .i64 0] 33), some (wa.heap.size, false), .inl ?_, Lib.hid ⟨ha0.out.alloc ha0.out.size _, ha0.out.size, Box.new _ _ _ _⟩, ?_⟩
        · kernel_rfl
        refine wpAnyG_special (i := 17) (by kernel_rfl) rfl rfl rfl fun ws hs0 => ?_
        obtain ⟨⟨k0, k1, k2⟩, f0, f1, f2⟩ := Box.cells hs0.out.2.2
        refine ⟨undef, ((ws.setCell ⟨wa.heap.size, 0, none⟩ (.int .i64 (0))).setCell ⟨wa.heap.size, 1, none⟩ (.int .i64 (0))).setCell ⟨wa.heap.size, 2, none⟩ (.int .i64 (0)), some (wa.heap.size, true), .inr ⟨?_, rfl⟩,
          Lib.hid ⟨((hs0.out.1.setCell hs0.out.2.1 _).setCell hs0.out.2.1 _).setCell hs0.out.2.1 _, hs0.out.2.1, ((hs0.out.2.2.set0 _).set1 _).set2 _⟩, ?_⟩
        · simp [go_sem, Act.put, k0, k1, k2, f0, f1, f2]
        refine wpAnyG_assign (i := 18) (.tmp 62) (by kernel_rfl) rfl rfl rfl rfl ⟨by kernel_rfl, fun wz hz => ?_⟩
        clear hs0 ha0 k0 k1 k2 f0 f1 f2
        obtain ⟨hz1, hz2, hz3⟩ := hz.out
        clear hz
        obtain ⟨⟨c0, c1, c2⟩, _⟩ := Box.cells (X6.out.below hz1)
        obtain ⟨⟨d0, d1, d2⟩, _⟩ := Box.cells hz3
        have hq := HQ.out
        have tg := talkGuard
        have te := run_equal_talk
        simp only [Act.put, Act.eval]
        go_wp2
        go_ret
        exact ⟨rfl, B6.out.trans (hz1.mono B6.out.size)⟩
      · have HQ := Lib.hid (show (tokB g key s a t == talkB (gp g (bas g) (glog g (bas g) s)) a (tellOf g (glog g (bas g) key) (glog g (bas g) s) a) s a t) = true by rw [HT.out, HE.out, ha]; simp [talkB])
        have hlx3 := X6.out.lt
        clear c0 c1 c2 hlx
        go_wp2_with fail
        apply wp_region_G (n := 16) (S := fun k => k == 16 || k == 17) (C := fun z w' => Hid (Gz w6 (gp g (bas g) (glog g (bas g) s)) (a) (tellOf g (glog g (bas g) key) (glog g (bas g) s) a) z w')) none
        · kernel_rfl
        · kernel_rfl
        · kernel_rfl
        · rfl
        · exact Lib.hid (Below.refl _ _).drew
        · intro z
          dsimp only [List.take]
          repeat (first | go_big_quiet_skip | (go_big_quiet_want; go_big_quiet_op; first | go_big_quiet_on | (refine ⟨_, fun _ _ => rfl, ?_⟩; go_big_quiet_on)))
          go_big_quiet_want
          go_big_quiet_op
          go_big_quiet_call ((intro hw; exact (ilog_any g (bas g) key _ (G6.out.on hw.out.later)).mono fun _ _ ⟨he, m, hb⟩ => ⟨he, Gz.on hw (by rw [hb]; exact below_drewN (Below.refl _ _) m)⟩))
          repeat (first | go_big_quiet_skip | (go_big_quiet_want; go_big_quiet_op; first | go_big_quiet_on | (refine ⟨_, fun _ _ => rfl, ?_⟩; go_big_quiet_on)))
          go_big_quiet_want
          go_big_quiet_op
          refine ⟨.int .i64 s, fun w' hw' => ?_, ?_⟩
          · have q := (Box.cells (X6.out.below hw'.out.later)).1.1
            simp [go_sem, q]
          go_big_quiet_on
          repeat (first | go_big_quiet_skip | (go_big_quiet_want; go_big_quiet_op; first | go_big_quiet_on | (refine ⟨_, fun _ _ => rfl, ?_⟩; go_big_quiet_on)))
          go_big_quiet_want
          go_big_quiet_op
          go_big_quiet_call ((intro hw; exact (ilog_any g (bas g) s _ (G6.out.on hw.out.later)).mono fun _ _ ⟨he, m, hb⟩ => ⟨he, Gz.on hw (by rw [hb]; exact below_drewN (Below.refl _ _) m)⟩))
          repeat (first | go_big_quiet_skip | (go_big_quiet_want; go_big_quiet_op; first | go_big_quiet_on | (refine ⟨_, fun _ _ => rfl, ?_⟩; go_big_quiet_on)))
          go_big_quiet_want
          go_big_quiet_op
          refine ⟨.int .i64 a, fun w' hw' => ?_, ?_⟩
          · have q := (Box.cells (X6.out.below hw'.out.later)).1.2.1
            simp [go_sem, q]
          go_big_quiet_on
          repeat (first | go_big_quiet_skip | (go_big_quiet_want; go_big_quiet_op; first | go_big_quiet_on | (refine ⟨_, fun _ _ => rfl, ?_⟩; go_big_quiet_on)))
          go_big_quiet_want
          go_big_quiet_op
          go_big_quiet_call ((intro hw; exact (italk_yes g (glog g (bas g) key) (glog g (bas g) s) a _ (G6.out.on hw.out.later) HK.out HSx.out ha).mono fun _ _ ⟨he, hb⟩ => ⟨he, Gz.on hw hb⟩))
          repeat (first | go_big_quiet_skip | (go_big_quiet_want; go_big_quiet_op; first | go_big_quiet_on | (refine ⟨_, fun _ _ => rfl, ?_⟩; go_big_quiet_on)))
          exact wpQuiet_nil rfl
        refine wpAnyG_special (i := 16) (by kernel_rfl) rfl rfl rfl fun wa ha0 => ?_
        refine ⟨.pointer (some ⟨wa.heap.size, 0, none⟩), wa.alloc (.cells #[.int .i64 0, .int .i64 0, .int .i64 0] 33), some (wa.heap.size, false), .inl ?_, Lib.hid ⟨ha0.out.alloc ha0.out.size _, ha0.out.size, Box.new _ _ _ _⟩, ?_⟩
        · kernel_rfl
        refine wpAnyG_special (i := 17) (by kernel_rfl) rfl rfl rfl fun ws hs0 => ?_
        obtain ⟨⟨k0, k1, k2⟩, f0, f1, f2⟩ := Box.cells hs0.out.2.2
        refine ⟨undef, ((ws.setCell ⟨wa.heap.size, 0, none⟩ (.int .i64 (gp g (bas g) (glog g (bas g) s)))).setCell ⟨wa.heap.size, 1, none⟩ (.int .i64 (a))).setCell ⟨wa.heap.size, 2, none⟩ (.int .i64 (tellOf g (glog g (bas g) key) (glog g (bas g) s) a)), some (wa.heap.size, true), .inr ⟨?_, rfl⟩,
          Lib.hid ⟨((hs0.out.1.setCell hs0.out.2.1 _).setCell hs0.out.2.1 _).setCell hs0.out.2.1 _, hs0.out.2.1, ((hs0.out.2.2.set0 _).set1 _).set2 _⟩, ?_⟩
        · simp [go_sem, Act.put, k0, k1, k2, f0, f1, f2]
        refine wpAnyG_assign (i := 18) (.tmp 62) (by kernel_rfl) rfl rfl rfl rfl ⟨by kernel_rfl, fun wz hz => ?_⟩
        clear hs0 ha0 k0 k1 k2 f0 f1 f2
        obtain ⟨hz1, hz2, hz3⟩ := hz.out
        clear hz
        obtain ⟨⟨c0, c1, c2⟩, _⟩ := Box.cells (X6.out.below hz1)
        obtain ⟨⟨d0, d1, d2⟩, _⟩ := Box.cells hz3
        have hq := HQ.out
        have tg := talkGuard
        have te := run_equal_talk
        simp only [Act.put, Act.eval]
        go_wp2
        go_ret
        exact ⟨rfl, B6.out.trans (hz1.mono B6.out.size)⟩

end Go.Proofs.YtacaeoalplggfaaDoor
