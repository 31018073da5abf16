/- Laws of chapter 2, walked. -/
import Derived.Test.YtacaeoalplggfaaDoorLawsA
import Derived.Test.YtacaeoalplggfaaDoorImplT
import Derived.Test.YtacaeoalplggfaaDoorDrawV
import Derived.Test.YtacaeoalplggfaaDoorTalkEq
namespace Go.Proofs.YtacaeoalplggfaaDoor
open Go.RowKit

theorem Box.below {w w' : World} {N : Nat} {s a t : Int} (h : Box w N s a t) (hb : Below w.heap.size w w') : Box w' N s a t := (hb.block N h.lt).trans h

/-- Later than W, a box kept. -/
structure Bt (W : World) (N : Nat) (s a t : Int) (w : World) : Prop where
  box : Box w N s a t
  gr : Gr w
  below : Below W.heap.size W w
theorem Bt.on {W w w' : World} {N : Nat} {s a t : Int} (h : Hid (Bt W N s a t w)) (hb : Below w.heap.size w w') : Hid (Bt W N s a t w') := Lib.hid ⟨h.out.box.below hb, h.out.gr.on hb, h.out.below.trans (hb.mono h.out.below.size)⟩
theorem ilog_bt {W w : World} {N : Nat} {s a t : Int} (g b x : Int) (h : Hid (Bt W N s a t w)) : Calls Tryd.prog 13 #[.int .i64 g, .int .i64 b, .int .i64 x] w fun e w' => e = .returned (.int .i64 (glog g b x)) ∧ Hid (Bt W N s a t w') :=
  (ilog_any g b x w h.out.gr).mono fun _ _ ⟨he, m, hw⟩ => ⟨he, Bt.on h (by rw [hw]; exact below_drewN (Below.refl _ _) m)⟩
theorem italk_bt_yes {W w : World} {N : Nat} {s a t : Int} (g secret further ask : Int) (h : Hid (Bt W N s a t w)) (h1 : exB g secret = true) (h2 : exB g further = true) (h3 : exB g ask = true) :
    Calls Tryd.prog 16 #[.int .i64 g, .int .i64 secret, .int .i64 further, .int .i64 ask] w fun e w' => e = .returned (.tuple #[.agg #[.int .i64 (gp g (bas g) further), .int .i64 ask, .int .i64 (tellOf g secret further ask)], .bool true]) ∧ Hid (Bt W N s a t w') :=
  (italk_yes g secret further ask w h.out.gr h1 h2 h3).mono fun _ _ ⟨he, hb⟩ => ⟨he, Bt.on h hb⟩
theorem italk_bt_no {W w : World} {N : Nat} {s a t : Int} (g secret further ask : Int) (h : Hid (Bt W N s a t w)) (hx : ¬ (exB g secret = true ∧ exB g further = true ∧ exB g ask = true)) :
    Calls Tryd.prog 16 #[.int .i64 g, .int .i64 secret, .int .i64 further, .int .i64 ask] w fun e w' => e = .returned (.tuple #[.agg #[.int .i64 0, .int .i64 0, .int .i64 0], .bool false]) ∧ Hid (Bt W N s a t w') :=
  (italk_no g secret further ask w h.out.gr hx).mono fun _ _ ⟨he, hb⟩ => ⟨he, Bt.on h hb⟩

theorem lKeyOf_walk (s : Value) (w : World) (h : CodeIn w s) (G : Gr w) : Calls Tryd.prog 3 #[s] w fun e w' => e = .returned (.bool true) ∧ Below w.heap.size w w' := by
  obtain ⟨a0, len0, cap0, rfl⟩ := h.slice
  have H := Lib.hid h; clear h
  have G0 := Lib.hid G; clear G
  have B0 := Lib.hid (Below.refl w.heap.size w)
  by_cases hl : 1048576 < len0
  · go_enter Tryd.func3, Tryd.ntmps3
    go_wp2
    go_ret
    exact ⟨rfl, Below.refl _ _⟩
  go_enter Tryd.func3, Tryd.ntmps3
  go_wp2_with fail
  refine (drawKeyOf_any _ _ H.out).mono ?_
  rintro e w1 ⟨g, secret, rfl, lg, la, hb⟩
  have B1 := Lib.hid hb
  have G1 := Lib.hid (G0.out.on hb)
  clear hb
  go_wp2_with fail
  refine (ikey_any _ _ _ G1.out).mono ?_
  rintro e w2 ⟨rfl, hb⟩
  have B2 := Lib.hid (B1.out.trans (hb.mono B1.out.size))
  have G2 := Lib.hid (G1.out.on hb)
  clear hb
  go_wp2_with fail
  refine (skey_any _ _ _).mono ?_
  rintro e w3 ⟨rfl, hb⟩
  have B3 := Lib.hid (B2.out.trans (hb.mono B2.out.size))
  have G3 := Lib.hid (G2.out.on hb)
  clear hb
  by_cases hx : keyOf g secret < 0
  · have he : (keyOf g secret == -1) = true := by rw [key_neg hx]; rfl
    go_wp2_with fail
    refine (alive_any _ G3.out).mono ?_
    rintro e wz_ ⟨rfl, rfl⟩
    go_wp2
    go_ret
    exact ⟨rfl, B3.out⟩
  · have hx0 : 0 ≤ keyOf g secret := by omega
    have HK := Lib.hid (key_log (key_pos hx0))
    have hx' : ¬ keyOf g secret < 0 := hx
    clear hx
    go_wp2_with fail
    refine (ibas_any _ _ G3.out).mono ?_
    rintro e wz_ ⟨rfl, rfl⟩
    go_wp2_with fail
    refine (ilog_any _ _ _ _ G3.out).mono ?_
    rintro e wl ⟨rfl, ml, hwl⟩
    have BL : Hid (Below w.heap.size w wl) := Lib.hid (by rw [hwl]; exact below_drewN B3.out ml)
    clear hwl
    rw [HK.out]
    go_wp2
    go_ret
    exact ⟨rfl, BL.out⟩

theorem lSecretFrom_walk (s : Value) (w : World) (h : CodeIn w s) (G : Gr w) : Calls Tryd.prog 7 #[s] w fun e w' => e = .returned (.bool true) ∧ Below w.heap.size w w' := by
  obtain ⟨a0, len0, cap0, rfl⟩ := h.slice
  have H := Lib.hid h; clear h
  have G0 := Lib.hid G; clear G
  have B0 := Lib.hid (Below.refl w.heap.size w)
  by_cases hl : 1048576 < len0
  · go_enter Tryd.func7, Tryd.ntmps7
    go_wp2
    go_ret
    exact ⟨rfl, Below.refl _ _⟩
  go_enter Tryd.func7, Tryd.ntmps7
  go_wp2_with fail
  refine (drawSecretFrom_any _ _ H.out).mono ?_
  rintro e w1 ⟨g, key, s1, a1, t1, s2, a2, t2, rfl, lg, hb⟩
  have B1 := Lib.hid hb
  have G1 := Lib.hid (G0.out.on hb)
  clear hb
  go_wp2_with fail
  obtain ⟨w2, hw⟩ : ∃ wz, wz = ((w1.alloc (.cells #[.int .i64 s1, .int .i64 a1, .int .i64 t1] 33)).alloc (.cells #[.int .i64 s2, .int .i64 a2, .int .i64 t2] 33)) := ⟨_, rfl⟩
  have hb : Below w1.heap.size w1 w2 := by rw [hw]; exact (below_alloc _ _).trans ((Below.refl w1.heap.size _).alloc (by simp) _)
  have M2 : Hid (B2x w1 s1 a1 t1 s2 a2 t2 w2) := by rw [hw]; exact B2x.start _ _ _ _ _ _ _
  have B2 := Lib.hid (B1.out.trans (hb.mono B1.out.size))
  have G2 := Lib.hid (G1.out.on hb)
  rw [← hw]
  clear hb hw
  cases hs : secB g key s1 a1 t1 s2 a2 t2
  · go_wp2_with fail
    refine (isec_no _ _ _ _ _ _ _ _ _ G2.out hs).mono ?_
    rintro e w3 ⟨rfl, hb⟩
    have M3 := B2x.on M2 hb
    have B3 := Lib.hid (B2.out.trans (hb.mono B2.out.size))
    have G3 := Lib.hid (G2.out.on hb)
    clear hb
    obtain ⟨⟨c0, c1, c2⟩, d0, d1, d2⟩ := B2x.cells M3
    go_wp2_with fail
    refine (ssec_no _ _ _ _ _ _ _ _ _ hs).mono ?_
    rintro e w4 ⟨rfl, hb⟩
    have M4 := B2x.on M3 hb
    have B4 := Lib.hid (B3.out.trans (hb.mono B3.out.size))
    have G4 := Lib.hid (G3.out.on hb)
    clear hb
    go_wp2_with fail
    refine (alive_any _ G4.out).mono ?_
    rintro e wz_ ⟨rfl, rfl⟩
    go_wp2
    go_ret
    exact ⟨rfl, B4.out⟩
  · obtain ⟨h1, h2, h3, h4⟩ := secB_true.1 hs
    have HK := Lib.hid (secret_key h1 (by rw [h3]; exact h2) h4).2
    clear h1 h2 h3 h4
    go_wp2_with fail
    refine (isec_yes _ _ _ _ _ _ _ _ _ G2.out hs).mono ?_
    rintro e w3 ⟨rfl, hb⟩
    have M3 := B2x.on M2 hb
    have B3 := Lib.hid (B2.out.trans (hb.mono B2.out.size))
    have G3 := Lib.hid (G2.out.on hb)
    clear hb
    obtain ⟨⟨c0, c1, c2⟩, d0, d1, d2⟩ := B2x.cells M3
    go_wp2_with fail
    refine (ssec_yes _ _ _ _ _ _ _ _ _ hs).mono ?_
    rintro e w4 ⟨rfl, hb⟩
    have M4 := B2x.on M3 hb
    have B4 := Lib.hid (B3.out.trans (hb.mono B3.out.size))
    have G4 := Lib.hid (G3.out.on hb)
    clear hb
    go_wp2_with fail
    refine (ikey_any _ _ _ G4.out).mono ?_
    rintro e w5 ⟨rfl, hb⟩
    have B5 := Lib.hid (B4.out.trans (hb.mono B4.out.size))
    have G5 := Lib.hid (G4.out.on hb)
    clear hb
    rw [HK.out]
    go_wp2
    go_ret
    exact ⟨rfl, B5.out⟩

set_option maxHeartbeats 1600000 in
theorem lTalkOf_walk (s : Value) (w : World) (h : CodeIn w s) (G : Gr w) : Calls Tryd.prog 4 #[s] w fun e w' => e = .returned (.bool true) ∧ Below w.heap.size w w' := by
  obtain ⟨a0, len0, cap0, rfl⟩ := h.slice
  have H := Lib.hid h; clear h
  have G0 := Lib.hid G; clear G
  have B0 := Lib.hid (Below.refl w.heap.size w)
  by_cases hl : 1048576 < len0
  · go_enter Tryd.func4, Tryd.ntmps4
    go_wp2
    go_ret
    exact ⟨rfl, Below.refl _ _⟩
  go_enter Tryd.func4, Tryd.ntmps4
  go_wp2_with fail
  refine (drawTalkOf_any _ _ H.out).mono ?_
  rintro e w1 ⟨g, secret, further, ask, rfl, lg, la, lb, lc, hb⟩
  have B1 := Lib.hid hb
  have G1 := Lib.hid (G0.out.on hb)
  clear hb
  by_cases hx : exB g secret = true ∧ exB g further = true ∧ exB g ask = true
  · obtain ⟨h1, h2, h3⟩ := hx
    have HT := Lib.hid (talkOf_ok h1 h2 h3)
    have tg := talkGuard
    have te := run_equal_talk
    have tr := talkB_refl (gp g (bas g) further) ask (tellOf g secret further ask)
    go_wp2_with fail
    refine (italk_yes _ _ _ _ _ G1.out h1 h2 h3).mono ?_
    rintro e w2 ⟨rfl, hb⟩
    have B2 := Lib.hid (B1.out.trans (hb.mono B1.out.size))
    have G2 := Lib.hid (G1.out.on hb)
    clear hb
    go_wp2_with fail
    obtain ⟨w3, hw⟩ : ∃ wz, wz = w2.alloc (.cells #[.int .i64 (gp g (bas g) further), .int .i64 (ask), .int .i64 (tellOf g secret further ask)] 33) := ⟨_, rfl⟩
    have hb : Below w2.heap.size w2 w3 := by rw [hw]; exact below_alloc _ _
    have X3 : Hid (Box w3 w2.heap.size (gp g (bas g) further) (ask) (tellOf g secret further ask)) := Lib.hid (by rw [hw]; exact Box.new _ _ _ _)
    have B3 := Lib.hid (B2.out.trans (hb.mono B2.out.size))
    have G3 := Lib.hid (G2.out.on hb)
    rw [← hw]
    clear hb hw
    go_wp2_with fail
    refine (stalk_yes _ _ _ _ _ h1 h2 h3).mono ?_
    rintro e w4 ⟨rfl, hb⟩
    have X4 := Lib.hid (X3.out.below hb)
    have B4 := Lib.hid (B3.out.trans (hb.mono B3.out.size))
    have G4 := Lib.hid (G3.out.on hb)
    clear hb
    obtain ⟨⟨c0, c1, c2⟩, _⟩ := Box.cells X4.out
    have hlx := X4.out.lt
    go_wp2_with fail
    obtain ⟨w5, hw⟩ : ∃ wz, wz = w4.alloc (.cells #[.int .i64 (gp g (bas g) further), .int .i64 (ask), .int .i64 (tellOf g secret further ask)] 33) := ⟨_, rfl⟩
    have hb : Below w4.heap.size w4 w5 := by rw [hw]; exact below_alloc _ _
    have Y5 : Hid (Box w5 w4.heap.size (gp g (bas g) further) (ask) (tellOf g secret further ask)) := Lib.hid (by rw [hw]; exact Box.new _ _ _ _)
    have X5 := Lib.hid (X4.out.below hb)
    have B5 := Lib.hid (B4.out.trans (hb.mono B4.out.size))
    have G5 := Lib.hid (G4.out.on hb)
    rw [← hw]
    clear hb hw
    clear c0 c1 c2 hlx tg te tr
    have HD : Hid (Below w5.heap.size w5 w5.drew) := Lib.hid (Below.refl _ _).drew
    refine wp_region_class (C := fun w' => Hid (Below w5.heap.size w5 w')) (by kernel_rfl) (by kernel_rfl) HD ?_
    repeat (first | go_big_quiet_skip | (go_big_quiet_want; go_big_quiet_op; first | go_big_quiet_on | (refine ⟨_, fun _ _ => rfl, ?_⟩; go_big_quiet_on)))
    go_big_quiet_want
    go_big_quiet_op
    go_big_quiet_call ((intro hw; exact (ikey_any g secret _ (G5.out.on hw.out)).mono fun _ _ ⟨he, hb⟩ => ⟨he, Lib.hid (hw.out.trans (hb.mono hw.out.size))⟩))
    repeat (first | go_big_quiet_skip | (go_big_quiet_want; go_big_quiet_op; first | go_big_quiet_on | (refine ⟨_, fun _ _ => rfl, ?_⟩; go_big_quiet_on)))
    go_big_quiet_want
    go_big_quiet_op
    refine ⟨.agg #[.int .i64 (gp g (bas g) further), .int .i64 ask, .int .i64 (tellOf g secret further ask)], fun w' hw' => ?_, ?_⟩
    · obtain ⟨⟨q, q1, q2⟩, _⟩ := Box.cells (X5.out.below hw'.out)
      simp [go_sem, q, q1, q2]
    go_big_quiet_on
    repeat (first | go_big_quiet_skip | (go_big_quiet_want; go_big_quiet_op; first | go_big_quiet_on | (refine ⟨_, fun _ _ => rfl, ?_⟩; go_big_quiet_on)))
    go_big_quiet_want
    go_big_quiet_op
    go_big_quiet_call ((intro hw; exact (itok_any g (keyOf g secret) (gp g (bas g) further) ask (tellOf g secret further ask) _ (G5.out.on hw.out)).mono fun _ _ ⟨he, hb⟩ => ⟨by rw [he, HT.out], Lib.hid (hw.out.trans (hb.mono hw.out.size))⟩))
    repeat (first | go_big_quiet_skip | (go_big_quiet_want; go_big_quiet_op; first | go_big_quiet_on | (refine ⟨_, fun _ _ => rfl, ?_⟩; go_big_quiet_on)))
    go_big_quiet_want
    go_big_quiet_op
    refine ⟨.int .i64 ask, fun w' hw' => ?_, ?_⟩
    · have q := (Box.cells (X5.out.below hw'.out)).1.2.1
      simp [go_sem, q]
    go_big_quiet_on
    repeat (first | go_big_quiet_skip | (go_big_quiet_want; go_big_quiet_op; first | go_big_quiet_on | (refine ⟨_, fun _ _ => rfl, ?_⟩; go_big_quiet_on)))
    refine wpQuiet_nil ?_
    intro w6 hw'
    have B6 := Lib.hid (B5.out.trans (hw'.out.mono B5.out.size))
    have G6 := Lib.hid (G5.out.on hw'.out)
    clear HD hw'
    go_wp2
    go_ret
    exact ⟨rfl, B6.out⟩
  · have tg := talkGuard
    have te := run_equal_talk
    have tr := talkB_refl 0 0 0
    go_wp2_with fail
    refine (italk_no _ _ _ _ _ G1.out hx).mono ?_
    rintro e w2 ⟨rfl, hb⟩
    have B2 := Lib.hid (B1.out.trans (hb.mono B1.out.size))
    have G2 := Lib.hid (G1.out.on hb)
    clear hb
    go_wp2_with fail
    obtain ⟨w3, hw⟩ : ∃ wz, wz = w2.alloc (.cells #[.int .i64 (0), .int .i64 (0), .int .i64 (0)] 33) := ⟨_, rfl⟩
    have hb : Below w2.heap.size w2 w3 := by rw [hw]; exact below_alloc _ _
    have X3 : Hid (Box w3 w2.heap.size (0) (0) (0)) := Lib.hid (by rw [hw]; exact Box.new _ _ _ _)
    have B3 := Lib.hid (B2.out.trans (hb.mono B2.out.size))
    have G3 := Lib.hid (G2.out.on hb)
    rw [← hw]
    clear hb hw
    go_wp2_with fail
    refine (stalk_no _ _ _ _ _ hx).mono ?_
    rintro e w4 ⟨rfl, hb⟩
    have X4 := Lib.hid (X3.out.below hb)
    have B4 := Lib.hid (B3.out.trans (hb.mono B3.out.size))
    have G4 := Lib.hid (G3.out.on hb)
    clear hb
    obtain ⟨⟨c0, c1, c2⟩, _⟩ := Box.cells X4.out
    have hlx := X4.out.lt
    go_wp2_with fail
    obtain ⟨w5, hw⟩ : ∃ wz, wz = w4.alloc (.cells #[.int .i64 (0), .int .i64 (0), .int .i64 (0)] 33) := ⟨_, rfl⟩
    have hb : Below w4.heap.size w4 w5 := by rw [hw]; exact below_alloc _ _
    have Y5 : Hid (Box w5 w4.heap.size (0) (0) (0)) := Lib.hid (by rw [hw]; exact Box.new _ _ _ _)
    have X5 := Lib.hid (X4.out.below hb)
    have B5 := Lib.hid (B4.out.trans (hb.mono B4.out.size))
    have G5 := Lib.hid (G4.out.on hb)
    rw [← hw]
    clear hb hw
    go_wp2_with fail
    refine (alive_any _ G5.out).mono ?_
    rintro e wz_ ⟨rfl, rfl⟩
    go_wp2
    go_ret
    exact ⟨rfl, B5.out⟩

end Go.Proofs.YtacaeoalplggfaaDoor
