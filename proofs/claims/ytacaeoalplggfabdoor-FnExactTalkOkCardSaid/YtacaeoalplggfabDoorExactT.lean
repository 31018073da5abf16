/- The exact laws of chapter 2 over numbers and talks. -/
import Derived.Test.YtacaeoalplggfabDoorImplT
import Derived.Test.YtacaeoalplggfabDoorTalkM
namespace Go.Proofs.YtacaeoalplggfabDoor
open Go.RowKit

theorem eqTalk_any (s a t s' a' t' : Int) (w : World) : Calls Tryd.prog 13 #[.agg #[.int .i64 s, .int .i64 a, .int .i64 t], .agg #[.int .i64 s', .int .i64 a', .int .i64 t']] w fun e w' => e = .returned (.bool (talkB s a t s' a' t')) ∧ Below w.heap.size w w' := by
  have HB0 := B2x.start w s a t s' a' t'
  obtain ⟨⟨c0, c1, c2⟩, d0, d1, d2⟩ := B2x.cells HB0
  have HX := Lib.hid (show talkB s a t s' a' t' = (decide (s = s') && decide (a = a') && decide (t = t')) from rfl)
  by_cases h1 : s = s'
  · by_cases h2 : a = a'
    · by_cases h3 : t = t'
      · have e1 : (s != s') = false := by simpa using h1
        have e2 : (a != a') = false := by simpa using h2
        have e3 : (t != t') = false := by simpa using h3
        have HY := Lib.hid (show talkB s a t s' a' t' = true by simp [talkB, h1, h2, h3])
        clear h1 h2 h3
        go_enter Tryd.func13, Tryd.ntmps13
        go_wp2
        go_ret
        exact ⟨by rw [HY.out]; rfl, B2x.fin HB0⟩
      · have e1 : (s != s') = false := by simpa using h1
        have e2 : (a != a') = false := by simpa using h2
        have e3 : (t != t') = true := by simpa using h3
        have HY := Lib.hid (show talkB s a t s' a' t' = false by simp [talkB, h3])
        clear h1 h2 h3
        go_enter Tryd.func13, Tryd.ntmps13
        go_wp2
        go_ret
        exact ⟨by rw [HY.out]; rfl, B2x.fin HB0⟩
    · have e1 : (s != s') = false := by simpa using h1
      have e2 : (a != a') = true := by simpa using h2
      have HY := Lib.hid (show talkB s a t s' a' t' = false by simp [talkB, h2])
      clear h1 h2
      go_enter Tryd.func13, Tryd.ntmps13
      go_wp2
      go_ret
      exact ⟨by rw [HY.out]; rfl, B2x.fin HB0⟩
  · have e1 : (s != s') = true := by simpa using h1
    have HY := Lib.hid (show talkB s a t s' a' t' = false by simp [talkB, h1])
    clear h1
    go_enter Tryd.func13, Tryd.ntmps13
    go_wp2
    go_ret
    exact ⟨by rw [HY.out]; rfl, B2x.fin HB0⟩

theorem xKeyOf_walk (g secret : Int) (w : World) (G : Gr w) : Calls Tryd.prog 3 #[.int .i64 g, .int .i64 secret] w fun e w' => e = .returned (.bool true) ∧ Below w.heap.size w w' := by
  have B0 := Lib.hid (Below.refl w.heap.size w)
  go_enter Tryd.func3, Tryd.ntmps3
  go_wp2_with fail
  refine (skey_any _ _ _ ).mono ?_
  rintro e w1 ⟨rfl, hb⟩
  have B1 : Hid (Below w.heap.size w w1) := Lib.hid (B0.out.trans (hb.mono B0.out.size))
  clear hb
  go_wp2_with fail
  refine (ikey_any _ _ _  (G.on B1.out)).mono ?_
  rintro e w2 ⟨rfl, hb⟩
  have B2 : Hid (Below w.heap.size w w2) := Lib.hid (B1.out.trans (hb.mono B1.out.size))
  clear hb
  go_wp2
  go_ret
  exact ⟨rfl, B2.out⟩

theorem xTalksMany_walk (g key say ask : Int) (w : World) (G : Gr w) : Calls Tryd.prog 8 #[.int .i64 g, .int .i64 key, .int .i64 say, .int .i64 ask] w fun e w' => e = .returned (.bool true) ∧ Below w.heap.size w w' := by
  have B0 := Lib.hid (Below.refl w.heap.size w)
  go_enter Tryd.func8, Tryd.ntmps8
  go_wp2_with fail
  refine (smany_any _ _ _ _ _ ).mono ?_
  rintro e w1 ⟨rfl, hb⟩
  have B1 : Hid (Below w.heap.size w w1) := Lib.hid (B0.out.trans (hb.mono B0.out.size))
  clear hb
  go_wp2_with fail
  refine (imany_any _ _ _ _ _  (G.on B1.out)).mono ?_
  rintro e w2 ⟨rfl, hb⟩
  have B2 : Hid (Below w.heap.size w w2) := Lib.hid (B1.out.trans (hb.mono B1.out.size))
  clear hb
  go_wp2
  go_ret
  exact ⟨rfl, B2.out⟩

theorem xTalkOf_walk (g secret further ask : Int) (w : World) (G : Gr w) : Calls Tryd.prog 4 #[.int .i64 g, .int .i64 secret, .int .i64 further, .int .i64 ask] w fun e w' => e = .returned (.bool true) ∧ Below w.heap.size w w' := by
  have B0 := Lib.hid (Below.refl w.heap.size w)
  by_cases hx : exB g secret = true ∧ exB g further = true ∧ exB g ask = true
  · obtain ⟨h1, h2, h3⟩ := hx
    go_enter Tryd.func4, Tryd.ntmps4
    go_wp2_with fail
    refine (stalk_yes _ _ _ _ _ h1 h2 h3).mono ?_
    rintro e w1 ⟨rfl, hb⟩
    have B1 : Hid (Below w.heap.size w w1) := Lib.hid hb
    clear hb
    go_wp2_with fail
    obtain ⟨w2, hw⟩ : ∃ wz, wz = w1.alloc (.cells #[.int .i64 (gp g (bas g) further), .int .i64 (ask), .int .i64 (tellOf g secret further ask)] 25) := ⟨_, rfl⟩
    have X : Hid (Below (w1.heap.size + 1) (w1.alloc (.cells #[.int .i64 (gp g (bas g) further), .int .i64 (ask), .int .i64 (tellOf g secret further ask)] 25)) w2) := Lib.hid (by rw [hw]; exact Below.refl _ _)
    have B2 : Hid (Below w.heap.size w w2) := Lib.hid (B1.out.trans ((box_end X.out).mono B1.out.size))
    rw [← hw]
    clear hw
    go_wp2_with fail
    refine (italk_yes _ _ _ _ _ (G.on B2.out) h1 h2 h3).mono ?_
    rintro e w3 ⟨rfl, hb⟩
    have B3 : Hid (Below w.heap.size w w3) := Lib.hid (B2.out.trans (hb.mono B2.out.size))
    have X3 := Lib.hid (box_on X.out hb)
    clear hb X
    have X4 := Lib.hid (box_on X3.out (below_alloc w3 (.cells #[.int .i64 (gp g (bas g) further), .int .i64 (ask), .int .i64 (tellOf g secret further ask)] 25)))
    have B4 : Hid (Below w.heap.size w (w3.alloc (.cells #[.int .i64 (gp g (bas g) further), .int .i64 (ask), .int .i64 (tellOf g secret further ask)] 25))) := Lib.hid (B3.out.trans ((below_alloc w3 (.cells #[.int .i64 (gp g (bas g) further), .int .i64 (ask), .int .i64 (tellOf g secret further ask)] 25)).mono B3.out.size))
    obtain ⟨⟨c0, c1, c2⟩, _⟩ := box3 X4.out
    obtain ⟨⟨d0, d1, d2⟩, _⟩ := box3 (Below.refl (w3.heap.size + 1) (w3.alloc (.cells #[.int .i64 (gp g (bas g) further), .int .i64 (ask), .int .i64 (tellOf g secret further ask)] 25)))
    go_wp2_with fail
    refine (eqTalk_any _ _ _ _ _ _ _).mono ?_
    rintro e w5 ⟨rfl, hb⟩
    have B5 : Hid (Below w.heap.size w w5) := Lib.hid (B4.out.trans (hb.mono B4.out.size))
    clear hb
    rw [talkB_refl]
    go_wp2
    go_ret
    exact ⟨rfl, B5.out⟩
  · go_enter Tryd.func4, Tryd.ntmps4
    go_wp2_with fail
    refine (stalk_no _ _ _ _ _ hx).mono ?_
    rintro e w1 ⟨rfl, hb⟩
    have B1 : Hid (Below w.heap.size w w1) := Lib.hid hb
    clear hb
    go_wp2_with fail
    obtain ⟨w2, hw⟩ : ∃ wz, wz = w1.alloc (.cells #[.int .i64 (0), .int .i64 (0), .int .i64 (0)] 25) := ⟨_, rfl⟩
    have X : Hid (Below (w1.heap.size + 1) (w1.alloc (.cells #[.int .i64 (0), .int .i64 (0), .int .i64 (0)] 25)) w2) := Lib.hid (by rw [hw]; exact Below.refl _ _)
    have B2 : Hid (Below w.heap.size w w2) := Lib.hid (B1.out.trans ((box_end X.out).mono B1.out.size))
    rw [← hw]
    clear hw
    go_wp2_with fail
    refine (italk_no _ _ _ _ _ (G.on B2.out) hx).mono ?_
    rintro e w3 ⟨rfl, hb⟩
    have B3 : Hid (Below w.heap.size w w3) := Lib.hid (B2.out.trans (hb.mono B2.out.size))
    have X3 := Lib.hid (box_on X.out hb)
    clear hb X
    have X4 := Lib.hid (box_on X3.out (below_alloc w3 (.cells #[.int .i64 (0), .int .i64 (0), .int .i64 (0)] 25)))
    have B4 : Hid (Below w.heap.size w (w3.alloc (.cells #[.int .i64 (0), .int .i64 (0), .int .i64 (0)] 25))) := Lib.hid (B3.out.trans ((below_alloc w3 (.cells #[.int .i64 (0), .int .i64 (0), .int .i64 (0)] 25)).mono B3.out.size))
    obtain ⟨⟨c0, c1, c2⟩, _⟩ := box3 X4.out
    obtain ⟨⟨d0, d1, d2⟩, _⟩ := box3 (Below.refl (w3.heap.size + 1) (w3.alloc (.cells #[.int .i64 (0), .int .i64 (0), .int .i64 (0)] 25)))
    go_wp2_with fail
    refine (eqTalk_any _ _ _ _ _ _ _).mono ?_
    rintro e w5 ⟨rfl, hb⟩
    have B5 : Hid (Below w.heap.size w w5) := Lib.hid (B4.out.trans (hb.mono B4.out.size))
    clear hb
    rw [talkB_refl]
    go_wp2
    go_ret
    exact ⟨rfl, B5.out⟩

theorem xMadeUp_walk (g key ask tell : Int) (w : World) (G : Gr w) : Calls Tryd.prog 6 #[.int .i64 g, .int .i64 key, .int .i64 ask, .int .i64 tell] w fun e w' => e = .returned (.bool true) ∧ Below w.heap.size w w' := by
  have B0 := Lib.hid (Below.refl w.heap.size w)
  by_cases hx : elB g key = true ∧ exB g ask = true ∧ exB g tell = true
  · obtain ⟨h1, h2, h3⟩ := hx
    go_enter Tryd.func6, Tryd.ntmps6
    go_wp2_with fail
    refine (smade_yes _ _ _ _ _ h1 h2 h3).mono ?_
    rintro e w1 ⟨rfl, hb⟩
    have B1 : Hid (Below w.heap.size w w1) := Lib.hid hb
    clear hb
    go_wp2_with fail
    obtain ⟨w2, hw⟩ : ∃ wz, wz = w1.alloc (.cells #[.int .i64 (sayUp g key ask tell), .int .i64 (ask), .int .i64 (tell)] 25) := ⟨_, rfl⟩
    have X : Hid (Below (w1.heap.size + 1) (w1.alloc (.cells #[.int .i64 (sayUp g key ask tell), .int .i64 (ask), .int .i64 (tell)] 25)) w2) := Lib.hid (by rw [hw]; exact Below.refl _ _)
    have B2 : Hid (Below w.heap.size w w2) := Lib.hid (B1.out.trans ((box_end X.out).mono B1.out.size))
    rw [← hw]
    clear hw
    go_wp2_with fail
    refine (imade_yes _ _ _ _ _ (G.on B2.out) h1 h2 h3).mono ?_
    rintro e w3 ⟨rfl, hb⟩
    have B3 : Hid (Below w.heap.size w w3) := Lib.hid (B2.out.trans (hb.mono B2.out.size))
    have X3 := Lib.hid (box_on X.out hb)
    clear hb X
    have X4 := Lib.hid (box_on X3.out (below_alloc w3 (.cells #[.int .i64 (sayUp g key ask tell), .int .i64 (ask), .int .i64 (tell)] 25)))
    have B4 : Hid (Below w.heap.size w (w3.alloc (.cells #[.int .i64 (sayUp g key ask tell), .int .i64 (ask), .int .i64 (tell)] 25))) := Lib.hid (B3.out.trans ((below_alloc w3 (.cells #[.int .i64 (sayUp g key ask tell), .int .i64 (ask), .int .i64 (tell)] 25)).mono B3.out.size))
    obtain ⟨⟨c0, c1, c2⟩, _⟩ := box3 X4.out
    obtain ⟨⟨d0, d1, d2⟩, _⟩ := box3 (Below.refl (w3.heap.size + 1) (w3.alloc (.cells #[.int .i64 (sayUp g key ask tell), .int .i64 (ask), .int .i64 (tell)] 25)))
    go_wp2_with fail
    refine (eqTalk_any _ _ _ _ _ _ _).mono ?_
    rintro e w5 ⟨rfl, hb⟩
    have B5 : Hid (Below w.heap.size w w5) := Lib.hid (B4.out.trans (hb.mono B4.out.size))
    clear hb
    rw [talkB_refl]
    go_wp2
    go_ret
    exact ⟨rfl, B5.out⟩
  · go_enter Tryd.func6, Tryd.ntmps6
    go_wp2_with fail
    refine (smade_no _ _ _ _ _ hx).mono ?_
    rintro e w1 ⟨rfl, hb⟩
    have B1 : Hid (Below w.heap.size w w1) := Lib.hid hb
    clear hb
    go_wp2_with fail
    obtain ⟨w2, hw⟩ : ∃ wz, wz = w1.alloc (.cells #[.int .i64 (0), .int .i64 (0), .int .i64 (0)] 25) := ⟨_, rfl⟩
    have X : Hid (Below (w1.heap.size + 1) (w1.alloc (.cells #[.int .i64 (0), .int .i64 (0), .int .i64 (0)] 25)) w2) := Lib.hid (by rw [hw]; exact Below.refl _ _)
    have B2 : Hid (Below w.heap.size w w2) := Lib.hid (B1.out.trans ((box_end X.out).mono B1.out.size))
    rw [← hw]
    clear hw
    go_wp2_with fail
    refine (imade_no _ _ _ _ _ (G.on B2.out) hx).mono ?_
    rintro e w3 ⟨rfl, hb⟩
    have B3 : Hid (Below w.heap.size w w3) := Lib.hid (B2.out.trans (hb.mono B2.out.size))
    have X3 := Lib.hid (box_on X.out hb)
    clear hb X
    have X4 := Lib.hid (box_on X3.out (below_alloc w3 (.cells #[.int .i64 (0), .int .i64 (0), .int .i64 (0)] 25)))
    have B4 : Hid (Below w.heap.size w (w3.alloc (.cells #[.int .i64 (0), .int .i64 (0), .int .i64 (0)] 25))) := Lib.hid (B3.out.trans ((below_alloc w3 (.cells #[.int .i64 (0), .int .i64 (0), .int .i64 (0)] 25)).mono B3.out.size))
    obtain ⟨⟨c0, c1, c2⟩, _⟩ := box3 X4.out
    obtain ⟨⟨d0, d1, d2⟩, _⟩ := box3 (Below.refl (w3.heap.size + 1) (w3.alloc (.cells #[.int .i64 (0), .int .i64 (0), .int .i64 (0)] 25)))
    go_wp2_with fail
    refine (eqTalk_any _ _ _ _ _ _ _).mono ?_
    rintro e w5 ⟨rfl, hb⟩
    have B5 : Hid (Below w.heap.size w w5) := Lib.hid (B4.out.trans (hb.mono B4.out.size))
    clear hb
    rw [talkB_refl]
    go_wp2
    go_ret
    exact ⟨rfl, B5.out⟩

end Go.Proofs.YtacaeoalplggfabDoor
