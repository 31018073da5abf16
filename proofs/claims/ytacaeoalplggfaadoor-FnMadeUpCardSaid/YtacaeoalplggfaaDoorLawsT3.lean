/- The law of MadeUp, walked. -/
import Derived.Test.YtacaeoalplggfaaDoorLawsT
namespace Go.Proofs.YtacaeoalplggfaaDoor
open Go.RowKit

theorem els_nth {g : Int} {k : Nat} (h : k < (els g).length) : elB g (nth (els g) k) = true := by
  rw [elB_mem, nth_get h]; exact List.getElem_mem _
/-- Later than W, a box and a row of numbers kept. -/
structure Mk (W : World) (N : Nat) (s a t : Int) (gb : Nat) (xs : List Int) (w : World) : Prop where
  box : Box w N s a t
  gr : Gr w
  below : Below W.heap.size W w
  lt : gb < w.heap.size
  row : ∀ j, j < xs.length → w.cell? ⟨gb, j, none⟩ = some (.int .i64 (nth xs j))
theorem Mk.on {W w w' : World} {N gb : Nat} {s a t : Int} {xs : List Int} (h : Hid (Mk W N s a t gb xs w)) (hb : Below w.heap.size w w') : Hid (Mk W N s a t gb xs w') :=
  Lib.hid ⟨h.out.box.below hb, h.out.gr.on hb, h.out.below.trans (hb.mono h.out.below.size), Nat.lt_of_lt_of_le h.out.lt hb.size, fun j hj => (hb.cell (p := ⟨gb, j, none⟩) h.out.lt).trans (h.out.row j hj)⟩

set_option maxHeartbeats 1600000 in
theorem lMadeUp_walk (s : Value) (w : World) (h : CodeIn w s) (G : Gr w) : Calls Tryd.prog 6 #[s] w fun e w' => e = .returned (.bool true) ∧ Below w.heap.size w w' := by
  obtain ⟨a0, len0, cap0, rfl⟩ := h.slice
  have H := Lib.hid h; clear h
  have G0 := Lib.hid G; clear G
  have B0 := Lib.hid (Below.refl w.heap.size w)
  by_cases hl : 1048576 < len0
  · go_enter Tryd.func6, Tryd.ntmps6
    go_wp2
    go_ret
    exact ⟨rfl, Below.refl _ _⟩
  go_enter Tryd.func6, Tryd.ntmps6
  go_wp2_with fail
  refine (drawMadeUp_any _ _ H.out).mono ?_
  rintro e w1 ⟨g, key, ask, tell, rfl, lg, la, lb, lc, hb⟩
  have B1 := Lib.hid hb
  have G1 := Lib.hid (G0.out.on hb)
  clear hb
  by_cases hx : elB g key = true ∧ exB g ask = true ∧ exB g tell = true
  · obtain ⟨h1, h2, h3⟩ := hx
    have HT := Lib.hid (made_ok h1 h2 h3)
    have HO := Lib.hid (fun (e : Int) (he : elB g e = true) => made_only h1 he h2 h3)
    obtain ⟨g0, g4⟩ := elB_group h1
    obtain ⟨o1, o2⟩ := ord_bd g0 g4
    have HL := els_ord g0 g4
    have tg := talkGuard
    have te := run_equal_talk
    have tr := talkB_refl (sayUp g key ask tell) ask tell
    go_wp2_with fail
    refine (imade_yes _ _ _ _ _ G1.out h1 h2 h3).mono ?_
    rintro e w2 ⟨rfl, hb⟩
    have B2 := Lib.hid (B1.out.trans (hb.mono B1.out.size))
    have G2 := Lib.hid (G1.out.on hb)
    clear hb
    go_wp2_with fail
    obtain ⟨w3, hw⟩ : ∃ wz, wz = w2.alloc (.cells #[.int .i64 (sayUp g key ask tell), .int .i64 (ask), .int .i64 (tell)] 33) := ⟨_, rfl⟩
    have hb : Below w2.heap.size w2 w3 := by rw [hw]; exact below_alloc _ _
    have X3 : Hid (Box w3 w2.heap.size (sayUp g key ask tell) (ask) (tell)) := Lib.hid (by rw [hw]; exact Box.new _ _ _ _)
    have B3 := Lib.hid (B2.out.trans (hb.mono B2.out.size))
    have G3 := Lib.hid (G2.out.on hb)
    rw [← hw]
    clear hb hw
    go_wp2_with fail
    refine (smade_yes _ _ _ _ _ h1 h2 h3).mono ?_
    rintro e w4 ⟨rfl, hb⟩
    have X4 := Lib.hid (X3.out.below hb)
    have B4 := Lib.hid (B3.out.trans (hb.mono B3.out.size))
    have G4 := Lib.hid (G3.out.on hb)
    clear hb
    obtain ⟨⟨c0, c1, c2⟩, _⟩ := Box.cells X4.out
    have hlx := X4.out.lt
    go_wp2_with fail
    obtain ⟨w5, hw⟩ : ∃ wz, wz = w4.alloc (.cells #[.int .i64 (sayUp g key ask tell), .int .i64 (ask), .int .i64 (tell)] 33) := ⟨_, rfl⟩
    have hb : Below w4.heap.size w4 w5 := by rw [hw]; exact below_alloc _ _
    have Y5 : Hid (Box w5 w4.heap.size (sayUp g key ask tell) (ask) (tell)) := Lib.hid (by rw [hw]; exact Box.new _ _ _ _)
    have X5 := Lib.hid (X4.out.below hb)
    have B5 := Lib.hid (B4.out.trans (hb.mono B4.out.size))
    have G5 := Lib.hid (G4.out.on hb)
    rw [← hw]
    clear hb hw
    clear c0 c1 c2 hlx
    obtain ⟨⟨c0, c1, c2⟩, _⟩ := Box.cells X5.out
    have hlx := X5.out.lt
    obtain ⟨⟨d0, d1, d2⟩, _⟩ := Box.cells Y5.out
    go_wp2_with fail
    refine (sels_any _ _).mono ?_
    rintro e w6 ⟨v, rfl, O, hb⟩
    have I := Ints.of_own O (Nat.le_trans els_len (by decide))
    have X6 := Lib.hid (X5.out.below hb)
    have B6 := Lib.hid (B5.out.trans (hb.mono B5.out.size))
    have G6 := Lib.hid (G5.out.on hb)
    clear hb O c0 c1 c2 d0 d1 d2 hlx tg te tr
    rcases I with ⟨_, hn⟩ | ⟨gb, cap, rfl, hl, hg, hc⟩
    · rw [hn] at HL; simp at HL; omega
    obtain ⟨n, hn⟩ : ∃ n, (els g).length = n := ⟨_, rfl⟩
    have hn23 : n ≤ 23 := by rw [← hn]; exact els_len
    have M6 : Hid (Mk w w2.heap.size (sayUp g key ask tell) ask tell gb (els g) w6) := Lib.hid ⟨X6.out, G6.out, B6.out, hg, hc⟩
    rw [hn]
    have HN := Lib.hid hn
    clear hn hl hg hc HL
    go_wp2
    go_loopw [12] (fun x wr => ∃ k : Nat, k ≤ n ∧ x = .int .i64 k ∧ Hid (Mk w w2.heap.size (sayUp g key ask tell) ask tell gb (els g) wr)) (fun x _ => n - (intOf x).toNat)
    case atStart => exact ⟨0, by omega, rfl, M6⟩
    case round =>
      obtain ⟨k, hk, rfl, MM⟩ := hrel
      obtain ⟨wo, hwo⟩ : ∃ wo : World, wo = wr := ⟨_, rfl⟩
      by_cases hlt : k < n
      · obtain ⟨el, hel⟩ : ∃ el, nth (els g) k = el := ⟨_, rfl⟩
        have HE := Lib.hid hel
        have hk' : k < (els g).length := by rw [HN.out]; exact hlt
        have HK := Lib.hid hk'
        obtain ⟨c, hc1, hc2⟩ : ∃ c : Bool, tokB g key el ask tell = c ∧ (el == sayUp g key ask tell) = c := ⟨_, HO.out el (by rw [← hel]; exact els_nth hk'), rfl⟩
        have hcc : (c != c) = false := by cases c <;> rfl
        have HC := Lib.hid hc1
        clear hel hk' hc1
        go_wp2_with fail
        have HD : Hid (Mk w w2.heap.size (sayUp g key ask tell) ask tell gb (els g) wr.drew) := Mk.on MM (Below.refl _ _).drew
        refine wp_region_class (C := fun w' => Hid (Mk w w2.heap.size (sayUp g key ask tell) ask tell gb (els g) w')) (by kernel_rfl) (by kernel_rfl) HD ?_
        repeat (first | go_big_quiet_skip | (go_big_quiet_want; go_big_quiet_op; first | go_big_quiet_on | (refine ⟨_, fun _ _ => rfl, ?_⟩; go_big_quiet_on)))
        go_big_quiet_want
        go_big_quiet_op
        refine ⟨.int .i64 el, fun w' hw' => ?_, ?_⟩
        · have q := hw'.out.row k HK.out
          rw [HE.out] at q
          simp [go_sem, q]
        go_big_quiet_on
        repeat (first | go_big_quiet_skip | (go_big_quiet_want; go_big_quiet_op; first | go_big_quiet_on | (refine ⟨_, fun _ _ => rfl, ?_⟩; go_big_quiet_on)))
        go_big_quiet_want
        go_big_quiet_op
        go_big_quiet_call ((intro hw; exact (itok_any g key el ask tell _ hw.out.gr).mono fun _ _ ⟨he, hb⟩ => ⟨by rw [he, HC.out], Mk.on hw hb⟩))
        repeat (first | go_big_quiet_skip | (go_big_quiet_want; go_big_quiet_op; first | go_big_quiet_on | (refine ⟨_, fun _ _ => rfl, ?_⟩; go_big_quiet_on)))
        go_big_quiet_want
        go_big_quiet_op
        refine ⟨.int .i64 el, fun w' hw' => ?_, ?_⟩
        · have q := hw'.out.row k HK.out
          rw [HE.out] at q
          simp [go_sem, q]
        go_big_quiet_on
        repeat (first | go_big_quiet_skip | (go_big_quiet_want; go_big_quiet_op; first | go_big_quiet_on | (refine ⟨_, fun _ _ => rfl, ?_⟩; go_big_quiet_on)))
        go_big_quiet_want
        go_big_quiet_op
        refine ⟨.int .i64 (sayUp g key ask tell), fun w' hw' => ?_, ?_⟩
        · have q := (Box.cells hw'.out.box).1.1
          simp [go_sem, q]
        go_big_quiet_on
        repeat (first | go_big_quiet_skip | (go_big_quiet_want; go_big_quiet_op; first | go_big_quiet_on | (refine ⟨_, fun _ _ => rfl, ?_⟩; go_big_quiet_on)))
        refine wpQuiet_nil ?_
        intro wq hq
        clear HD MM HE HK HC
        go_wp2
        go_roundw
        case rel => exact ⟨k + 1, by omega, by go_num, hq⟩
        case measure => simp [intOf]; omega
      · obtain rfl : k = n := by omega
        obtain ⟨⟨c0, c1, c2⟩, _⟩ := Box.cells MM.out.box
        go_wp2_with fail
        refine (itok_any _ _ _ _ _ _ MM.out.gr).mono ?_
        rintro e wz ⟨rfl, hb⟩
        have MZ := Mk.on MM hb
        clear hb c0 c1 c2
        obtain ⟨⟨c0, c1, c2⟩, _⟩ := Box.cells MZ.out.box
        rw [HT.out]
        go_wp2
        go_ret
        exact ⟨rfl, MZ.out.below⟩
  · have tg := talkGuard
    have te := run_equal_talk
    have tr := talkB_refl 0 0 0
    go_wp2_with fail
    refine (imade_no _ _ _ _ _ G1.out hx).mono ?_
    rintro e w2 ⟨rfl, hb⟩
    have B2 := Lib.hid (B1.out.trans (hb.mono B1.out.size))
    have G2 := Lib.hid (G1.out.on hb)
    clear hb
    go_wp2_with fail
    obtain ⟨w3, hw⟩ : ∃ wz, wz = w2.alloc (.cells #[.int .i64 (0), .int .i64 (0), .int .i64 (0)] 33) := ⟨_, rfl⟩
    have hb : Below w2.heap.size w2 w3 := by rw [hw]; exact below_alloc _ _
    have X3 : Hid (Box w3 w2.heap.size (0) (0) (0)) := Lib.hid (by rw [hw]; exact Box.new _ _ _ _)
    have B3 := Lib.hid (B2.out.trans (hb.mono B2.out.size))
    have G3 := Lib.hid (G2.out.on hb)
    rw [← hw]
    clear hb hw
    go_wp2_with fail
    refine (smade_no _ _ _ _ _ hx).mono ?_
    rintro e w4 ⟨rfl, hb⟩
    have X4 := Lib.hid (X3.out.below hb)
    have B4 := Lib.hid (B3.out.trans (hb.mono B3.out.size))
    have G4 := Lib.hid (G3.out.on hb)
    clear hb
    obtain ⟨⟨c0, c1, c2⟩, _⟩ := Box.cells X4.out
    have hlx := X4.out.lt
    go_wp2_with fail
    obtain ⟨w5, hw⟩ : ∃ wz, wz = w4.alloc (.cells #[.int .i64 (0), .int .i64 (0), .int .i64 (0)] 33) := ⟨_, rfl⟩
    have hb : Below w4.heap.size w4 w5 := by rw [hw]; exact below_alloc _ _
    have Y5 : Hid (Box w5 w4.heap.size (0) (0) (0)) := Lib.hid (by rw [hw]; exact Box.new _ _ _ _)
    have X5 := Lib.hid (X4.out.below hb)
    have B5 := Lib.hid (B4.out.trans (hb.mono B4.out.size))
    have G5 := Lib.hid (G4.out.on hb)
    rw [← hw]
    clear hb hw
    go_wp2_with fail
    refine (alive_any _ G5.out).mono ?_
    rintro e wz_ ⟨rfl, rfl⟩
    go_wp2
    go_ret
    exact ⟨rfl, B5.out⟩

end Go.Proofs.YtacaeoalplggfaaDoor
