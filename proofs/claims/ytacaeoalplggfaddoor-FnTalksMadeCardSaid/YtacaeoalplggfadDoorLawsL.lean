/- The laws of TalksTrue and TalksMade, walked. -/
import Derived.Test.YtacaeoalplggfadDoorLawsA
import Derived.Test.YtacaeoalplggfadDoorDrawU
import Derived.Test.YtacaeoalplggfadDoorExactL
import Derived.Test.YtacaeoalplggfadDoorPureL
namespace Go.Proofs.YtacaeoalplggfadDoor
open Go.RowKit

theorem ownT_drew {w : World} {B : Nat} {v : Value} {ask : Int} {d : List (Int × Int)} (h : OwnT w B v ask d) (n : Nat) : OwnT (w.drewN n) B v ask d := h
theorem ownT_len {w : World} {B : Nat} {v : Value} {ask : Int} {d : List (Int × Int)} (h : OwnT w B v ask d) : ∃ n a c, v = .slice a n c ∧ d.length = n := by
  obtain ⟨a, c, e⟩ := (ownT_form h).1
  exact ⟨_, a, c, e, rfl⟩

set_option maxHeartbeats 1600000 in
theorem lTalksTrue_walk (s : Value) (w : World) (h : CodeIn w s) (G : Gr w) : Calls Tryd.prog 3 #[s] w fun e w' => e = .returned (.bool true) ∧ Below w.heap.size w w' := by
  obtain ⟨a0, len0, cap0, rfl⟩ := h.slice
  have H := Lib.hid h; clear h
  have G0 := Lib.hid G; clear G
  have SC := Lib.hid sort_any
  have SS := Lib.hid sorted_any
  by_cases hl : 1048576 < len0
  · go_enter Tryd.func3, Tryd.ntmps3
    go_wp2
    go_ret
    exact ⟨rfl, Below.refl _ _⟩
  go_enter Tryd.func3, Tryd.ntmps3
  go_wp2_with fail
  refine (drawTalksTrue_any _ _ H.out).mono ?_
  rintro e w1 ⟨g, secret, ask, rfl, lg, la, lb, hb⟩
  have B1 := Lib.hid hb
  have G1 := Lib.hid (G0.out.on hb)
  have HL := Lib.hid (true_len23 g secret ask)
  clear hb
  go_wp2_with fail
  refine (itrue_any SC.out _ _ _ _ G1.out).mono ?_
  rintro e w2 ⟨v0, rfl, O2, hb⟩
  have B2 := Lib.hid (B1.out.trans (hb.mono B1.out.size))
  have G2 := Lib.hid (G1.out.on hb)
  obtain ⟨n, a, c, rfl, hn⟩ := ownT_len O2
  have A2 := Lib.hid O2
  have HN := Lib.hid hn
  clear hb O2 hn
  go_wp2_with fail
  refine (strue_any SS.out _ _ _ _).mono ?_
  rintro e w3 ⟨v1, rfl, O3, hb⟩
  have B3 := Lib.hid (B2.out.trans (hb.mono B2.out.size))
  have G3 := Lib.hid (G2.out.on hb)
  have A3 := Lib.hid (ownT_below A2.out hb)
  have C3 := Lib.hid O3
  clear hb O3
  go_wp2_with fail
  refine (samet_any _ _ _ _ _ _ _ HL.out A3.out C3.out).mono ?_
  rintro e w4 ⟨rfl, m4, hw4⟩
  have A4 : Hid (OwnT w4 w1.heap.size (.slice a n c) ask (sortP (trueAll g secret ask))) := Lib.hid (by rw [hw4]; exact ownT_drew A3.out m4)
  have B4 : Hid (Below w.heap.size w w4) := Lib.hid (by rw [hw4]; exact below_drewN B3.out m4)
  have G4 : Hid (Gr w4) := Lib.hid (G0.out.on B4.out)
  clear hw4 A2 A3 C3
  by_cases hx : exB g secret = true ∧ exB g ask = true
  · have HX := Lib.hid hx
    obtain ⟨⟨g0, g4⟩, _⟩ := exB_true.1 hx.1
    have ho := els_ord g0 g4
    have ho' := ord_bd g0 g4
    have hn : (n : Int) = ord g := by rw [← HN.out, true_is hx.1 hx.2, rightL_len, ho]
    have hd : ((n : Int) == 0) = false := by rw [beq_eq_false_iff_ne]; omega
    have HQ : Hid (ord g = (n : Int)) := Lib.hid hn.symm
    have HM : Hid (sortP (madeAll g (keyOf g secret) ask) = sortP (trueAll g secret ask)) := Lib.hid (true_made hx.1 hx.2)
    clear hx ho ho' hn g0 g4
    go_wp2_with fail
    refine (ikey_any _ _ _ G4.out).mono ?_
    rintro e w5 ⟨rfl, hb⟩
    have B5 := Lib.hid (B4.out.trans (hb.mono B4.out.size))
    have G5 := Lib.hid (G4.out.on hb)
    have A5 := Lib.hid (ownT_below A4.out hb)
    clear hb
    go_wp2_with fail
    refine (imadeAll_any SC.out _ _ _ _ G5.out).mono ?_
    rintro e w6 ⟨v2, rfl, O6, hb⟩
    have B6 := Lib.hid (B5.out.trans (hb.mono B5.out.size))
    have A6 := Lib.hid (ownT_below A5.out hb)
    rw [HM.out] at O6
    have C6 := Lib.hid O6
    clear hb O6
    go_wp2_with fail
    refine (samet_any _ _ _ _ _ _ _ HL.out C6.out A6.out).mono ?_
    rintro e w7 ⟨rfl, m7, hw7⟩
    have B7 : Hid (Below w.heap.size w w7) := Lib.hid (by rw [hw7]; exact below_drewN B6.out m7)
    clear hw7
    go_wp2_with fail
    refine (sord_any _ _).mono ?_
    rintro e w8 ⟨rfl, hb⟩
    have B8 := Lib.hid (B7.out.trans (hb.mono B7.out.size))
    clear hb
    rw [HQ.out]
    go_wp2
    go_ret
    exact ⟨rfl, B8.out⟩
  · have hn : n = 0 := by rw [← HN.out, true_none hx]; rfl
    clear hx
    subst hn
    go_wp2_with fail
    refine (alive_any _ G4.out).mono ?_
    rintro e wz_ ⟨rfl, rfl⟩
    go_wp2
    go_ret
    exact ⟨rfl, B4.out⟩

theorem own_at {w : World} {B g n cap : Nat} {xs : List Int} (h : Own w B (.slice (some ⟨g, 0, none⟩) n cap) xs) (hn : xs.length = n) {k : Nat} (hk : k < n) : w.cell? ⟨g, k, none⟩ = some (.int .i64 (nth xs k)) := by
  subst hn
  have h' : w.ownsRow B 3 1 (.slice (some ⟨g, 0, none⟩) xs.length cap) xs.length (xs.map (Value.int .i64)) := h
  rw [h'.cellAt k (by omega), List.getElem?_map, List.getElem?_eq_getElem hk, nth_get hk]; rfl
/-- What a later world keeps of the list and of the elements. -/
structure Mw (W : World) (B B' g1 c1 g2 c2 n : Nat) (ask : Int) (d : List (Int × Int)) (xs : List Int) (w : World) : Prop where
  o1 : OwnT w B (.slice (some ⟨g1, 0, none⟩) n c1) ask d
  o2 : Own w B' (.slice (some ⟨g2, 0, none⟩) n c2) xs
  gr : Gr w
  below : Below W.heap.size W w
theorem Mw.on {W w w' : World} {B B' g1 c1 g2 c2 n : Nat} {ask : Int} {d : List (Int × Int)} {xs : List Int} (h : Hid (Mw W B B' g1 c1 g2 c2 n ask d xs w)) (hb : Below w.heap.size w w') : Hid (Mw W B B' g1 c1 g2 c2 n ask d xs w') :=
  Lib.hid ⟨ownT_below h.out.o1 hb, own_below h.out.o2 hb, h.out.gr.on hb, h.out.below.trans (hb.mono h.out.below.size)⟩

set_option maxHeartbeats 1600000 in
theorem lTalksMade_walk (s : Value) (w : World) (h : CodeIn w s) (G : Gr w) : Calls Tryd.prog 4 #[s] w fun e w' => e = .returned (.bool true) ∧ Below w.heap.size w w' := by
  obtain ⟨a0, len0, cap0, rfl⟩ := h.slice
  have H := Lib.hid h; clear h
  have G0 := Lib.hid G; clear G
  have SC := Lib.hid sort_any
  have SS := Lib.hid sorted_any
  by_cases hl : 1048576 < len0
  · go_enter Tryd.func4, Tryd.ntmps4
    go_wp2
    go_ret
    exact ⟨rfl, Below.refl _ _⟩
  go_enter Tryd.func4, Tryd.ntmps4
  go_wp2_with fail
  refine (drawTalksMade_any _ _ H.out).mono ?_
  rintro e w1 ⟨g, key, ask, rfl, lg, la, lb, hb⟩
  have B1 := Lib.hid hb
  have G1 := Lib.hid (G0.out.on hb)
  have HL := Lib.hid (made_len23 g key ask)
  clear hb
  go_wp2_with fail
  refine (imadeAll_any SC.out _ _ _ _ G1.out).mono ?_
  rintro e w2 ⟨v0, rfl, O2, hb⟩
  have B2 := Lib.hid (B1.out.trans (hb.mono B1.out.size))
  have G2 := Lib.hid (G1.out.on hb)
  obtain ⟨n, a, c, rfl, hn⟩ := ownT_len O2
  have A2 := Lib.hid O2
  have HN := Lib.hid hn
  clear hb O2 hn
  go_wp2_with fail
  refine (smadeAll_any SS.out _ _ _ _).mono ?_
  rintro e w3 ⟨v1, rfl, O3, hb⟩
  have B3 := Lib.hid (B2.out.trans (hb.mono B2.out.size))
  have A3 := Lib.hid (ownT_below A2.out hb)
  have C3 := Lib.hid O3
  clear hb O3
  go_wp2_with fail
  refine (samet_any _ _ _ _ _ _ _ HL.out A3.out C3.out).mono ?_
  rintro e w4 ⟨rfl, m4, hw4⟩
  have A4 : Hid (OwnT w4 w1.heap.size (.slice a n c) ask (sortP (madeAll g key ask))) := Lib.hid (by rw [hw4]; exact ownT_drew A3.out m4)
  have B4 : Hid (Below w.heap.size w w4) := Lib.hid (by rw [hw4]; exact below_drewN B3.out m4)
  have G4 : Hid (Gr w4) := Lib.hid (G0.out.on B4.out)
  clear hw4 A2 A3 C3
  by_cases hx : elB g key = true ∧ exB g ask = true
  · obtain ⟨g0, g4⟩ := elB_group hx.1
    have ho := els_ord g0 g4
    have ho' := ord_bd g0 g4
    have hn : n = (els g).length := by rw [← HN.out, made_is hx.1 hx.2, rightL_len]
    have hn23 : n ≤ 23 := by rw [hn]; exact els_len
    have hd : ((n : Int) == 0) = false := by rw [beq_eq_false_iff_ne]; omega
    have hd3 : 3 ≤ n := by omega
    have HE : Hid ((els g).length = n) := Lib.hid hn.symm
    have HM : Hid (sortP (madeAll g key ask) = rightL g (glog g (bas g) key) ask) := Lib.hid (made_is hx.1 hx.2)
    have HR : Hid (∀ k, k < n → tokB g key (nth (els g) k) ask (tellOf g (glog g (bas g) key) (glog g (bas g) (nth (els g) k)) ask) = true) := Lib.hid (fun k hk => right_ok hx.1 hx.2 (by omega))
    have HA : Hid (∀ k, k < n → ((rightL g (glog g (bas g) key) ask)[k]!).1 = nth (els g) k ∧ ((rightL g (glog g (bas g) key) ask)[k]!).2 = tellOf g (glog g (bas g) key) (glog g (bas g) (nth (els g) k)) ask) := Lib.hid (fun k hk => right_at (by omega))
    have A5 : Hid (OwnT w4 w1.heap.size (.slice a n c) ask (rightL g (glog g (bas g) key) ask)) := Lib.hid (by have := A4.out; rw [HM.out] at this; exact this)
    have HRn : Hid ((rightL g (glog g (bas g) key) ask).length = n) := Lib.hid (by rw [rightL_len]; exact HE.out)
    obtain ⟨g1, c1, hv⟩ := (ownT_form A5.out).2 (by rw [HRn.out]; omega)
    rw [HRn.out] at hv
    injection hv with hv1 hv2 hv3
    subst hv1 hv3
    clear hx ho ho' hn g0 g4 A4 HM hv2
    generalize glog g (bas g) key = lk at *
    go_wp2_with fail
    refine (iels_any _ _ G4.out).mono ?_
    rintro e w5 ⟨v2, rfl, O5, hb⟩
    have B5 := Lib.hid (B4.out.trans (hb.mono B4.out.size))
    have G5 := Lib.hid (G4.out.on hb)
    have A6 := Lib.hid (ownT_below A5.out hb)
    obtain ⟨g2, c2, rfl⟩ : ∃ g2 c2, v2 = .slice (some ⟨g2, 0, none⟩) n c2 := by
      rcases Ints.of_own O5 (by have := @els_len g; unfold maxLen; omega) with ⟨_, e⟩ | ⟨g2, c2, e, _⟩
      · have := HE.out; rw [e] at this; simp at this; omega
      · rw [HE.out] at e; exact ⟨g2, c2, e⟩
    have M0 : Hid (Mw w w1.heap.size w4.heap.size g1 c g2 c2 n ask (rightL g lk ask) (els g) w5) := Lib.hid ⟨A6.out, O5, G5.out, B5.out⟩
    clear hb O5 A5 A6 B5 G5
    go_wp2
    go_loopw [8] (fun i wr => ∃ k : Nat, k ≤ n ∧ i = .int .i64 k ∧ Hid (Mw w w1.heap.size w4.heap.size g1 c g2 c2 n ask (rightL g lk ask) (els g) wr)) (fun i _ => n - (intOf i).toNat)
    case atStart => exact ⟨0, by omega, rfl, M0⟩
    case round =>
      obtain ⟨k, hk, rfl, M⟩ := hrel
      obtain ⟨wo, rfl⟩ : ∃ wo : World, wo = wr := ⟨_, rfl⟩
      by_cases hlt : k < n
      · have HAT : Hid (∀ w', Mw w w1.heap.size w4.heap.size g1 c g2 c2 n ask (rightL g lk ask) (els g) w' →
          (w'.cell? ⟨g1, k * 3, none⟩ = some (.int .i64 (nth (els g) k)) ∧ w'.cell? ⟨g1, k * 3 + 1, none⟩ = some (.int .i64 ask) ∧ w'.cell? ⟨g1, k * 3 + 2, none⟩ = some (.int .i64 (tellOf g lk (glog g (bas g) (nth (els g) k)) ask))) ∧
          w'.cell? ⟨g2, k, none⟩ = some (.int .i64 (nth (els g) k))) :=
          Lib.hid fun w' h => ⟨by have q := ownT_at h.o1 HRn.out hlt; rw [(HA.out k hlt).1, (HA.out k hlt).2] at q; exact q, own_at h.o2 HE.out hlt⟩
        have HT : Hid (tokB g key (nth (els g) k) ask (tellOf g lk (glog g (bas g) (nth (els g) k)) ask) = true) := Lib.hid (HR.out k hlt)
        generalize tellOf g lk (glog g (bas g) (nth (els g) k)) ask = t at HAT HT
        generalize nth (els g) k = x at HAT HT
        have hlt1 : (k : Int) < (n : Int) := by omega
        have hge : decide (n ≤ k) = false := decide_eq_false (by omega)
        have HD : Hid (Mw w w1.heap.size w4.heap.size g1 c g2 c2 n ask (rightL g lk ask) (els g) wo.drew) := Mw.on M (Below.refl _ _).drew
        go_wp2_with fail
        refine wp_region_class (C := fun w' => Hid (Mw w w1.heap.size w4.heap.size g1 c g2 c2 n ask (rightL g lk ask) (els g) w')) (by kernel_rfl) (by kernel_rfl) HD ?_
        repeat (first | go_big_quiet_skip | (go_big_quiet_want; go_big_quiet_op; first | go_big_quiet_on | (refine ⟨_, fun _ _ => rfl, ?_⟩; go_big_quiet_on)))
        go_big_quiet_want
        go_big_quiet_op
        refine ⟨.int .i64 x, fun w' hw' => ?_, ?_⟩
        · obtain ⟨⟨q, q1, q2⟩, _⟩ := HAT.out _ hw'.out
          simp [go_sem, q]
        go_big_quiet_on
        repeat (first | go_big_quiet_skip | (go_big_quiet_want; go_big_quiet_op; first | go_big_quiet_on | (refine ⟨_, fun _ _ => rfl, ?_⟩; go_big_quiet_on)))
        go_big_quiet_want
        go_big_quiet_op
        refine ⟨.int .i64 x, fun w' hw' => ?_, ?_⟩
        · obtain ⟨_, q⟩ := HAT.out _ hw'.out
          simp [go_sem, q]
        go_big_quiet_on
        repeat (first | go_big_quiet_skip | (go_big_quiet_want; go_big_quiet_op; first | go_big_quiet_on | (refine ⟨_, fun _ _ => rfl, ?_⟩; go_big_quiet_on)))
        go_big_quiet_want
        go_big_quiet_op
        refine ⟨.agg #[.int .i64 x, .int .i64 ask, .int .i64 t], fun w' hw' => ?_, ?_⟩
        · obtain ⟨⟨q, q1, q2⟩, _⟩ := HAT.out _ hw'.out
          simp [go_sem, q, q1, q2]
        go_big_quiet_on
        repeat (first | go_big_quiet_skip | (go_big_quiet_want; go_big_quiet_op; first | go_big_quiet_on | (refine ⟨_, fun _ _ => rfl, ?_⟩; go_big_quiet_on)))
        go_big_quiet_want
        go_big_quiet_op
        go_big_quiet_call ((intro hw; exact (itok_any g key x ask t _ hw.out.gr).mono fun _ _ ⟨he, hb⟩ => ⟨he.trans (by rw [HT.out]), Mw.on hw hb⟩))
        repeat (first | go_big_quiet_skip | (go_big_quiet_want; go_big_quiet_op; first | go_big_quiet_on | (refine ⟨_, fun _ _ => rfl, ?_⟩; go_big_quiet_on)))
        refine wpQuiet_nil ?_
        intro wz M2
        clear HD M HAT HT
        go_wp2
        go_roundw
        case rel => exact ⟨k + 1, by omega, by go_num, M2⟩
        case measure => simp [intOf]; omega
      · obtain rfl : k = n := by omega
        go_wp2
        go_ret
        exact ⟨rfl, M.out.below⟩
  · have hn : n = 0 := by rw [← HN.out, made_none hx]; rfl
    clear hx
    subst hn
    go_wp2_with fail
    refine (alive_any _ G4.out).mono ?_
    rintro e wz_ ⟨rfl, rfl⟩
    go_wp2
    go_ret
    exact ⟨rfl, B4.out⟩
end Go.Proofs.YtacaeoalplggfadDoor
