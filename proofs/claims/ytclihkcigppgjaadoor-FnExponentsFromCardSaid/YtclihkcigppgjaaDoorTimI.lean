/- impl: saysOk, timesMakes. -/
import Derived.Test.YtclihkcigppgjaaDoorSolI
import Derived.Test.YtclihkcigppgjaaDoorRegionI
namespace Go.Proofs.YtclihkcigppgjaaDoor
open Go.RowKit

def saysB (g : Int) (rows : List (List Int)) (makes says : List Int) : Bool := clB g rows makes && (decide (says.length = rows.length) && allEl g says)

theorem isays_any (g : Int) (rv mv sv : Value) (rows : List (List Int)) (makes says : List Int) (w : World) (G : Gr w) (h : Cw w rv mv rows makes) (hs : Ints w sv says) :
    Calls Tryd.prog 42 #[.agg #[.int .i64 g, rv, mv], sv] w fun e w' => e = .returned (.bool (saysB g rows makes says)) ∧ Below w.heap.size w w' := by
  obtain ⟨a, c, rfl, k1⟩ := h.rows.opened
  obtain ⟨ea, ec, rfl, k3⟩ := hs.opened
  have HH := Lib.hid h
  have HE := Lib.hid hs
  have HG := Lib.hid G
  have hem := k3.max
  have hrm := k1.max
  obtain ⟨n, hn⟩ : ∃ n, says.length = n := ⟨_, rfl⟩
  obtain ⟨r, hr⟩ : ∃ r, rows.length = r := ⟨_, rfl⟩
  have HXN := Lib.hid (show n ≠ r → saysB g rows makes says = false from fun hne => by unfold saysB; rw [hn, hr]; simp [hne])
  have HXY := Lib.hid (show clB g rows makes = true → n = r → saysB g rows makes says = allEl g says from fun hc he => by unfold saysB; rw [hn, hr, hc]; simp [he])
  have HX0 := Lib.hid (show clB g rows makes = false → saysB g rows makes says = false from fun hc => by unfold saysB; rw [hc]; rfl)
  rw [hn] at hem HE ⊢
  rw [hr] at hrm HH ⊢
  unfold maxLen at hem hrm
  have B0 := Lib.hid (below_grow w (.cells #[.int .i64 g, .slice a r c, mv] 26))
  clear h hs G k1 k3 hn hr
  cases hc : clB g rows makes
  · have HX := Lib.hid (HX0.out hc)
    go_enter Tryd.func42, Tryd.ntmps42
    go_wp2_with fail
    refine (iclaim_any g _ mv rows makes _ (HG.out.on B0.out) (HH.out.on B0.out)).mono ?_
    rintro e w1 ⟨rfl, hb1⟩
    rw [hc]
    have L1 := Lib.hid (Below.on B0.out hb1)
    go_wp2
    go_ret
    exact ⟨by rw [HX.out]; rfl, L1.out⟩
  · by_cases hlu : n = r
    · have HX := Lib.hid (HXY.out hc hlu)
      have hq : ((n : Int) == (r : Int)) = true := by rw [hlu]; simp
      clear hlu
      go_enter Tryd.func42, Tryd.ntmps42
      go_wp2_with fail
      refine (iclaim_any g _ mv rows makes _ (HG.out.on B0.out) (HH.out.on B0.out)).mono ?_
      rintro e w1 ⟨rfl, hb1⟩
      rw [hc]
      obtain ⟨P1, L1⟩ := boxes1 (P := [.int .i64 g, .slice a r c, mv]) hb1
      have b0 := P1.cell 0
      have b1 := P1.cell 1
      simp at b0 b1
      have HL := Lib.hid L1
      clear P1 L1 hb1
      go_wp2_with fail
      refine (ielsok_any g _ says _ (HG.out.on HL.out) (HE.out.below HL.out)).mono ?_
      rintro e w2 ⟨rfl, hb2⟩
      have L2 := Lib.hid (Below.on HL.out hb2)
      clear hb2 b0 b1
      go_wp2
      go_ret
      exact ⟨by rw [HX.out]; rfl, L2.out⟩
    · have HX := Lib.hid (HXN.out hlu)
      have hq : ((n : Int) == (r : Int)) = false := by rw [beq_eq_false_iff_ne]; omega
      go_enter Tryd.func42, Tryd.ntmps42
      go_wp2_with fail
      refine (iclaim_any g _ mv rows makes _ (HG.out.on B0.out) (HH.out.on B0.out)).mono ?_
      rintro e w1 ⟨rfl, hb1⟩
      rw [hc]
      obtain ⟨P1, L1⟩ := boxes1 (P := [.int .i64 g, .slice a r c, mv]) hb1
      have b0 := P1.cell 0
      have b1 := P1.cell 1
      simp at b0 b1
      have HL := Lib.hid L1
      clear P1 L1 hb1
      go_wp2
      go_ret
      exact ⟨by rw [HX.out]; rfl, HL.out⟩

set_option maxHeartbeats 3200000 in
theorem itimes_any (g : Int) (rv mv sv : Value) (makes xs : List Int) (p : Int) (w : World) (G : Gr w) (h : Ints w mv makes) (hs : Ints w sv xs) (hlm : xs.length ≤ makes.length) (hl3 : xs.length ≤ 1000) :
    Calls Tryd.prog 47 #[.agg #[.int .i64 g, rv, mv], sv, .int .i64 p] w fun e w' => ∃ v, e = .returned v ∧ Own w' w.heap.size v (timesAll g xs makes p) ∧ Below w.heap.size w w' := by
  obtain ⟨b, d, rfl, k2⟩ := h.opened
  obtain ⟨ea, ec, rfl, k3⟩ := hs.opened
  obtain ⟨n, hn⟩ : ∃ n, xs.length = n := ⟨_, rfl⟩
  obtain ⟨m, hm⟩ : ∃ m, makes.length = m := ⟨_, rfl⟩
  have HG := Lib.hid G
  have hmm := k2.max
  have HM := Lib.hid (show ∀ k, k < m → ∃ M, b = some ⟨M, 0, none⟩ ∧ ∀ w', Below w.heap.size w w' → w'.cell? ⟨M, k, none⟩ = some (.int .i64 (nth makes k)) from fun k hk => by
    obtain ⟨M, e1, hl, e2⟩ := k2.get k (by rw [hm]; exact hk)
    exact ⟨M, e1, fun w' hb => (hb.cell (p := ⟨M, k, none⟩) hl).trans e2⟩)
  have HE := Lib.hid (show ∀ k, k < n → ∃ M, ea = some ⟨M, 0, none⟩ ∧ ∀ w', Below w.heap.size w w' → w'.cell? ⟨M, k, none⟩ = some (.int .i64 (nth xs k)) from fun k hk => by
    obtain ⟨M, e1, hl, e2⟩ := k3.get k (by rw [hn]; exact hk)
    exact ⟨M, e1, fun w' hb => (hb.cell (p := ⟨M, k, none⟩) hl).trans e2⟩)
  have HA : Hid (timesAll g xs makes p = timesTo g xs makes p n) := Lib.hid (by unfold timesAll; rw [hn])
  have HS := Lib.hid (timesTo_succ g xs makes p)
  have HLN := Lib.hid (timesTo_len g xs makes p)
  rw [hn] at hlm hl3 ⊢
  rw [hm] at hmm hlm ⊢
  unfold maxLen at hmm
  clear h hs G k2 k3 hn hm
  go_enter Tryd.func47, Tryd.ntmps47
  go_wp2
  go_loopw [7, 12] (fun v i wr => ∃ k : Nat, k ≤ n ∧ i = .int .i64 k ∧ Hid (InB w [.int .i64 g, rv, .slice b m d] 26 wr) ∧ Hid (Own wr (w.heap.size + 1) v (timesTo g xs makes p k))) (fun _ i _ => n - (intOf i).toNat)
  case atStart => exact ⟨0, by omega, rfl, Lib.hid (InB.start _ _ _), Lib.hid (World.ownsRow_nil _ _ _ _)⟩
  case round =>
    obtain ⟨k, hk, rfl, hI, ho⟩ := hrel
    obtain ⟨wo, rfl⟩ : ∃ wo : World, wo = wr := ⟨_, rfl⟩
    by_cases hlt : k < n
    · obtain ⟨M, rfl, hmk⟩ := HM.out k (by omega)
      obtain ⟨X, rfl, hxk⟩ := HE.out k hlt
      have hx0 := hxk _ hI.out.fin
      have HMK := Lib.hid hmk
      have hkm : (k : Int) < (m : Int) := by omega
      have hkm' : k < m := by omega
      obtain ⟨y, hy⟩ : ∃ y, tim g (nth xs k) (gpow g (nth makes k) p) = y := ⟨_, rfl⟩
      have HY := Lib.hid hy
      have hll := HLN.out k
      have HK : Hid (Kp (w.alloc (.cells #[.int .i64 g, rv, .slice (some ⟨M, 0, none⟩) m d] 26)) (w.heap.size + 1) u7 (timesTo g xs makes p k) y none wo.drew) := Lib.hid (Kp.on (w1 := wo) ⟨hI.out, hI.out.size, ho.out⟩ (Below.refl _ _).drew)
      have HBX : Hid (∀ z w', Kp (w.alloc (.cells #[.int .i64 g, rv, .slice (some ⟨M, 0, none⟩) m d] 26)) (w.heap.size + 1) u7 (timesTo g xs makes p k) y z w' → InB w [.int .i64 g, rv, .slice (some ⟨M, 0, none⟩) m d] 26 w') := Lib.hid fun z w' h => h.below.1
      clear hmk hxk hI ho hy
      go_wp2_with fail
      clear hx0
      apply wp_region_H (S := fun k => k == 14 || k == 15) (C := fun z w' => Hid (Kp (w.alloc (.cells #[.int .i64 g, rv, .slice (some ⟨M, 0, none⟩) m d] 26)) (w.heap.size + 1) u7 (timesTo g xs makes p k) y z w')) [0, 1, 2, 3, 4, 5, 6, 7, 8, 9, 10, 11, 12, 13] none
      · kernel_rfl
      · kernel_rfl
      · kernel_rfl
      · exact ⟨rfl, rfl, rfl, rfl, rfl, rfl, rfl, rfl, rfl, rfl, rfl, rfl, rfl, rfl, trivial⟩
      · rfl
      · decide
      · exact HK
      · intro z
        dsimp only [pickL, nthO]
        repeat (first | go_big_quiet_skip | (go_big_quiet_want; go_big_quiet_op; first | go_big_quiet_on | (refine ⟨_, fun _ _ => rfl, ?_⟩; go_big_quiet_on)))
        go_big_quiet_want
        go_big_quiet_op
        refine ⟨.int .i64 g, fun w' hw' => ?_, ?_⟩
        · have q := (HBX.out _ _ hw'.out).box.cell 0
          try simp at q
          simp [go_sem, q]
        go_big_quiet_on
        repeat (first | go_big_quiet_skip | (go_big_quiet_want; go_big_quiet_op; first | go_big_quiet_on | (refine ⟨_, fun _ _ => rfl, ?_⟩; go_big_quiet_on)))
        go_big_quiet_want
        go_big_quiet_op
        refine ⟨.int .i64 g, fun w' hw' => ?_, ?_⟩
        · have q := (HBX.out _ _ hw'.out).box.cell 0
          try simp at q
          simp [go_sem, q]
        go_big_quiet_on
        repeat (first | go_big_quiet_skip | (go_big_quiet_want; go_big_quiet_op; first | go_big_quiet_on | (refine ⟨_, fun _ _ => rfl, ?_⟩; go_big_quiet_on)))
        go_big_quiet_want
        go_big_quiet_op
        refine ⟨.slice (some ⟨M, 0, none⟩) m d, fun w' hw' => ?_, ?_⟩
        · have q := (HBX.out _ _ hw'.out).box.cell 2
          try simp at q
          simp [go_sem, q]
        go_big_quiet_on
        repeat (first | go_big_quiet_skip | (go_big_quiet_want; go_big_quiet_op; first | go_big_quiet_on | (refine ⟨_, fun _ _ => rfl, ?_⟩; go_big_quiet_on)))
        go_big_quiet_want
        go_big_quiet_op
        refine ⟨.int .i64 (nth makes k), fun w' hw' => ?_, ?_⟩
        · have q := HMK.out w' (HBX.out _ _ hw'.out).fin
          try simp at q
          simp [go_sem, q]
        go_big_quiet_on
        repeat (first | go_big_quiet_skip | (go_big_quiet_want; go_big_quiet_op; first | go_big_quiet_on | (refine ⟨_, fun _ _ => rfl, ?_⟩; go_big_quiet_on)))
        go_big_quiet_want
        go_big_quiet_op
        go_big_quiet_call ((intro hw; exact (ipow_l g (nth makes k) p _ (HG.out.on (HBX.out _ _ hw.out).fin)).mono fun _ _ ⟨he, hb⟩ => ⟨he, Lib.hid (hw.out.on hb)⟩))
        repeat (first | go_big_quiet_skip | (go_big_quiet_want; go_big_quiet_op; first | go_big_quiet_on | (refine ⟨_, fun _ _ => rfl, ?_⟩; go_big_quiet_on)))
        go_big_quiet_want
        go_big_quiet_op
        go_big_quiet_call ((intro hw; exact (itim_l g (nth xs k) _ _ (HG.out.on (HBX.out _ _ hw.out).fin)).mono fun _ _ ⟨he, hb⟩ => ⟨by rw [he, HY.out], Lib.hid (hw.out.on hb)⟩))
        exact wpQuiet_nil rfl
      · refine wpAnyH_special (i := 14) (d := some 31) rfl (by kernel_rfl) rfl rfl (by kernel_rfl) fun wa hc => ⟨.slice (some ⟨wa.heap.size, 0, none⟩) 1 1, wa.alloc (.cells #[.int .i64 y] 3), some (.inl wa.heap.size), .inl (by kernel_rfl), Lib.hid (Kp.build hc.out), ?_⟩
        clear hc
        refine wpAnyH_app (i := 15) (d := some 32) (v := u7) (xs := timesTo g xs makes p k) (y := y) (B := w.heap.size + 1) (N := wa.heap.size) (.tmp 17) (.tmp 31) rfl (by kernel_rfl) rfl rfl (by kernel_rfl) rfl rfl rfl fun wb hc => ⟨hc.out.2.2.1, by omega, hc.out.2.1, hc.out.2.2.2, fun v' wc o4 g4 => ⟨some (.inr v'), Lib.hid (hc.out.app o4 g4), ?_⟩⟩
        clear hc o4 g4
        refine wpAnyH_assign (i := 16) (d := some 7) _ rfl (by kernel_rfl) rfl rfl (by kernel_rfl) rfl ?_
        refine ⟨by kernel_rfl, fun w2 hw2 => ?_⟩
        simp only [Act.put, Act.eval]
        clear HK HBX
        have I2 : Hid (InB w [.int .i64 g, rv, .slice (some ⟨M, 0, none⟩) m d] 26 w2) := Lib.hid hw2.out.1
        have O2 : Hid (Own w2 (w.heap.size + 1) v' (timesTo g xs makes p (k + 1))) := Lib.hid (by rw [HS.out, HY.out]; exact hw2.out.2.2)
        clear hw2
        go_wp2
        go_roundw
        case rel => exact ⟨k + 1, by omega, by go_num, I2, O2⟩
        case measure => simp [intOf]; omega
    · obtain rfl : k = n := by omega
      have O1 : Hid (Own wo w.heap.size u7 (timesAll g xs makes p)) := Lib.hid (by rw [HA.out]; exact own_mono ho.out (Nat.le_succ _))
      clear ho
      go_wp2
      go_ret
      exact ⟨_, rfl, O1.out, hI.out.fin⟩
end Go.Proofs.YtclihkcigppgjaaDoor
