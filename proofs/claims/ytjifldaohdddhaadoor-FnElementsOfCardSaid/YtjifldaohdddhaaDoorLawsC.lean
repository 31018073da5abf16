/- The laws of chapter 1 that go round a list of elements, walked. -/
import Derived.Test.YtjifldaohdddhaaDoorLawsA
import Derived.Deep.RegionHeld3
namespace Go.Proofs.YtjifldaohdddhaaDoor
open Go.RowKit

theorem Ints.cells {w : World} {v : Value} {xs : List Int} (h : Ints w v xs) (hp : 0 < xs.length) : ∃ b c, v = .slice (some ⟨b, 0, none⟩) xs.length c ∧ ∀ j, j < xs.length → w.cell? ⟨b, j, none⟩ = some (.int .i64 (nth xs j)) := by
  rcases h with ⟨rfl, rfl⟩ | ⟨g, cap, rfl, _, _, hc⟩
  · simp at hp
  · exact ⟨_, _, rfl, hc⟩

/-- A world later than W in which the cell of a list, and the groups, read as in W. -/
structure At (W : World) (b k : Nat) (x : Int) (w : World) : Prop where
  cell : w.cell? ⟨b, k, none⟩ = some (.int .i64 x)
  gr : Gr w
  below : Below W.heap.size W w
theorem At.drewN {W w : World} {b k : Nat} {x : Int} (h : At W b k x w) (n : Nat) : At W b k x (w.drewN n) := ⟨h.cell, h.gr.drewN n, below_drewN h.below n⟩
theorem At.on {W w w' : World} {b k : Nat} {x : Int} (h : At W b k x w) (hb : Below w.heap.size w w') : At W b k x w' :=
  ⟨(hb.cell (p := ⟨b, k, none⟩) (World.block_lt_of_cell? _ _ h.cell)).trans h.cell, h.gr.on hb, h.below.trans (hb.mono h.below.size)⟩
theorem itim_at {W w : World} {b' k : Nat} {x : Int} (g a b : Int) (h : Hid (At W b' k x w)) : Calls Tryd.prog 32 #[.int .i64 g, .int .i64 a, .int .i64 b] w fun e w' => e = .returned (.int .i64 (tim g a b)) ∧ Hid (At W b' k x w') :=
  (itim_any g a b w h.out.gr).mono fun _ _ ⟨he, m, hw⟩ => ⟨he, Lib.hid (by rw [hw]; exact h.out.drewN m)⟩
theorem ilog_at {W w : World} {b' k : Nat} {x : Int} (g b a : Int) (h : Hid (At W b' k x w)) : Calls Tryd.prog 41 #[.int .i64 g, .int .i64 b, .int .i64 a] w fun e w' => e = .returned (.int .i64 (glog g b a)) ∧ Hid (At W b' k x w') :=
  (ilog_any g b a w h.out.gr).mono fun _ _ ⟨he, m, hw⟩ => ⟨he, Lib.hid (by rw [hw]; exact h.out.drewN m)⟩
theorem sord_at {W w : World} {b' k : Nat} {x : Int} (g : Int) (h : Hid (At W b' k x w)) : Calls Tryd.prog 17 #[.int .i64 g] w fun e w' => e = .returned (.int .i64 (ord g)) ∧ Hid (At W b' k x w') :=
  (sord_any g w).mono fun _ _ ⟨he, hb⟩ => ⟨he, Lib.hid (h.out.on hb)⟩

set_option maxHeartbeats 1600000 in
theorem lLogOf_walk (s : Value) (w : World) (h : CodeIn w s) (G : Gr w) : Calls Tryd.prog 11 #[s] w fun e w' => e = .returned (.bool true) ∧ Below w.heap.size w w' := by
  obtain ⟨a0, len0, cap0, rfl⟩ := h.slice
  have H := Lib.hid h; clear h
  have G0 := Lib.hid G; clear G
  have B0 := Lib.hid (Below.refl w.heap.size w)
  by_cases hl : 1048576 < len0
  · go_enter Tryd.func11, Tryd.ntmps11
    go_wp2
    go_ret
    exact ⟨rfl, Below.refl _ _⟩
  go_enter Tryd.func11, Tryd.ntmps11
  go_wp2_with fail
  refine (drawLogOf_any _ _ H.out).mono ?_
  rintro e w1 ⟨g, b, a, rfl, lg, lb, la, hb⟩
  have B1 := Lib.hid hb
  have G1 := Lib.hid (G0.out.on hb)
  clear hb
  go_wp2_with fail
  refine (ilog_any _ _ _ _ G1.out).mono ?_
  rintro e w2 ⟨rfl, m2, hw2⟩
  have hb : Below w1.heap.size w1 w2 := by rw [hw2]; exact below_drewN (Below.refl _ _) m2
  clear hw2
  have B2 := Lib.hid (B1.out.trans (hb.mono B1.out.size))
  have G2 := Lib.hid (G1.out.on hb)
  clear hb
  go_wp2_with fail
  refine (slog_any _ _ _ _).mono ?_
  rintro e w3 ⟨rfl, hb⟩
  have B3 := Lib.hid (B2.out.trans (hb.mono B2.out.size))
  have G3 := Lib.hid (G2.out.on hb)
  clear hb
  by_cases hx : glog g b a < 0
  · have he : (glog g b a == -1) = true := by rw [glog_neg hx]; rfl
    go_wp2_with fail
    refine (alive_any _ G3.out).mono ?_
    rintro e wz_ ⟨rfl, rfl⟩
    go_wp2
    go_ret
    exact ⟨rfl, B3.out⟩
  · have hx0 : 0 ≤ glog g b a := by omega
    obtain ⟨eb, ea, hb1⟩ := glog_pos hx0
    obtain ⟨h0, h4⟩ := elB_group eb
    obtain ⟨o1, o2⟩ := ord_bd h0 h4
    have hlt0 := (glog_spec eb ea hb1).2.1
    have HT := Lib.hid (fun (c : Int) (hc : elB g c = true) => glog_tim eb hb1 ea hc)
    have HS := Lib.hid (fun (c : Int) (hc : elB g c = true) => glog_spec eb hc hb1)
    have HP := Lib.hid (gpow_glog hx0)
    have HE := Lib.hid (exB_glog hx0)
    clear hx hb1
    go_wp2_with fail
    refine (sels_any _ _).mono ?_
    rintro e w4 ⟨v, rfl, O4, hb⟩
    have B4 := Lib.hid (B3.out.trans (hb.mono B3.out.size))
    have G4 := Lib.hid (G3.out.on hb)
    have I4 := Lib.hid (Ints.of_own O4 (els_fit g))
    clear hb O4
    have hlen2 := @els_len g
    have HL := Lib.hid (els_ord h0 h4)
    have hpos : 0 < (els g).length := by have := HL.out; omega
    obtain ⟨blk, cp, rfl, cell⟩ := I4.out.cells hpos
    have HC := Lib.hid cell; clear cell
    have HI : Hid (∀ wr : World, Below w4.heap.size w4 wr → ∀ j, j < (els g).length → wr.cell? ⟨blk, j, none⟩ = some (.int .i64 (nth (els g) j))) := Lib.hid (fun wr hb j hj => (hb.cell (p := ⟨blk, j, none⟩) (World.block_lt_of_cell? _ _ (HC.out j hj))).trans (HC.out j hj))
    have hz : (ord g == 0) = false := by rw [beq_eq_false_iff_ne]; omega
    go_wp2
    go_loopw [8] (fun x wr => ∃ k : Nat, k ≤ (els g).length ∧ x = .int .i64 k ∧ Hid (Below w4.heap.size w4 wr)) (fun x _ => (els g).length - (intOf x).toNat)
    case atStart => exact ⟨0, by omega, rfl, Lib.hid (Below.refl _ _)⟩
    case round =>
      obtain ⟨k, hk, rfl, hbr⟩ := hrel
      by_cases hlt : k < (els g).length
      · obtain ⟨x, hxx⟩ : ∃ x, nth (els g) k = x := ⟨_, rfl⟩
        have ex : elB g x = true := by rw [← hxx]; exact elB_mem.2 (nth_mem hlt)
        obtain ⟨s1, s2, _⟩ := HS.out x ex
        have hc : wr.cell? ⟨blk, k, none⟩ = some (.int .i64 x) := by rw [← hxx]; exact HI.out wr hbr.out k hlt
        have hA0 : Hid (At wr blk k x wr.drew) := Lib.hid (At.drewN ⟨hc, G4.out.on hbr.out, Below.refl _ _⟩ 1)
        have hki : (k : Int) < ((els g).length : Int) := by omega
        have hq : (glog g b (tim g a x) != (glog g b a + glog g b x) % ord g) = false := by rw [HT.out x ex]; simp
        clear hxx
        go_wp2_with fail
        have hz2 : ¬ ord g = 0 := by omega
        have e1 : IntKind.i64.wrap (glog g b a + glog g b x) = glog g b a + glog g b x := IntWalk.i64_in _ (by omega)
        have e2 : (glog g b a + glog g b x).tmod (ord g) = (glog g b a + glog g b x) % ord g := Int.tmod_eq_emod_of_nonneg (by omega)
        go_region_held3 (fun w' => w'.cell? ⟨blk, k, none⟩ = some (.int .i64 x) ∧ Hid (At wr blk k x w')) (exact ⟨(Hid.out ‹Hid (At wr blk k x _)›).cell, ‹Hid (At wr blk k x _)›⟩)
          (first
            | (go_at_call 32; refine (itim_at _ _ _ ‹Hid (At wr blk k x _)›).mono ?_; rintro e w' ⟨rfl, hA⟩)
            | (go_at_call 41; refine (ilog_at _ _ _ ‹Hid (At wr blk k x _)›).mono ?_; rintro e w' ⟨rfl, hA⟩)
            | (go_at_call 17; refine (sord_at _ ‹Hid (At wr blk k x _)›).mono ?_; rintro e w' ⟨rfl, hA⟩))
        clear e1 e2
        go_wp2
        go_roundw
        case rel => exact ⟨k + 1, by omega, by go_num, by refine Lib.hid (hbr.out.trans (Below.mono (At.below (b := blk) (k := k) (x := x) (Hid.out ?_)) hbr.out.size)); assumption⟩
        case measure => simp [intOf]; omega
      · obtain rfl : k = (els g).length := by omega
        have GR := Lib.hid (G4.out.on hbr.out)
        have BR := Lib.hid (B4.out.trans (hbr.out.mono B4.out.size))
        go_wp2_with fail
        refine (ipow_any _ _ _ _ GR.out).mono ?_
        rintro e wx ⟨rfl, mx, hwx⟩
        have GX : Hid (Gr wx) := Lib.hid (by rw [hwx]; exact GR.out.drewN mx)
        have BX : Hid (Below w.heap.size w wx) := Lib.hid (by rw [hwx]; exact below_drewN BR.out mx)
        clear hwx
        rw [HP.out]
        go_wp2_with fail
        refine (iex_any _ _ _ GX.out).mono ?_
        rintro e wy ⟨rfl, rfl⟩
        rw [HE.out]
        go_wp2
        go_ret
        exact ⟨rfl, BX.out⟩

theorem lExponentBack_walk (s : Value) (w : World) (h : CodeIn w s) (G : Gr w) : Calls Tryd.prog 12 #[s] w fun e w' => e = .returned (.bool true) ∧ Below w.heap.size w w' := by
  obtain ⟨a0, len0, cap0, rfl⟩ := h.slice
  have H := Lib.hid h; clear h
  have G0 := Lib.hid G; clear G
  have B0 := Lib.hid (Below.refl w.heap.size w)
  by_cases hl : 1048576 < len0
  · go_enter Tryd.func12, Tryd.ntmps12
    go_wp2
    go_ret
    exact ⟨rfl, Below.refl _ _⟩
  go_enter Tryd.func12, Tryd.ntmps12
  go_wp2_with fail
  refine (drawExponentBack_any _ _ H.out).mono ?_
  rintro e w1 ⟨g, n, rfl, lg, la, hb⟩
  have B1 := Lib.hid hb
  have G1 := Lib.hid (G0.out.on hb)
  clear hb
  go_wp2_with fail
  refine (iback_any _ _ _ G1.out).mono ?_
  rintro e w2_ ⟨rfl, rfl⟩
  go_wp2_with fail
  refine (sback_any _ _ _).mono ?_
  rintro e w2 ⟨rfl, hb⟩
  have B2 := Lib.hid (B1.out.trans (hb.mono B1.out.size))
  have G2 := Lib.hid (G1.out.on hb)
  clear hb
  by_cases hx : gback g n < 0
  · have he : (gback g n == -1) = true := by rw [gback_neg hx]; rfl
    go_wp2_with fail
    refine (alive_any _ G2.out).mono ?_
    rintro e wz_ ⟨rfl, rfl⟩
    go_wp2
    go_ret
    exact ⟨rfl, B2.out⟩
  · have hx0 : 0 ≤ gback g n := by omega
    obtain ⟨hxe, mb, mp⟩ := gback_pos hx0
    obtain ⟨⟨h0, h4⟩, n0, n1⟩ := exB_true.1 hxe
    obtain ⟨o1, o2⟩ := ord_bd h0 h4
    have HR := Lib.hid (fun (a : Int) (ha : elB g a = true) => root_back hx0 ha)
    have MP := Lib.hid mp
    clear mp hx
    go_wp2_with fail
    refine (sels_any _ _).mono ?_
    rintro e w3 ⟨v, rfl, O3, hb⟩
    have B3 := Lib.hid (B2.out.trans (hb.mono B2.out.size))
    have G3 := Lib.hid (G2.out.on hb)
    have I3 := Lib.hid (Ints.of_own O3 (els_fit g))
    clear hb O3
    have hlen2 := @els_len g
    have HL := Lib.hid (els_ord h0 h4)
    have hpos : 0 < (els g).length := by have := HL.out; omega
    obtain ⟨blk, cp, rfl, cell⟩ := I3.out.cells hpos
    have HC := Lib.hid cell; clear cell
    go_wp2
    go_loopw [7] (fun x wr => ∃ k : Nat, k ≤ (els g).length ∧ x = .int .i64 k ∧ ∃ m, wr = w3.drewN m) (fun x _ => (els g).length - (intOf x).toNat)
    case atStart => exact ⟨0, by omega, rfl, 0, rfl⟩
    case round =>
      obtain ⟨k, hk, rfl, m, rfl⟩ := hrel
      by_cases hlt : k < (els g).length
      · have hc := HC.out k hlt
        have hki : (k : Int) < ((els g).length : Int) := by omega
        have hq : (gpow g (gpow g (nth (els g) k) n) (gback g n) != nth (els g) k) = false := by rw [HR.out _ (elB_mem.2 (nth_mem hlt))]; simp
        obtain ⟨W, hW⟩ : ∃ W, W = w3.drewN m := ⟨_, rfl⟩
        have hcW : W.cell? ⟨blk, k, none⟩ = some (.int .i64 (nth (els g) k)) := by rw [hW]; exact hc
        have GW : Hid (Gr W) := Lib.hid (by rw [hW]; exact Gr.drewN G3.out _)
        rw [← hW]
        have HW := Lib.hid hW
        clear hc hW
        go_wp2_with fail
        go_quiet ((go_at_call 36; exact Calls.quiet_of (ipow_any _ _ _ _ (Gr.drewN GW.out _))))
        go_wp2
        go_roundw
        case rel => exact ⟨k + 1, by omega, by go_num, m + nq, by rw [HW.out]; exact World.drewN_drewN _ _ _⟩
        case measure => simp [intOf]; omega
      · obtain rfl : k = (els g).length := by omega
        have q0 : 0 ≤ n * gback g n := Int.mul_nonneg n0 hx0
        have q1 : n * gback g n ≤ 23 * 23 := Int.mul_le_mul (by omega) (by omega) (by omega) (by omega)
        have hz : (ord g == 0) = false := by rw [beq_eq_false_iff_ne]; omega
        have hm : (n * gback g n % ord g == 1) = true := by rw [MP.out]; rfl
        go_wp2_with fail
        refine (sord_any _ _).mono ?_
        rintro e w4 ⟨rfl, hb⟩
        have B4 := Lib.hid ((below_drewN B3.out m).trans (hb.mono B3.out.size))
        clear hb
        go_wp2
        go_ret
        exact ⟨rfl, B4.out⟩

end Go.Proofs.YtjifldaohdddhaaDoor
