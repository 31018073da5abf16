/- The law of ElementsOf, walked: the powers of each element but 1 are all elements, each once. -/
import Derived.Test.YtjifldaohdddhaaDoorLawsC
import Derived.Test.YtjifldaohdddhaaDoorPureC
namespace Go.Proofs.YtjifldaohdddhaaDoor
open Go.RowKit

theorem pows_step {w4 wx w6 : World} {s v' : Value} {g x : Int} {j : Nat} {o : Obj} (hown : wx.ownsRow w4.heap.size 3 1 s j ((powsTo g x j).map (Value.int .i64))) (hb : Below w4.heap.size w4 wx) (hl : (powsTo g x j).length = j)
    (he : powsTo g x (j + 1) = powsTo g x j ++ [gpow g x j])
    (hown' : w6.ownsRow w4.heap.size 3 1 v' (j + 1) ((powsTo g x j).map (Value.int .i64) ++ [.int .i64 (gpow g x j)])) (hg : (wx.alloc o).grownBy w6 s.ownBlock) :
    Own w6 w4.heap.size v' (powsTo g x (j + 1)) ∧ Below w4.heap.size w4 w6 := by
  refine ⟨?_, (hb.alloc hb.size o).grown hg (by simp; have := hb.size; omega) (fun j hj => (hown.lt j hj).1)⟩
  have h2 : (powsTo g x (j + 1)).length = j + 1 := by rw [he, List.length_append, hl]; rfl
  unfold Own; rw [h2, he]; simpa using hown'

set_option maxHeartbeats 1600000 in
theorem lElementsOf_walk (s : Value) (w : World) (h : CodeIn w s) (G : Gr w) : Calls Tryd.prog 10 #[s] w fun e w' => e = .returned (.bool true) ∧ Below w.heap.size w w' := by
  obtain ⟨a0, len0, cap0, rfl⟩ := h.slice
  have H := Lib.hid h; clear h
  have G0 := Lib.hid G; clear G
  have B0 := Lib.hid (Below.refl w.heap.size w)
  by_cases hl : 1048576 < len0
  · go_enter Tryd.func10, Tryd.ntmps10
    go_wp2
    go_ret
    exact ⟨rfl, Below.refl _ _⟩
  obtain ⟨i0, hi, hz0, hz1, hz2⟩ := info_parts infoInt
  go_enter Tryd.func10, Tryd.ntmps10
  go_wp2_with fail
  refine (drawElementsOf_any _ _ H.out).mono ?_
  rintro e w1 ⟨g, rfl, l1, u1, hb⟩
  have B1 := Lib.hid hb
  have G1 := Lib.hid (G0.out.on hb)
  clear hb
  have HS := Lib.hid (sameB_refl (els g))
  have hlen2 := @els_len g
  go_wp2_with fail
  refine (iels_any _ _ G1.out).mono ?_
  rintro e w2 ⟨v, rfl, O2, hb⟩
  have B2 := Lib.hid (B1.out.trans (hb.mono B1.out.size))
  have G2 := Lib.hid (G1.out.on hb)
  have I2 := Lib.hid (Ints.of_own O2 (els_fit g))
  clear hb O2
  go_wp2_with fail
  refine (sels_any _ _).mono ?_
  rintro e w3 ⟨u, rfl, O3, hb⟩
  have B3 := Lib.hid (B2.out.trans (hb.mono B2.out.size))
  have G3 := Lib.hid (G2.out.on hb)
  have I3 := Lib.hid (Ints.of_own O3 (els_fit g))
  have K3 := Lib.hid hb
  clear hb O3
  have I2' := Lib.hid (I2.out.below K3.out)
  go_wp2_with fail
  refine (same_any _ _ _ _ _ I2'.out I3.out).mono ?_
  rintro e w4 ⟨rfl, m4, hw⟩
  have B4 : Hid (Below w.heap.size w w4) := Lib.hid (by rw [hw]; exact below_drewN B3.out m4)
  have G4 : Hid (Gr w4) := Lib.hid (by rw [hw]; exact G3.out.drewN m4)
  have I4 : Hid (Ints w4 v (els g)) := Lib.hid (by rw [hw]; exact I2'.out.below (below_drewN (Below.refl _ _) m4))
  clear hw
  rw [HS.out]
  by_cases hg : 0 ≤ g ∧ g < 4
  · obtain ⟨h0, h4⟩ := hg
    obtain ⟨o1, o2⟩ := ord_bd h0 h4
    have HL := Lib.hid (els_ord h0 h4)
    have hl3 : 3 ≤ (els g).length := by have := HL.out; omega
    have HF := Lib.hid (els_first h0 h4)
    have HP := Lib.hid (fun (k n : Nat) (a : 1 ≤ k) (b : k < (els g).length) (c : n < (els g).length) => powers_ok h0 h4 a b c)
    obtain ⟨blk, cp, rfl, cell⟩ := I4.out.cells (by omega)
    have HC := Lib.hid cell; clear cell
    have hne : (((els g).length : Int) == 0) = false := by rw [beq_eq_false_iff_ne]; omega
    have KI : Hid (∀ wr : World, Below w4.heap.size w4 wr → Ints wr (.slice (some ⟨blk, 0, none⟩) (els g).length cp) (els g)) := Lib.hid (fun wr hb => I4.out.below hb)
    have KC : Hid (∀ wr : World, Below w4.heap.size w4 wr → ∀ j, j < (els g).length → wr.cell? ⟨blk, j, none⟩ = some (.int .i64 (nth (els g) j))) := Lib.hid (fun wr hb j hj => (hb.cell (p := ⟨blk, j, none⟩) (World.block_lt_of_cell? _ _ (HC.out j hj))).trans (HC.out j hj))
    go_wp2
    go_loopw [5] (fun x wr => ∃ k : Nat, 1 ≤ k ∧ k ≤ (els g).length ∧ x = .int .i64 k ∧ Hid (Below w4.heap.size w4 wr)) (fun x _ => (els g).length - (intOf x).toNat)
    case atStart => exact ⟨1, by omega, by omega, rfl, Lib.hid (Below.refl _ _)⟩
    case round =>
      obtain ⟨k, hk1, hk, rfl, hbr⟩ := hrel
      by_cases hlt : k < (els g).length
      · obtain ⟨wo, rfl⟩ : ∃ wo : World, wo = wr := ⟨_, rfl⟩
        have hki : (k : Int) < ((els g).length : Int) := by omega
        go_wp2
        go_loopw [6, 7] (fun s n wr => ∃ j : Nat, j ≤ (els g).length ∧ n = .int .i64 j ∧ Hid (Own wr w4.heap.size s (powsTo g (nth (els g) k) j)) ∧ Hid (Below w4.heap.size w4 wr)) (fun _ n _ => (els g).length - (intOf n).toNat)
        case atStart => exact ⟨0, by omega, rfl, Lib.hid (own_mono (own_made _ _ rfl) hbr.out.size), Lib.hid (hbr.out.alloc hbr.out.size _)⟩
        case round =>
          obtain ⟨j, hj, rfl, hown, hbj⟩ := hrel
          by_cases hlj : j < (els g).length
          · have hc := KC.out wr hbj.out k hlt
            have hjk : (j : Int) < ((els g).length : Int) := by omega
            have GJ := Lib.hid (G4.out.on hbj.out)
            obtain ⟨p1, p2, p3⟩ := HP.out k j hk1 hlt hlj
            have P1 := Lib.hid p1
            have P2 := Lib.hid p2
            have P3 := Lib.hid p3
            clear p1 p2 p3
            go_wp2_with fail
            refine (ipow_any _ _ _ _ GJ.out).mono ?_
            rintro e wx ⟨rfl, mx, hwx⟩
            have hownX : Hid (Own wx w4.heap.size u6 (powsTo g (nth (els g) k) j)) := Lib.hid (by rw [hwx]; exact hown.out)
            have BX : Hid (Below w4.heap.size w4 wx) := Lib.hid (by rw [hwx]; exact below_drewN hbj.out mx)
            clear hwx hc
            have hplen := powsTo_len g (nth (els g) k) j
            go_wp2_with fail
            refine (has_any _ _ _ _ (Ints.of_own hownX.out (by unfold maxLen; omega))).mono ?_
            rintro e wy ⟨rfl, rfl⟩
            rw [P1.out]
            go_wp2_with fail
            refine (has_any _ _ _ _ (KI.out _ BX.out)).mono ?_
            rintro e wy ⟨rfl, rfl⟩
            rw [P2.out]
            have HOW := hownX.out
            unfold Own at HOW
            rw [hplen] at HOW
            go_wp2_with (at_builtin; refine wpList_append_own _ rfl _ _ 27 rfl w4.heap.size 3 i0 (.int .i64 0) 1 8 Tryd.underlying27 hi hz0 hz1 hz2 rfl (by decide) _ _ _ rfl (HOW.alloc _) ⟨wx.heap.size, 0, none⟩ 1 1 [.int .i64 (gpow g (nth (els g) k) j)] rfl rfl ?c1 ?c2 ?c3 ?c4 ?c5 ?_)
            case c1 =>
              intro j u hj
              match j, hj with
              | 0, hj => simp at hj; subst hj; simp [Addr.add]
            case c2 => intro u hu; simp at hu; subst hu; rfl
            case c3 => unfold maxLen; omega
            case c4 => omega
            case c5 => have := BX.out.size; simp; omega
            · intro v' w6 hown' hgrow _
              have R := pows_step HOW BX.out hplen P3.out hown' hgrow
              have R1 := Lib.hid R.1
              have R2 := Lib.hid R.2
              clear hown' hgrow HOW R hplen
              go_wp2
              go_roundw
              case rel => exact ⟨j + 1, by omega, by go_num, R1, R2⟩
              case measure => simp [intOf]; omega
          · obtain rfl : j = (els g).length := by omega
            go_wp2
            go_roundw
            case rel => exact ⟨k + 1, by omega, by omega, by go_num, hbj⟩
            case measure => simp [intOf]; omega
      · obtain rfl : k = (els g).length := by omega
        have hc0 := KC.out wr hbr.out 0 (by omega)
        rw [HF.out] at hc0
        have hp0 : (0 : Int) < ((els g).length : Int) := by omega
        go_wp2
        go_ret
        exact ⟨rfl, B4.out.trans (hbr.out.mono B4.out.size)⟩
  · obtain ⟨a3, c3, rfl⟩ := I4.out.slice
    have hn := Lib.hid (show (els g).length = 0 by rw [els_none hg]; rfl)
    rw [hn.out]
    go_wp2_with fail
    refine (alive_any _ G4.out).mono ?_
    rintro e wz_ ⟨rfl, rfl⟩
    go_wp2
    go_ret
    exact ⟨rfl, B4.out⟩

end Go.Proofs.YtjifldaohdddhaaDoor
