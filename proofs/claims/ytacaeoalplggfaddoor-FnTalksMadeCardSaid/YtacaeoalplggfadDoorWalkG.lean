/- ElementsOf, impl's and spec's: a new slice with the elements in ascending order. -/
import Derived.Test.YtacaeoalplggfadDoorWalkF
namespace Go.Proofs.YtacaeoalplggfadDoor
open Go.RowKit

theorem Gr.lt {w : World} (h : Gr w) : 0 < w.heap.size := World.block_lt_of_cell? _ _ h.c0
theorem Gr.below {B : Nat} {w w' : World} (h : Gr w) (hb : Below B w w') (hl : 0 < B) : Gr w' := ⟨(hb.cell (p := ⟨0, 0, none⟩) hl).trans h.c0, (hb.cell (p := ⟨0, 1, none⟩) hl).trans h.c1, (hb.cell (p := ⟨0, 2, none⟩) hl).trans h.c2, (hb.cell (p := ⟨0, 3, none⟩) hl).trans h.c3, (hb.cell (p := ⟨0, 4, none⟩) hl).trans h.c4, (hb.cell (p := ⟨0, 5, none⟩) hl).trans h.c5, (hb.cell (p := ⟨0, 6, none⟩) hl).trans h.c6, (hb.cell (p := ⟨0, 7, none⟩) hl).trans h.c7, (hb.cell (p := ⟨0, 8, none⟩) hl).trans h.c8, (hb.cell (p := ⟨0, 9, none⟩) hl).trans h.c9, (hb.cell (p := ⟨0, 10, none⟩) hl).trans h.c10, (hb.cell (p := ⟨0, 11, none⟩) hl).trans h.c11⟩
theorem Gr.on {w w' : World} (h : Gr w) (hb : Below w.heap.size w w') : Gr w' := h.below hb h.lt

theorem own_step {w w3 w4 : World} {v v' : Value} {g : Int} {k : Nat} {o : Obj} (hown : Own w3 w.heap.size v (elsTo g k)) (hb : Below w.heap.size w w3)
    (he : elsTo g ((k + 1 : Nat) : Int) = elsTo g k ++ [(k : Int)])
    (hown' : w4.ownsRow w.heap.size 3 1 v' ((elsTo g k).length + 1) ((elsTo g k).map (Value.int .i64) ++ [.int .i64 k])) (hg : (w3.alloc o).grownBy w4 v.ownBlock) :
    Own w4 w.heap.size v' (elsTo g ((k + 1 : Nat) : Int)) ∧ Below w.heap.size w w4 := by
  refine ⟨by unfold Own; rw [he]; simpa using hown', (hb.alloc hb.size o).grown hg (by simp; have := hb.size; omega) (fun j hj => (hown.lt j hj).1)⟩

set_option maxHeartbeats 1600000 in
theorem iels_any (g : Int) (w : World) (G : Gr w) : Calls Tryd.prog 17 #[.int .i64 g] w fun e w' => ∃ v, e = .returned v ∧ Own w' w.heap.size v (els g) ∧ Below w.heap.size w w' := by
  by_cases hg : 0 ≤ g ∧ g < 4
  · obtain ⟨i0, hi, hz0, hz1, hz2⟩ := info_parts infoInt
    obtain ⟨h0, h4⟩ := hg
    have HS := Lib.hid (fun (k : Nat) (hk : k < 47) (he : elB g k = true) => elsTo_yes h0 h4 hk he)
    have HN := Lib.hid (fun (k : Nat) (hk : k < 47) (he : elB g k = false) => elsTo_no h0 h4 hk he)
    have HE := Lib.hid (elsTo_prm h0 h4)
    have H1 := Lib.hid (elsTo_one h0 h4)
    have G' := G
    have hb0 := gok_true.2 ⟨h0, h4⟩
    rcases g_cases h0 h4 with rfl | rfl | rfl | rfl <;> clear h0 h4
    · go_enter Tryd.func17, Tryd.ntmps17
      go_wp2_with (go_at_call 40; refine (groupOk_any _ _).mono ?_; rintro e w' ⟨rfl, rfl⟩)
      go_loopw [3, 4] (fun v a wr => ∃ k : Nat, 1 ≤ k ∧ k ≤ 7 ∧ a = .int .i64 k ∧ Own wr w.heap.size v (elsTo 0 k) ∧ Below w.heap.size w wr) (fun _ a _ => 7 - (intOf a).toNat)
      case atStart => exact ⟨1, by omega, by omega, rfl, by rw [show ((1 : Nat) : Int) = 1 from rfl, H1.out]; exact World.ownsRow_nil _ _ _ _, Below.refl _ _⟩
      case round =>
        obtain ⟨k, hk1, hk, rfl, hown, hb⟩ := hrel
        have Gwr := G'.below hb G'.lt
        have c := Gwr.c0
        by_cases hlt : k < 7
        · go_wp2_with fail
          refine (iel_any _ _ _ Gwr).mono ?_
          rintro e w3 ⟨rfl, m, hw3⟩
          have hown3 : Own w3 w.heap.size u3 (elsTo 0 k) := by rw [hw3]; exact hown
          have hb3 : Below w.heap.size w w3 := by rw [hw3]; exact below_drewN hb m
          clear hw3 Gwr c
          have hlen := elsTo_len 0 k
          cases he : elB 0 k
          · have hn := Lib.hid (HN.out k (by omega) he)
            go_wp2
            go_roundw
            case rel => exact ⟨k + 1, by omega, by omega, by go_num, by rw [hn.out]; exact hown3, hb3⟩
            case measure => simp [intOf]; omega
          · have hs := Lib.hid (HS.out k (by omega) he)
            go_wp2_with (at_builtin; refine wpList_append_own _ rfl _ _ 32 rfl w.heap.size 3 i0 (.int .i64 0) 1 8 Tryd.underlying32 hi hz0 hz1 hz2 rfl (by decide) _ _ _ rfl (hown3.alloc _) ⟨w3.heap.size, 0, none⟩ 1 1 [.int .i64 (k : Int)] rfl rfl ?c1 ?c2 ?c3 ?c4 ?c5 ?_)
            case c1 =>
              intro j u hj
              match j, hj with
              | 0, hj => simp at hj; subst hj; simp [Addr.add]
            case c2 => intro u hu; simp at hu; subst hu; rfl
            case c3 => unfold maxLen; omega
            case c4 => omega
            case c5 => have := hb3.size; simp; omega
            · intro v' w4 hown' hgrow _
              have R := own_step hown3 hb3 hs.out hown' hgrow
              clear hown' hgrow hown3 hb3 hown hb
              go_wp2
              go_roundw
              case rel => exact ⟨k + 1, by omega, by omega, by go_num, R.1, R.2⟩
              case measure => simp [intOf]; omega
        · obtain rfl : k = 7 := by omega
          have hown' : Own wr w.heap.size u3 (els 0) := by rw [← HE.out]; exact hown
          clear hown
          go_wp2
          go_ret
          exact ⟨_, rfl, hown', hb⟩
    · go_enter Tryd.func17, Tryd.ntmps17
      go_wp2_with (go_at_call 40; refine (groupOk_any _ _).mono ?_; rintro e w' ⟨rfl, rfl⟩)
      go_loopw [3, 4] (fun v a wr => ∃ k : Nat, 1 ≤ k ∧ k ≤ 11 ∧ a = .int .i64 k ∧ Own wr w.heap.size v (elsTo 1 k) ∧ Below w.heap.size w wr) (fun _ a _ => 11 - (intOf a).toNat)
      case atStart => exact ⟨1, by omega, by omega, rfl, by rw [show ((1 : Nat) : Int) = 1 from rfl, H1.out]; exact World.ownsRow_nil _ _ _ _, Below.refl _ _⟩
      case round =>
        obtain ⟨k, hk1, hk, rfl, hown, hb⟩ := hrel
        have Gwr := G'.below hb G'.lt
        have c := Gwr.c3
        by_cases hlt : k < 11
        · go_wp2_with fail
          refine (iel_any _ _ _ Gwr).mono ?_
          rintro e w3 ⟨rfl, m, hw3⟩
          have hown3 : Own w3 w.heap.size u3 (elsTo 1 k) := by rw [hw3]; exact hown
          have hb3 : Below w.heap.size w w3 := by rw [hw3]; exact below_drewN hb m
          clear hw3 Gwr c
          have hlen := elsTo_len 1 k
          cases he : elB 1 k
          · have hn := Lib.hid (HN.out k (by omega) he)
            go_wp2
            go_roundw
            case rel => exact ⟨k + 1, by omega, by omega, by go_num, by rw [hn.out]; exact hown3, hb3⟩
            case measure => simp [intOf]; omega
          · have hs := Lib.hid (HS.out k (by omega) he)
            go_wp2_with (at_builtin; refine wpList_append_own _ rfl _ _ 32 rfl w.heap.size 3 i0 (.int .i64 0) 1 8 Tryd.underlying32 hi hz0 hz1 hz2 rfl (by decide) _ _ _ rfl (hown3.alloc _) ⟨w3.heap.size, 0, none⟩ 1 1 [.int .i64 (k : Int)] rfl rfl ?c1 ?c2 ?c3 ?c4 ?c5 ?_)
            case c1 =>
              intro j u hj
              match j, hj with
              | 0, hj => simp at hj; subst hj; simp [Addr.add]
            case c2 => intro u hu; simp at hu; subst hu; rfl
            case c3 => unfold maxLen; omega
            case c4 => omega
            case c5 => have := hb3.size; simp; omega
            · intro v' w4 hown' hgrow _
              have R := own_step hown3 hb3 hs.out hown' hgrow
              clear hown' hgrow hown3 hb3 hown hb
              go_wp2
              go_roundw
              case rel => exact ⟨k + 1, by omega, by omega, by go_num, R.1, R.2⟩
              case measure => simp [intOf]; omega
        · obtain rfl : k = 11 := by omega
          have hown' : Own wr w.heap.size u3 (els 1) := by rw [← HE.out]; exact hown
          clear hown
          go_wp2
          go_ret
          exact ⟨_, rfl, hown', hb⟩
    · go_enter Tryd.func17, Tryd.ntmps17
      go_wp2_with (go_at_call 40; refine (groupOk_any _ _).mono ?_; rintro e w' ⟨rfl, rfl⟩)
      go_loopw [3, 4] (fun v a wr => ∃ k : Nat, 1 ≤ k ∧ k ≤ 23 ∧ a = .int .i64 k ∧ Own wr w.heap.size v (elsTo 2 k) ∧ Below w.heap.size w wr) (fun _ a _ => 23 - (intOf a).toNat)
      case atStart => exact ⟨1, by omega, by omega, rfl, by rw [show ((1 : Nat) : Int) = 1 from rfl, H1.out]; exact World.ownsRow_nil _ _ _ _, Below.refl _ _⟩
      case round =>
        obtain ⟨k, hk1, hk, rfl, hown, hb⟩ := hrel
        have Gwr := G'.below hb G'.lt
        have c := Gwr.c6
        by_cases hlt : k < 23
        · go_wp2_with fail
          refine (iel_any _ _ _ Gwr).mono ?_
          rintro e w3 ⟨rfl, m, hw3⟩
          have hown3 : Own w3 w.heap.size u3 (elsTo 2 k) := by rw [hw3]; exact hown
          have hb3 : Below w.heap.size w w3 := by rw [hw3]; exact below_drewN hb m
          clear hw3 Gwr c
          have hlen := elsTo_len 2 k
          cases he : elB 2 k
          · have hn := Lib.hid (HN.out k (by omega) he)
            go_wp2
            go_roundw
            case rel => exact ⟨k + 1, by omega, by omega, by go_num, by rw [hn.out]; exact hown3, hb3⟩
            case measure => simp [intOf]; omega
          · have hs := Lib.hid (HS.out k (by omega) he)
            go_wp2_with (at_builtin; refine wpList_append_own _ rfl _ _ 32 rfl w.heap.size 3 i0 (.int .i64 0) 1 8 Tryd.underlying32 hi hz0 hz1 hz2 rfl (by decide) _ _ _ rfl (hown3.alloc _) ⟨w3.heap.size, 0, none⟩ 1 1 [.int .i64 (k : Int)] rfl rfl ?c1 ?c2 ?c3 ?c4 ?c5 ?_)
            case c1 =>
              intro j u hj
              match j, hj with
              | 0, hj => simp at hj; subst hj; simp [Addr.add]
            case c2 => intro u hu; simp at hu; subst hu; rfl
            case c3 => unfold maxLen; omega
            case c4 => omega
            case c5 => have := hb3.size; simp; omega
            · intro v' w4 hown' hgrow _
              have R := own_step hown3 hb3 hs.out hown' hgrow
              clear hown' hgrow hown3 hb3 hown hb
              go_wp2
              go_roundw
              case rel => exact ⟨k + 1, by omega, by omega, by go_num, R.1, R.2⟩
              case measure => simp [intOf]; omega
        · obtain rfl : k = 23 := by omega
          have hown' : Own wr w.heap.size u3 (els 2) := by rw [← HE.out]; exact hown
          clear hown
          go_wp2
          go_ret
          exact ⟨_, rfl, hown', hb⟩
    · go_enter Tryd.func17, Tryd.ntmps17
      go_wp2_with (go_at_call 40; refine (groupOk_any _ _).mono ?_; rintro e w' ⟨rfl, rfl⟩)
      go_loopw [3, 4] (fun v a wr => ∃ k : Nat, 1 ≤ k ∧ k ≤ 47 ∧ a = .int .i64 k ∧ Own wr w.heap.size v (elsTo 3 k) ∧ Below w.heap.size w wr) (fun _ a _ => 47 - (intOf a).toNat)
      case atStart => exact ⟨1, by omega, by omega, rfl, by rw [show ((1 : Nat) : Int) = 1 from rfl, H1.out]; exact World.ownsRow_nil _ _ _ _, Below.refl _ _⟩
      case round =>
        obtain ⟨k, hk1, hk, rfl, hown, hb⟩ := hrel
        have Gwr := G'.below hb G'.lt
        have c := Gwr.c9
        by_cases hlt : k < 47
        · go_wp2_with fail
          refine (iel_any _ _ _ Gwr).mono ?_
          rintro e w3 ⟨rfl, m, hw3⟩
          have hown3 : Own w3 w.heap.size u3 (elsTo 3 k) := by rw [hw3]; exact hown
          have hb3 : Below w.heap.size w w3 := by rw [hw3]; exact below_drewN hb m
          clear hw3 Gwr c
          have hlen := elsTo_len 3 k
          cases he : elB 3 k
          · have hn := Lib.hid (HN.out k (by omega) he)
            go_wp2
            go_roundw
            case rel => exact ⟨k + 1, by omega, by omega, by go_num, by rw [hn.out]; exact hown3, hb3⟩
            case measure => simp [intOf]; omega
          · have hs := Lib.hid (HS.out k (by omega) he)
            go_wp2_with (at_builtin; refine wpList_append_own _ rfl _ _ 32 rfl w.heap.size 3 i0 (.int .i64 0) 1 8 Tryd.underlying32 hi hz0 hz1 hz2 rfl (by decide) _ _ _ rfl (hown3.alloc _) ⟨w3.heap.size, 0, none⟩ 1 1 [.int .i64 (k : Int)] rfl rfl ?c1 ?c2 ?c3 ?c4 ?c5 ?_)
            case c1 =>
              intro j u hj
              match j, hj with
              | 0, hj => simp at hj; subst hj; simp [Addr.add]
            case c2 => intro u hu; simp at hu; subst hu; rfl
            case c3 => unfold maxLen; omega
            case c4 => omega
            case c5 => have := hb3.size; simp; omega
            · intro v' w4 hown' hgrow _
              have R := own_step hown3 hb3 hs.out hown' hgrow
              clear hown' hgrow hown3 hb3 hown hb
              go_wp2
              go_roundw
              case rel => exact ⟨k + 1, by omega, by omega, by go_num, R.1, R.2⟩
              case measure => simp [intOf]; omega
        · obtain rfl : k = 47 := by omega
          have hown' : Own wr w.heap.size u3 (els 3) := by rw [← HE.out]; exact hown
          clear hown
          go_wp2
          go_ret
          exact ⟨_, rfl, hown', hb⟩
  · have hb := gok_false.2 hg
    have HX := Lib.hid (els_none hg)
    go_enter Tryd.func17, Tryd.ntmps17
    go_wp2_with (go_at_call 40; refine (groupOk_any _ _).mono ?_; rintro e w' ⟨rfl, rfl⟩)
    go_ret
    exact ⟨_, rfl, by rw [HX.out]; exact World.ownsRow_nil _ _ _ _, Below.refl _ _⟩

end Go.Proofs.YtacaeoalplggfadDoor
