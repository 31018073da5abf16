/- spec.ElementsOf: a new slice with the elements in ascending order. -/
import Derived.Test.YtacaeoalplggfaaDoorWalkG
namespace Go.Proofs.YtacaeoalplggfaaDoor
open Go.RowKit

theorem own_made (w : World) (T : TypeId) (hT : T = 3) : Own (w.alloc (.cells #[] T)) w.heap.size (.slice (some ⟨w.heap.size, 0, none⟩) 0 0) [] := by
  subst hT
  exact World.ownsRow_made w #[] 0 (Nat.le_refl _) (Nat.zero_le _) rfl

set_option maxHeartbeats 1600000 in
theorem sels_any (g : Int) (w : World) : Calls Tryd.prog 25 #[.int .i64 g] w fun e w' => ∃ v, e = .returned v ∧ Own w' w.heap.size v (els g) ∧ Below w.heap.size w w' := by
  by_cases hg : 0 ≤ g ∧ g < 4
  · obtain ⟨i0, hi, hz0, hz1, hz2⟩ := info_parts infoInt
    obtain ⟨h0, h4⟩ := hg
    have HS := Lib.hid (fun (k : Nat) (hk : k < 47) (he : elB g k = true) => elsTo_yes h0 h4 hk he)
    have HN := Lib.hid (fun (k : Nat) (hk : k < 47) (he : elB g k = false) => elsTo_no h0 h4 hk he)
    have HE := Lib.hid (elsTo_prm h0 h4)
    have H1 := Lib.hid (elsTo_one h0 h4)
    obtain ⟨p1, p2⟩ := prm_bd h0 h4
    obtain ⟨p, hp⟩ : ∃ p : Nat, prm g = p := ⟨(prm g).toNat, by omega⟩
    have p3 : 7 ≤ p := by omega
    have p4 : p ≤ 47 := by omega
    have HP := Lib.hid hp; clear hp p1 p2
    go_enter Tryd.func25, Tryd.ntmps25
    go_wp2
    go_loopw [3, 4] (fun v a wr => ∃ k : Nat, 1 ≤ k ∧ k ≤ p ∧ a = .int .i64 k ∧ Own wr w.heap.size v (elsTo g k) ∧ Below w.heap.size w wr) (fun _ a _ => p - (intOf a).toNat)
    case atStart => exact ⟨1, by omega, by omega, rfl, by rw [show ((1 : Nat) : Int) = 1 from rfl, H1.out]; exact own_made _ _ rfl, (Below.refl _ _).alloc (Nat.le_refl _) _⟩
    case round =>
      obtain ⟨k, hk1, hk, rfl, hown, hb⟩ := hrel
      go_wp2_with fail
      refine (sprm_any _ _).mono ?_
      rintro e w2 ⟨rfl, hb2⟩
      have hown2 : Own w2 w.heap.size u3 (elsTo g k) := own_below hown hb2
      have hb2' : Below w.heap.size w w2 := hb.trans (hb2.mono hb.size)
      clear hown hb2 hb
      rw [HP.out]
      by_cases hlt : k < p
      · go_wp2_with fail
        refine (sel_any _ _ _).mono ?_
        rintro e w3 ⟨rfl, hb3⟩
        have hown3 : Own w3 w.heap.size u3 (elsTo g k) := own_below hown2 hb3
        have hb3' : Below w.heap.size w w3 := hb2'.trans (hb3.mono hb2'.size)
        clear hown2 hb3 hb2'
        have hlen := elsTo_len g k
        cases he : elB g k
        · have hn := Lib.hid (HN.out k (by omega) he)
          go_wp2
          go_roundw
          case rel => exact ⟨k + 1, by omega, by omega, by go_num, by rw [hn.out]; exact hown3, hb3'⟩
          case measure => simp [intOf]; omega
        · have hs := Lib.hid (HS.out k (by omega) he)
          go_wp2_with (at_builtin; refine wpList_append_own _ rfl _ _ 40 rfl w.heap.size 3 i0 (.int .i64 0) 1 8 Tryd.underlying40 hi hz0 hz1 hz2 rfl (by decide) _ _ _ rfl (hown3.alloc _) ⟨w3.heap.size, 0, none⟩ 1 1 [.int .i64 (k : Int)] rfl rfl ?c1 ?c2 ?c3 ?c4 ?c5 ?_)
          case c1 =>
            intro j u hj
            match j, hj with
            | 0, hj => simp at hj; subst hj; simp [Addr.add]
          case c2 => intro u hu; simp at hu; subst hu; rfl
          case c3 => unfold maxLen; omega
          case c4 => omega
          case c5 => have := hb3'.size; simp; omega
          · intro v' w4 hown' hgrow _
            have R := own_step hown3 hb3' hs.out hown' hgrow
            clear hown' hgrow hown3 hb3'
            go_wp2
            go_roundw
            case rel => exact ⟨k + 1, by omega, by omega, by go_num, R.1, R.2⟩
            case measure => simp [intOf]; omega
      · obtain rfl : k = p := by omega
        have hown' : Own w2 w.heap.size u3 (els g) := by rw [← HE.out, HP.out]; exact hown2
        clear hown2
        go_wp2
        go_ret
        exact ⟨_, rfl, hown', hb2'⟩
  · have HX := Lib.hid (els_none hg)
    have HP := Lib.hid (prm_none hg)
    go_enter Tryd.func25, Tryd.ntmps25
    go_wp2
    go_loopw [3, 4] (fun v a wr => a = .int .i64 1 ∧ Own wr w.heap.size v [] ∧ Below w.heap.size w wr) (fun _ _ _ => 0)
    case atStart => exact ⟨rfl, own_made _ _ rfl, (Below.refl _ _).alloc (Nat.le_refl _) _⟩
    case round =>
      obtain ⟨rfl, hown, hb⟩ := hrel
      go_wp2_with fail
      refine (sprm_any _ _).mono ?_
      rintro e w2 ⟨rfl, hb2⟩
      have hown2 : Own w2 w.heap.size u3 (els g) := by rw [HX.out]; exact own_below hown hb2
      have hb2' : Below w.heap.size w w2 := hb.trans (hb2.mono hb.size)
      clear hown hb2 hb
      rw [HP.out]
      go_wp2
      go_ret
      exact ⟨_, rfl, hown2, hb2'⟩

end Go.Proofs.YtacaeoalplggfaaDoor
