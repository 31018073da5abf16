/- The draw of a text. -/
import Derived.Test.YtacaeoalplggfacDoorReadW
import Derived.Test.YtacaeoalplggfacDoorDrawU
namespace Go.Proofs.YtacaeoalplggfacDoor
open Go.RowKit

def DrawSPost (w : World) (e : Ending) (w' : World) : Prop := ∃ (g : Int) (s : ByteArray), e = .returned (.tuple #[.int .i64 g, .string s]) ∧ s.size ≤ 100 ∧ Below w.heap.size w w'
theorem text_le (g s a t : Int) : (textOf g s a t).size ≤ 8 := by
  cases hx : l2B g s a t
  · rw [text_none hx]; exact Nat.zero_le _
  · obtain ⟨hs, ha, ht⟩ := l2B_true.1 hx
    obtain ⟨s0, _, s1⟩ := elB_bound hs
    obtain ⟨⟨g0, g4⟩, a0, a1⟩ := exB_true.1 ha
    obtain ⟨_, t0, t1⟩ := exB_true.1 ht
    obtain ⟨o1, o2⟩ := ord_bd g0 g4
    have e2 : textOf g s a t = txt s.toNat a.toNat t.toNat := by unfold textOf; rw [hx]; rfl
    rw [e2]
    exact (txt_size (by omega) (by omega) (by omega)).1
def pickS : Nat → ByteArray
  | 0 => ⟨#[]⟩
  | 1 => ⟨#[48]⟩
  | 2 => ⟨#[44]⟩
  | _ => ⟨#[49]⟩
def arrS : Array Value := #[.string ⟨#[]⟩, .string ⟨#[48]⟩, .string ⟨#[44]⟩, .string ⟨#[49]⟩]
theorem arrS_at {m : Nat} (h : m < 4) : arrS[m]? = some (.string (pickS m)) := by
  match m, h with
  | 0, _ => rfl
  | 1, _ => rfl
  | 2, _ => rfl
  | 3, _ => rfl
theorem pickS_size (m : Nat) : (pickS m).size ≤ 1 := by
  match m with
  | 0 => decide
  | 1 => decide
  | 2 => decide
  | _ + 3 => exact Nat.le_refl 1
theorem arrS_list {m : Nat} (h : m < 4) : ∀ h', ([.string ⟨#[]⟩, .string ⟨#[48]⟩, .string ⟨#[44]⟩, .string ⟨#[49]⟩] : List Value)[m]'h' = .string (pickS m) := by
  intro h'
  match m, h with
  | 0, _ => rfl
  | 1, _ => rfl
  | 2, _ => rfl
  | 3, _ => rfl
theorem arrS_new (w : World) {m : Nat} (h : m < 4) : (w.alloc (.cells #[.string ⟨#[]⟩, .string ⟨#[48]⟩, .string ⟨#[44]⟩, .string ⟨#[49]⟩] 9)).cell? ⟨w.heap.size, m, none⟩ = some (.string (pickS m)) := by
  rw [World.cell?_alloc_at _ _ _ _ rfl]; exact arrS_at h

set_option maxRecDepth 20000 in
set_option maxHeartbeats 1600000 in
theorem drawReadTalk_any (s : Value) (w : World) (h : CodeIn w s) : Calls Tryd.prog 14 #[s] w (DrawSPost w) := by
  go_enter Tryd.func14, Tryd.ntmps14
  go_wp2_with fail
  refine (open_any _ _ h).mono ?_
  rintro e w1 ⟨rfl, H1, hb1⟩
  have R1 := Lib.hid H1; clear H1
  have B1 := Lib.hid hb1
  have hs1 := hb1.size
  clear hb1 h
  go_wp2_with fail
  refine (drawtalk_any _ _ _ R1.out (by omega)).mono ?_
  rintro e w2 ⟨g, key, s', a, t, rfl, _, _, _, _, hg, k2, hk2, hr⟩
  have R2 := Lib.hid hr
  have B2 := Lib.hid (below_of_grown B1.out hg hs1 (Nat.le_refl _))
  have hs2 := Nat.le_trans hs1 hg.size
  clear hg hr
  go_wp2_with fail
  obtain ⟨w3, hw3⟩ : ∃ w3, w3 = w2.alloc (.cells #[.int .i64 s', .int .i64 a, .int .i64 t] 24) := ⟨_, rfl⟩
  have hb : Below w2.heap.size w2 w3 := by rw [hw3]; exact below_alloc _ _
  have X3 : Box w3 w2.heap.size s' a t := by rw [hw3]; exact Box.new _ _ _ _
  have B3 : Hid (Below w.heap.size w w3) := Lib.hid (B2.out.trans (hb.mono hs2))
  have R3 := Lib.hid (R2.out.below hb)
  have hs3 := Nat.le_trans hs2 hb.size
  rw [← hw3]
  clear hw3 hb
  obtain ⟨⟨c0, c1, c2⟩, _⟩ := Box.cells X3
  clear X3
  go_wp2_with fail
  refine (stext_any _ _ _ _ _).mono ?_
  rintro e w4 ⟨rfl, hb⟩
  have hz := text_le g s' a t
  obtain ⟨S, hS⟩ : ∃ S, textOf g s' a t = S := ⟨_, rfl⟩
  rw [hS] at hz ⊢
  clear hS c0 c1 c2
  have B4 : Hid (Below w.heap.size w w4) := Lib.hid (B3.out.trans (hb.mono hs3))
  have R4 := Lib.hid (R3.out.below hb)
  have hs4 := Nat.le_trans hs3 hb.size
  clear hb
  go_wp2_with fail
  refine (pick_any _ _ _ _ R4.out (by omega)).mono ?_
  rintro e w5 ⟨v, rfl, v0, _, m5, hw⟩
  have R5 := Lib.hid (show Rd w5 w.heap.size (k2 + 1) by rw [hw]; exact R4.out.next m5)
  have hg : w4.grownBy w5 (some w.heap.size) := by rw [hw]; exact grown_pick _ _ _ _
  have B5 := Lib.hid (below_of_grown B4.out hg hs4 (Nat.le_refl _))
  have hs5 := Nat.le_trans hs4 hg.size
  clear hw hg
  by_cases hv : v = 0
  · by_cases hS : 0 < S.size
    · subst hv
      have hS' : (0 : Int) < (S.size : Int) := by omega
      go_wp2_with fail
      refine (pick_any _ _ _ _ R5.out (by omega)).mono ?_
      rintro e w6 ⟨v, rfl, v1, v2, m6, hw⟩
      have v3 := v2 (by omega)
      have R6 := Lib.hid (show Rd w6 w.heap.size (k2 + 1 + 1) by rw [hw]; exact R5.out.next m6)
      have hg : w5.grownBy w6 (some w.heap.size) := by rw [hw]; exact grown_pick _ _ _ _
      have B6 := Lib.hid (below_of_grown B5.out hg hs5 (Nat.le_refl _))
      have hs6 := Nat.le_trans hs5 hg.size
      clear hw hg v2
      obtain ⟨k, rfl⟩ := Int.eq_ofNat_of_zero_le v1
      have e1 : (S.extract 0 k).size ≤ 8 := by rw [ByteArray.size_extract]; omega
      have e2 : (S.extract (k + 1) S.size).size ≤ 8 := by rw [ByteArray.size_extract]; omega
      have c1 : (0 : Int) ≤ (k : Int) + 1 := by omega
      have c2 : (k : Int) + 1 ≤ (S.size : Int) := by omega
      have c3 : (k : Int) ≤ (S.size : Int) := by omega
      have hlt6 := R6.out.lt
      obtain ⟨A, hA⟩ : ∃ A, S.extract 0 k = A := ⟨_, rfl⟩
      obtain ⟨Z, hZ⟩ : ∃ Z, S.extract (k + 1) S.size = Z := ⟨_, rfl⟩
      rw [hA] at e1
      rw [hZ] at e2
      have hwr : IntKind.i64.wrap ((k : Int) + 1) = (k : Int) + 1 := IntWalk.i64_in _ (by omega)
      go_wp2_with fail
      go_region_with (go_at_call 30; refine (pick_any w.heap.size (k2 + 1 + 1) 4 _ (R6.out.below (by repeat (first | exact Below.refl _ _ | refine Below.drew ?_ | refine Below.alloc ?_ (by simp) _))) (by omega)).mono ?_; rintro e w7 ⟨v, rfl, p1, p2, m7, hw⟩; have p3 := p2 (by omega); clear p2; (obtain ⟨m, rfl⟩ := Int.eq_ofNat_of_zero_le p1); have hm4 : m < 4 := (by omega); have al := arrS_new w7 hm4; have hps := pickS_size m; have hls := arrS_list hm4; have hq1 : ¬ 9223372036854775807 < A.size + (pickS m).size := (by omega); have hq2 : ¬ 9223372036854775807 < A.size + (pickS m).size + Z.size := (by omega); have hq3 : ¬ 9223372036854775807 < (A ++ pickS m).size + Z.size := (by rw [ByteArray.size_append]; omega))
      all_goals
        have hsz : (A ++ pickS m ++ Z).size ≤ 100 := by rw [ByteArray.size_append, ByteArray.size_append]; omega
        go_wp2
        go_ret2
        refine ⟨_, _, rfl, hsz, ?_⟩
        repeat (first | exact B6.out.setCell (Nat.le_refl _) _ | refine below_drewN ?_ _ | refine Below.alloc ?_ (by simp <;> omega) _)
    · subst hv
      have hS' : ¬ (0 : Int) < (S.size : Int) := by omega
      go_wp2
      go_ret2
      exact ⟨_, _, rfl, by omega, B5.out⟩
  · go_wp2
    go_ret2
    exact ⟨_, _, rfl, by omega, B5.out⟩
end Go.Proofs.YtacaeoalplggfacDoor
