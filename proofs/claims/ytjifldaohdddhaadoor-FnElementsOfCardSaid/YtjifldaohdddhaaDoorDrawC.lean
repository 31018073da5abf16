/- The Draw functions of chapter 1: which numbers a code gives, whatever it is: some in bounds; nothing that was there is written. -/
import Derived.Test.YtjifldaohdddhaaDoorDrawB
namespace Go.Proofs.YtjifldaohdddhaaDoor
open Go.RowKit

def Draw1Post (lo hi : Int) (w : World) (e : Ending) (w' : World) : Prop := ∃ g : Int, e = .returned (.int .i64 g) ∧ lo ≤ g ∧ g ≤ hi ∧ Below w.heap.size w w'
def Draw2Post (lo hi : Int) (w : World) (e : Ending) (w' : World) : Prop :=
  ∃ g a : Int, e = .returned (.tuple #[.int .i64 g, .int .i64 a]) ∧ (lo ≤ g ∧ g ≤ hi) ∧ (-10000 ≤ a ∧ a ≤ 10000) ∧ Below w.heap.size w w'
def Draw3Post (lo hi : Int) (w : World) (e : Ending) (w' : World) : Prop :=
  ∃ g a b : Int, e = .returned (.tuple #[.int .i64 g, .int .i64 a, .int .i64 b]) ∧ (lo ≤ g ∧ g ≤ hi) ∧ (-10000 ≤ a ∧ a ≤ 10000) ∧ (-10100 ≤ b ∧ b ≤ 10100) ∧ Below w.heap.size w w'

theorem drawGroupPrime_any (s : Value) (w : World) (h : CodeIn w s) : Calls Tryd.prog 13 #[s] w (Draw1Post (-1) 5 w) := by
  go_enter Tryd.func13, Tryd.ntmps13
  go_wp2_with fail
  refine (open_any _ _ h).mono ?_
  rintro e w1 ⟨rfl, H1, hb1⟩
  have R1 := Lib.hid H1; clear H1
  have B1 := Lib.hid hb1
  have hs1 := hb1.size
  clear hb1 h
  go_wp2_with fail
  refine (pick_any _ _ _ _ R1.out (by omega)).mono ?_
  rintro e w2 ⟨v1, rfl, l1, u1, m1, hw⟩
  have u1 := u1 (by omega)
  have R2 : Hid (Rd w2 w.heap.size _) := Lib.hid (by rw [hw]; exact R1.out.next m1)
  have hg : w1.grownBy w2 (some w.heap.size) := by rw [hw]; exact grown_pick _ _ _ _
  have B2 := Lib.hid (below_of_grown B1.out hg hs1 (Nat.le_refl _))
  have hs2 := Nat.le_trans hs1 hg.size
  clear hg hw
  go_wp2
  go_ret
  exact ⟨_, rfl, by omega, by omega, B2.out⟩

theorem drawGroupOrder_any (s : Value) (w : World) (h : CodeIn w s) : Calls Tryd.prog 18 #[s] w (Draw1Post (-1) 5 w) := by
  go_enter Tryd.func18, Tryd.ntmps18
  go_wp2_with fail
  refine (open_any _ _ h).mono ?_
  rintro e w1 ⟨rfl, H1, hb1⟩
  have R1 := Lib.hid H1; clear H1
  have B1 := Lib.hid hb1
  have hs1 := hb1.size
  clear hb1 h
  go_wp2_with fail
  refine (pick_any _ _ _ _ R1.out (by omega)).mono ?_
  rintro e w2 ⟨v1, rfl, l1, u1, m1, hw⟩
  have u1 := u1 (by omega)
  have R2 : Hid (Rd w2 w.heap.size _) := Lib.hid (by rw [hw]; exact R1.out.next m1)
  have hg : w1.grownBy w2 (some w.heap.size) := by rw [hw]; exact grown_pick _ _ _ _
  have B2 := Lib.hid (below_of_grown B1.out hg hs1 (Nat.le_refl _))
  have hs2 := Nat.le_trans hs1 hg.size
  clear hg hw
  go_wp2
  go_ret
  exact ⟨_, rfl, by omega, by omega, B2.out⟩

theorem drawGroupBase_any (s : Value) (w : World) (h : CodeIn w s) : Calls Tryd.prog 21 #[s] w (Draw1Post (-1) 5 w) := by
  go_enter Tryd.func21, Tryd.ntmps21
  go_wp2_with fail
  refine (open_any _ _ h).mono ?_
  rintro e w1 ⟨rfl, H1, hb1⟩
  have R1 := Lib.hid H1; clear H1
  have B1 := Lib.hid hb1
  have hs1 := hb1.size
  clear hb1 h
  go_wp2_with fail
  refine (pick_any _ _ _ _ R1.out (by omega)).mono ?_
  rintro e w2 ⟨v1, rfl, l1, u1, m1, hw⟩
  have u1 := u1 (by omega)
  have R2 : Hid (Rd w2 w.heap.size _) := Lib.hid (by rw [hw]; exact R1.out.next m1)
  have hg : w1.grownBy w2 (some w.heap.size) := by rw [hw]; exact grown_pick _ _ _ _
  have B2 := Lib.hid (below_of_grown B1.out hg hs1 (Nat.le_refl _))
  have hs2 := Nat.le_trans hs1 hg.size
  clear hg hw
  go_wp2
  go_ret
  exact ⟨_, rfl, by omega, by omega, B2.out⟩

theorem drawElementsOf_any (s : Value) (w : World) (h : CodeIn w s) : Calls Tryd.prog 38 #[s] w (Draw1Post (-1) 5 w) := by
  go_enter Tryd.func38, Tryd.ntmps38
  go_wp2_with fail
  refine (open_any _ _ h).mono ?_
  rintro e w1 ⟨rfl, H1, hb1⟩
  have R1 := Lib.hid H1; clear H1
  have B1 := Lib.hid hb1
  have hs1 := hb1.size
  clear hb1 h
  go_wp2_with fail
  refine (pick_any _ _ _ _ R1.out (by omega)).mono ?_
  rintro e w2 ⟨v1, rfl, l1, u1, m1, hw⟩
  have u1 := u1 (by omega)
  have R2 : Hid (Rd w2 w.heap.size _) := Lib.hid (by rw [hw]; exact R1.out.next m1)
  have hg : w1.grownBy w2 (some w.heap.size) := by rw [hw]; exact grown_pick _ _ _ _
  have B2 := Lib.hid (below_of_grown B1.out hg hs1 (Nat.le_refl _))
  have hs2 := Nat.le_trans hs1 hg.size
  clear hg hw
  go_wp2
  go_ret
  exact ⟨_, rfl, by omega, by omega, B2.out⟩

theorem drawElementOk_any (s : Value) (w : World) (h : CodeIn w s) : Calls Tryd.prog 25 #[s] w (Draw2Post (-1) 4 w) := by
  go_enter Tryd.func25, Tryd.ntmps25
  go_wp2_with fail
  refine (open_any _ _ h).mono ?_
  rintro e w1 ⟨rfl, H1, hb1⟩
  have R1 := Lib.hid H1; clear H1
  have B1 := Lib.hid hb1
  have hs1 := hb1.size
  clear hb1 h
  go_wp2_with fail
  refine (drawgroup_any _ _ _ _ R1.out (by omega) (by omega) (by omega)).mono ?_
  rintro e w2 ⟨v1, rfl, l1, u1, hg, k1, hk1, hr⟩
  have R2 := Lib.hid hr
  have B2 := Lib.hid (below_of_grown B1.out hg hs1 (Nat.le_refl _))
  have hs2 := Nat.le_trans hs1 hg.size
  clear hg hr
  go_wp2_with fail
  refine (pick_any _ _ _ _ R2.out (by omega)).mono ?_
  rintro e w3 ⟨v2, rfl, l2, u2, m2, hw⟩
  have u2 := u2 (by omega)
  have R3 : Hid (Rd w3 w.heap.size _) := Lib.hid (by rw [hw]; exact R2.out.next m2)
  have hg : w2.grownBy w3 (some w.heap.size) := by rw [hw]; exact grown_pick _ _ _ _
  have B3 := Lib.hid (below_of_grown B2.out hg hs2 (Nat.le_refl _))
  have hs3 := Nat.le_trans hs2 hg.size
  clear hg hw
  go_wp2
  go_ret2
  exact ⟨_, _, rfl, ⟨by omega, by omega⟩, ⟨by omega, by omega⟩, B3.out⟩

theorem drawExponentOk_any (s : Value) (w : World) (h : CodeIn w s) : Calls Tryd.prog 28 #[s] w (Draw2Post (-1) 4 w) := by
  go_enter Tryd.func28, Tryd.ntmps28
  go_wp2_with fail
  refine (open_any _ _ h).mono ?_
  rintro e w1 ⟨rfl, H1, hb1⟩
  have R1 := Lib.hid H1; clear H1
  have B1 := Lib.hid hb1
  have hs1 := hb1.size
  clear hb1 h
  go_wp2_with fail
  refine (drawgroup_any _ _ _ _ R1.out (by omega) (by omega) (by omega)).mono ?_
  rintro e w2 ⟨v1, rfl, l1, u1, hg, k1, hk1, hr⟩
  have R2 := Lib.hid hr
  have B2 := Lib.hid (below_of_grown B1.out hg hs1 (Nat.le_refl _))
  have hs2 := Nat.le_trans hs1 hg.size
  clear hg hr
  go_wp2_with fail
  refine (drawexp_any _ _ _ _ _ R2.out (by omega) (by omega) (by omega)).mono ?_
  rintro e w3 ⟨v2, rfl, l2, u2, hg, k2, hk2, hr⟩
  have R3 := Lib.hid hr
  have B3 := Lib.hid (below_of_grown B2.out hg hs2 (Nat.le_refl _))
  have hs3 := Nat.le_trans hs2 hg.size
  clear hg hr
  go_wp2
  go_ret2
  exact ⟨_, _, rfl, ⟨by omega, by omega⟩, ⟨by omega, by omega⟩, B3.out⟩

theorem drawExponentBack_any (s : Value) (w : World) (h : CodeIn w s) : Calls Tryd.prog 43 #[s] w (Draw2Post (-1) 4 w) := by
  go_enter Tryd.func43, Tryd.ntmps43
  go_wp2_with fail
  refine (open_any _ _ h).mono ?_
  rintro e w1 ⟨rfl, H1, hb1⟩
  have R1 := Lib.hid H1; clear H1
  have B1 := Lib.hid hb1
  have hs1 := hb1.size
  clear hb1 h
  go_wp2_with fail
  refine (drawgroup_any _ _ _ _ R1.out (by omega) (by omega) (by omega)).mono ?_
  rintro e w2 ⟨v1, rfl, l1, u1, hg, k1, hk1, hr⟩
  have R2 := Lib.hid hr
  have B2 := Lib.hid (below_of_grown B1.out hg hs1 (Nat.le_refl _))
  have hs2 := Nat.le_trans hs1 hg.size
  clear hg hr
  go_wp2_with fail
  refine (drawexp_any _ _ _ _ _ R2.out (by omega) (by omega) (by omega)).mono ?_
  rintro e w3 ⟨v2, rfl, l2, u2, hg, k2, hk2, hr⟩
  have R3 := Lib.hid hr
  have B3 := Lib.hid (below_of_grown B2.out hg hs2 (Nat.le_refl _))
  have hs3 := Nat.le_trans hs2 hg.size
  clear hg hr
  go_wp2
  go_ret2
  exact ⟨_, _, rfl, ⟨by omega, by omega⟩, ⟨by omega, by omega⟩, B3.out⟩

theorem drawElementTimes_any (s : Value) (w : World) (h : CodeIn w s) : Calls Tryd.prog 31 #[s] w (Draw3Post (-1) 4 w) := by
  go_enter Tryd.func31, Tryd.ntmps31
  go_wp2_with fail
  refine (open_any _ _ h).mono ?_
  rintro e w1 ⟨rfl, H1, hb1⟩
  have R1 := Lib.hid H1; clear H1
  have B1 := Lib.hid hb1
  have hs1 := hb1.size
  clear hb1 h
  go_wp2_with fail
  refine (drawgroup_any _ _ _ _ R1.out (by omega) (by omega) (by omega)).mono ?_
  rintro e w2 ⟨v1, rfl, l1, u1, hg, k1, hk1, hr⟩
  have R2 := Lib.hid hr
  have B2 := Lib.hid (below_of_grown B1.out hg hs1 (Nat.le_refl _))
  have hs2 := Nat.le_trans hs1 hg.size
  clear hg hr
  go_wp2_with fail
  refine (drawelem_any _ _ _ _ _ R2.out (by omega) (by omega) (by omega)).mono ?_
  rintro e w3 ⟨v2, rfl, l2, u2, hg, k2, hk2, hr⟩
  have R3 := Lib.hid hr
  have B3 := Lib.hid (below_of_grown B2.out hg hs2 (Nat.le_refl _))
  have hs3 := Nat.le_trans hs2 hg.size
  clear hg hr
  go_wp2_with fail
  refine (drawelem_any _ _ _ _ _ R3.out (by omega) (by omega) (by omega)).mono ?_
  rintro e w4 ⟨v3, rfl, l3, u3, hg, k3, hk3, hr⟩
  have R4 := Lib.hid hr
  have B4 := Lib.hid (below_of_grown B3.out hg hs3 (Nat.le_refl _))
  have hs4 := Nat.le_trans hs3 hg.size
  clear hg hr
  go_wp2
  go_ret3
  exact ⟨_, _, _, rfl, ⟨by omega, by omega⟩, ⟨by omega, by omega⟩, ⟨by omega, by omega⟩, B4.out⟩

theorem drawLogOf_any (s : Value) (w : World) (h : CodeIn w s) : Calls Tryd.prog 40 #[s] w (Draw3Post (-1) 4 w) := by
  go_enter Tryd.func40, Tryd.ntmps40
  go_wp2_with fail
  refine (open_any _ _ h).mono ?_
  rintro e w1 ⟨rfl, H1, hb1⟩
  have R1 := Lib.hid H1; clear H1
  have B1 := Lib.hid hb1
  have hs1 := hb1.size
  clear hb1 h
  go_wp2_with fail
  refine (drawgroup_any _ _ _ _ R1.out (by omega) (by omega) (by omega)).mono ?_
  rintro e w2 ⟨v1, rfl, l1, u1, hg, k1, hk1, hr⟩
  have R2 := Lib.hid hr
  have B2 := Lib.hid (below_of_grown B1.out hg hs1 (Nat.le_refl _))
  have hs2 := Nat.le_trans hs1 hg.size
  clear hg hr
  go_wp2_with fail
  refine (drawelem_any _ _ _ _ _ R2.out (by omega) (by omega) (by omega)).mono ?_
  rintro e w3 ⟨v2, rfl, l2, u2, hg, k2, hk2, hr⟩
  have R3 := Lib.hid hr
  have B3 := Lib.hid (below_of_grown B2.out hg hs2 (Nat.le_refl _))
  have hs3 := Nat.le_trans hs2 hg.size
  clear hg hr
  go_wp2_with fail
  refine (drawelem_any _ _ _ _ _ R3.out (by omega) (by omega) (by omega)).mono ?_
  rintro e w4 ⟨v3, rfl, l3, u3, hg, k3, hk3, hr⟩
  have R4 := Lib.hid hr
  have B4 := Lib.hid (below_of_grown B3.out hg hs3 (Nat.le_refl _))
  have hs4 := Nat.le_trans hs3 hg.size
  clear hg hr
  go_wp2
  go_ret3
  exact ⟨_, _, _, rfl, ⟨by omega, by omega⟩, ⟨by omega, by omega⟩, ⟨by omega, by omega⟩, B4.out⟩

theorem drawElementPower_any (s : Value) (w : World) (h : CodeIn w s) : Calls Tryd.prog 35 #[s] w (Draw3Post (-1) 4 w) := by
  go_enter Tryd.func35, Tryd.ntmps35
  go_wp2_with fail
  refine (open_any _ _ h).mono ?_
  rintro e w1 ⟨rfl, H1, hb1⟩
  have R1 := Lib.hid H1; clear H1
  have B1 := Lib.hid hb1
  have hs1 := hb1.size
  clear hb1 h
  go_wp2_with fail
  refine (drawgroup_any _ _ _ _ R1.out (by omega) (by omega) (by omega)).mono ?_
  rintro e w2 ⟨v1, rfl, l1, u1, hg, k1, hk1, hr⟩
  have R2 := Lib.hid hr
  have B2 := Lib.hid (below_of_grown B1.out hg hs1 (Nat.le_refl _))
  have hs2 := Nat.le_trans hs1 hg.size
  clear hg hr
  go_wp2_with fail
  refine (drawelem_any _ _ _ _ _ R2.out (by omega) (by omega) (by omega)).mono ?_
  rintro e w3 ⟨v2, rfl, l2, u2, hg, k2, hk2, hr⟩
  have R3 := Lib.hid hr
  have B3 := Lib.hid (below_of_grown B2.out hg hs2 (Nat.le_refl _))
  have hs3 := Nat.le_trans hs2 hg.size
  clear hg hr
  go_wp2_with fail
  refine (pick_any _ _ _ _ R3.out (by omega)).mono ?_
  rintro e w4 ⟨v3, rfl, l3, u3, m3, hw⟩
  have u3 := u3 (by omega)
  have R4 : Hid (Rd w4 w.heap.size _) := Lib.hid (by rw [hw]; exact R3.out.next m3)
  have hg : w3.grownBy w4 (some w.heap.size) := by rw [hw]; exact grown_pick _ _ _ _
  have B4 := Lib.hid (below_of_grown B3.out hg hs3 (Nat.le_refl _))
  have hs4 := Nat.le_trans hs3 hg.size
  clear hg hw
  go_wp2_with fail
  refine (pick_any _ _ _ _ R4.out (by omega)).mono ?_
  rintro e w5 ⟨v4, rfl, l4, u4, m4, hw⟩
  have u4 := u4 (by omega)
  have R5 : Hid (Rd w5 w.heap.size _) := Lib.hid (by rw [hw]; exact R4.out.next m4)
  have hg : w4.grownBy w5 (some w.heap.size) := by rw [hw]; exact grown_pick _ _ _ _
  have B5 := Lib.hid (below_of_grown B4.out hg hs4 (Nat.le_refl _))
  have hs5 := Nat.le_trans hs4 hg.size
  clear hg hw
  go_wp2
  go_ret3
  exact ⟨_, _, _, rfl, ⟨by omega, by omega⟩, ⟨by omega, by omega⟩, ⟨by omega, by omega⟩, B5.out⟩

end Go.Proofs.YtjifldaohdddhaaDoor
