/- How impl's sort compares two talks: cmp.Compare, cmp.Or, the closure. -/
import Derived.Test.YtlcegpmhlnilfaaRegionG
import Derived.Test.YtlcegpmhlnilfaaBTalk
import Derived.Sort.Grow
namespace Go.Proofs.Ytlcegpmhlnilfaa
open Go.RowKit

def cmpI (a b : Int) : Int := if a < b then -1 else if b < a then 1 else 0
theorem isnan_any (a : Int) (w : World) : Calls Try.prog 81 #[.int .i64 a] w fun e w' => e = .returned (.bool false) ∧ w = w' := by
  have h : (a != a) = false := by simp
  go_enter Try.func81, Try.ntmps81
  go_wp2
  go_ret
  exact ⟨rfl, rfl⟩
theorem cmp_any (a b : Int) (w : World) : Calls Try.prog 53 #[.int .i64 a, .int .i64 b] w fun e w' => e = .returned (.int .i64 (cmpI a b)) ∧ w = w' := by
  by_cases h1 : a < b
  · have HX := Lib.hid (show cmpI a b = -1 by unfold cmpI; rw [if_pos h1])
    go_enter Try.func53, Try.ntmps53
    go_wp2_with fail
    refine (isnan_any _ _).mono ?_
    rintro e w1 ⟨rfl, rfl⟩
    go_wp2_with fail
    refine (isnan_any _ _).mono ?_
    rintro e w1 ⟨rfl, rfl⟩
    go_wp2
    go_ret
    exact ⟨by rw [HX.out]; rfl, rfl⟩
  · by_cases h2 : b < a
    · have HX := Lib.hid (show cmpI a b = 1 by unfold cmpI; rw [if_neg h1, if_pos h2])
      go_enter Try.func53, Try.ntmps53
      go_wp2_with fail
      refine (isnan_any _ _).mono ?_
      rintro e w1 ⟨rfl, rfl⟩
      go_wp2_with fail
      refine (isnan_any _ _).mono ?_
      rintro e w1 ⟨rfl, rfl⟩
      go_wp2
      go_ret
      exact ⟨by rw [HX.out]; rfl, rfl⟩
    · have HX := Lib.hid (show cmpI a b = 0 by unfold cmpI; rw [if_neg h1, if_neg h2])
      go_enter Try.func53, Try.ntmps53
      go_wp2_with fail
      refine (isnan_any _ _).mono ?_
      rintro e w1 ⟨rfl, rfl⟩
      go_wp2_with fail
      refine (isnan_any _ _).mono ?_
      rintro e w1 ⟨rfl, rfl⟩
      go_wp2
      go_ret
      exact ⟨by rw [HX.out]; rfl, rfl⟩

def orI (a b : Int) : Int := if a = 0 then b else a
theorem or_any (a b : Int) (g : Nat) (w : World) (h0 : w.cell? ⟨g, 0, none⟩ = some (.int .i64 a)) (h1 : w.cell? ⟨g, 1, none⟩ = some (.int .i64 b)) :
    Calls Try.prog 52 #[.slice (some ⟨g, 0, none⟩) 2 2] w fun e w' => e = .returned (.int .i64 (orI a b)) ∧ w = w' := by
  by_cases ha : a = 0
  · subst ha
    have HX := Lib.hid (show orI 0 b = b by unfold orI; rw [if_pos rfl])
    have qa : ((0 : Int) != 0) = false := rfl
    by_cases hb : b = 0
    · subst hb
      have HX := Lib.hid (show orI 0 0 = 0 from rfl)
      go_enter Try.func52, Try.ntmps52
      go_wp2
      go_loop [8] (fun x => ∃ k : Nat, k ≤ 2 ∧ x = .int .i64 k) (fun x => 2 - (intOf x).toNat)
      case atStart => exact ⟨0, by omega, rfl⟩
      case round =>
        obtain ⟨k, hk, rfl⟩ := hrel
        obtain rfl | rfl | rfl : k = 0 ∨ k = 1 ∨ k = 2 := by omega
        · go_wp2
          go_round
          case rel => exact ⟨1, by omega, rfl⟩
          case measure => simp [intOf]
        · go_wp2
          go_round
          case rel => exact ⟨2, by omega, rfl⟩
          case measure => simp [intOf]
        · go_wp2
          go_ret
          exact ⟨by rw [HX.out]; rfl, rfl⟩
    · have qb : (b != 0) = true := by simpa using hb
      go_enter Try.func52, Try.ntmps52
      go_wp2
      go_loop [8] (fun x => ∃ k : Nat, k ≤ 1 ∧ x = .int .i64 k) (fun x => 2 - (intOf x).toNat)
      case atStart => exact ⟨0, by omega, rfl⟩
      case round =>
        obtain ⟨k, hk, rfl⟩ := hrel
        obtain rfl | rfl : k = 0 ∨ k = 1 := by omega
        · go_wp2
          go_round
          case rel => exact ⟨1, by omega, rfl⟩
          case measure => simp [intOf]
        · go_wp2
          go_ret
          exact ⟨by rw [HX.out]; rfl, rfl⟩
  · have HX := Lib.hid (show orI a b = a by unfold orI; rw [if_neg ha])
    have qa : (a != 0) = true := by simpa using ha
    go_enter Try.func52, Try.ntmps52
    go_wp2
    go_loop [8] (fun x => x = .int .i64 0) (fun _ => 0)
    case atStart => rfl
    case round =>
      subst hrel
      go_wp2
      go_ret
      exact ⟨by rw [HX.out]; rfl, rfl⟩

/-- One quiet operation alone may come up. -/
theorem wpAnyG_quiet {P : Program} {md : Region.Mode} {ops : Array Oper} {Z : Type} {C : Z → World → Prop} {S : Nat → Bool} {Q : Z → Act → Prop} {fuel i : Nat} {listed : Array Bool} {z : Z} {a : Act} {o : Oper} {v : Value} {d : Option Tmp} (hd : o.dst = d) (hr : Region.ready md ops listed = [i]) (hS : S i = false) (ho : ops[i]? = some o)
    (hw : Region.wanted o (yielded ops a.tmps) = true) (hy : ∀ w, C z w → o.quietAt P a (C z) w v) (h : wpAnyG P md ops C S Q fuel (listed.setIfInBounds i true) z (a.put d v)) : wpAnyG P md ops C S Q (fuel + 1) listed z a :=
  ⟨fun h0 => (by rw [hr] at h0; cases h0), fun j hj => by
    rw [hr] at hj
    obtain rfl : j = i := by simpa using hj
    subst hd
    exact YieldsIn.gOp ho hS (.inl ⟨hw, hy⟩) h⟩
/-- The order of the pairs (Say, Tell), as impl's closure tells it. -/
def cfP (x y : Int × Int) : Int := orI (cmpI x.1 y.1) (cmpI x.2 y.2)
/-- After W2, with draws and new blocks alone; the row of both comparisons: not yet, made. -/
def Kz (W2 : World) (p q : Int) : Option Nat → World → Prop
  | none, w => ∃ m os, w = Sort.grow (W2.drewN m) os
  | some b, w => (∃ m os, w = Sort.grow (W2.drewN m) os) ∧ w.cell? ⟨b, 0, none⟩ = some (.int .i64 p) ∧ w.cell? ⟨b, 1, none⟩ = some (.int .i64 q)
theorem Kz.base {W2 w : World} {p q : Int} {z : Option Nat} (h : Kz W2 p q z w) : ∃ m os, w = Sort.grow (W2.drewN m) os := by
  match z, h with
  | none, h => exact h
  | some _, h => exact h.1
theorem below_sgrow (w : World) (os : Array Obj) : Below w.heap.size w (Sort.grow w os) := by
  refine ⟨rfl, rfl, rfl, ?_, fun k hk => ?_⟩
  · simp [Sort.grow]
  · simp [Sort.grow, Array.getElem?_append_left hk]
theorem Kz.below {W2 w : World} {p q : Int} {z : Option Nat} (h : Kz W2 p q z w) : Below W2.heap.size W2 w := by
  obtain ⟨m, os, rfl⟩ := h.base
  exact (below_drewN (Below.refl _ _) m).trans ((below_sgrow (W2.drewN m) os).mono (Nat.le_refl _))
theorem grow_alloc (W2 : World) (m : Nat) (os : Array Obj) (o : Obj) : (Sort.grow (W2.drewN m) os).alloc o = Sort.grow (W2.drewN m) (os ++ #[o]) := by
  rw [Sort.alloc_eq_grow, Sort.grow_grow]

end Go.Proofs.Ytlcegpmhlnilfaa
