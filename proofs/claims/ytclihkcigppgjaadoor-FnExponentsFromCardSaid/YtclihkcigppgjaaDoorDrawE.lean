/- l20Exps, l20All: exponents drawn for a relation. -/
import Derived.Test.YtclihkcigppgjaaDoorDrawX
import Derived.Test.YtclihkcigppgjaaDoorDrawCl
namespace Go.Proofs.YtclihkcigppgjaaDoor
open Go.RowKit

theorem Cw.head {w : World} {rv mv : Value} {rows : List (List Int)} {makes : List Int} (h : Cw w rv mv rows makes) (hc : 0 < rows.length) :
    ∃ G c, rv = .slice (some ⟨G, 0, none⟩) rows.length c ∧ ∃ a0 c0, w.cell? ⟨G, 0, none⟩ = some (.slice a0 (row rows 0).length c0) := by
  obtain ⟨a, c, e, _, hj⟩ := h.rows
  obtain ⟨G, u, e1, _, e2, hI⟩ := hj 0 hc
  obtain ⟨a0, c0, e3, _⟩ := hI.opened
  subst e1 e3
  exact ⟨G, c, e, a0, c0, e2⟩
/-- Exponents were drawn: a list of the call's own. -/
def ExpsPost (R k : Nat) (Ok : List Int → Prop) (w : World) (e : Ending) (w' : World) : Prop :=
  ∃ v xs, e = .returned v ∧ Own w' w.heap.size v xs ∧ xs.length ≤ 2 ∧ Ok xs ∧ w.grownBy w' (some R) ∧ ∃ k', k' ≤ k + 4 ∧ Rd w' R k'
set_option maxHeartbeats 1600000 in
theorem drawexps_any (R k : Nat) (g : Int) (rv mv : Value) (rows : List (List Int)) (makes : List Int) (w : World) (h : Rd w R k) (hk : k ≤ 80000) (HC : ∀ w', Above R w w' → Cw w' rv mv rows makes) :
    Calls Tryd.prog 87 #[.pointer (some ⟨R, 0, none⟩), .agg #[.int .i64 g, rv, mv]] w (ExpsPost R k (fun _ => True) w) := by
  have HH := Lib.hid HC
  clear HC
  have hR := h.lt
  have hb0 : Below w.heap.size w ((w.alloc (.cells #[.int .i64 g, rv, mv] 26)).alloc (.cells #[] 3)) := (below_grow w _).alloc (by simp) _
  have S0 : Hid (Se w R w.heap.size (w.heap.size + 1) [.int .i64 g, rv, mv] ((w.alloc (.cells #[.int .i64 g, rv, mv] 26)).alloc (.cells #[] 3)) k (.slice (some ⟨w.heap.size + 1, 0, none⟩) 0 0) []) := Lib.hid ⟨h.below hb0, grown_below R hb0, (Box.made w _ _).on (below_grow _ _), by
    have := own_made (w.alloc (.cells #[.int .i64 g, rv, mv] 26)) 3 rfl
    simpa using this, hR, by omega, by simp, Nat.le_refl _⟩
  clear h hb0
  have q0 := S0.out.box.cell 0
  have q1 := S0.out.box.cell 1
  have q2 := S0.out.box.cell 2
  simp at q0 q1 q2
  cases hc : clB g rows makes
  · go_enter Tryd.func87, Tryd.ntmps87
    go_wp2_with fail
    refine (sclaim_any g rv mv rows makes _ (HH.out _ (Above.grown S0.out.gr))).mono ?_
    rintro e w1 ⟨rfl, hb⟩
    rw [hc]
    have S1 := Lib.hid (S0.out.on hb)
    clear hb S0 q0 q1 q2
    go_wp2
    go_ret
    exact ⟨_, [], rfl, own_mono S1.out.own (Nat.le_succ _), by simp, trivial, S1.out.gr, k, by omega, S1.out.rd⟩
  have hcl := clB_true.1 hc
  have HCL := Lib.hid hcl
  have hr1 : 0 < rows.length := hcl.r1
  have hu2 := hcl.u2
  obtain ⟨u, hu⟩ : ∃ u, unk rows = u := ⟨_, rfl⟩
  have HU := Lib.hid (show (row rows 0).length = u from hu)
  rw [hu] at hu2
  obtain ⟨G, c, ev, _⟩ := (HH.out w (Above.refl _ _)).head hr1
  subst ev
  have g0 := hcl.g0
  have g4 := hcl.g4
  have hr1' : (0 : Int) < (rows.length : Int) := by omega
  clear hcl hu
  go_enter Tryd.func87, Tryd.ntmps87
  go_wp2_with fail
  refine (sclaim_any g _ mv rows makes _ (HH.out _ (Above.grown S0.out.gr))).mono ?_
  rintro e w1 ⟨rfl, hb⟩
  rw [hc]
  have S1 := Lib.hid (S0.out.on hb)
  clear hb S0 q0 q1 q2 hc
  go_wp2
  go_loopw [5, 6] (fun v i wr => ∃ (j : Nat) (xs : List Int) (k2 : Nat), j ≤ u ∧ i = .int .i64 j ∧ xs.length = j ∧ k2 ≤ k + 2 * j ∧ Hid (Se w R w.heap.size (w.heap.size + 1) [.int .i64 g, .slice (some ⟨G, 0, none⟩) rows.length c, mv] wr k2 v xs)) (fun _ i _ => u - (intOf i).toNat)
  case atStart => exact ⟨0, [], k, by omega, rfl, rfl, by omega, S1⟩
  case round =>
    obtain ⟨j, xs, k2, hj, rfl, hxl, hk2, hS⟩ := hrel
    obtain ⟨wo, rfl⟩ : ∃ wo : World, wo = wr := ⟨_, rfl⟩
    clear S1
    obtain ⟨_, _, ev, a0, c0, hrow⟩ := (HH.out wo (Above.grown hS.out.gr)).head hr1
    cases ev
    rw [HU.out] at hrow
    have b0 := hS.out.box.cell 0
    have b1 := hS.out.box.cell 1
    simp at b0 b1
    by_cases hjl : j < u
    · have hjl1 : (j : Int) < (u : Int) := by omega
      go_wp2_with fail
      refine (drawexp_any R k2 g 60 _ hS.out.rd (by omega) (by omega) (by omega)).mono ?_
      rintro e w4 ⟨x, rfl, x0, x1, g4', k3, hk3, hr4⟩
      have S5 := Lib.hid (hS.out.draw g4' hr4)
      skip
      clear hS g4' hr4 b0 b1 hrow 
      go_wp2_with (at_builtin; refine wpAppInt rfl _ _ rfl rfl S5.out.own (by omega) S5.out.l rfl ?_)
      intro v5 w5 o5 g5 _
      have S6 := Lib.hid (S5.out.app o5 g5)
      clear o5 g5 S5
      go_wp2
      go_roundw
      case rel => exact ⟨j + 1, xs ++ [x], k3, by omega, by go_num, by rw [List.length_append, hxl]; rfl, by omega, S6⟩
      case measure => simp [intOf]; omega
    · obtain rfl : u = j := by omega
      have hjl1 : ¬ (u : Int) < (u : Int) := by omega
      go_wp2
      go_ret
      exact ⟨_, xs, rfl, own_mono hS.out.own (Nat.le_succ _), by omega, trivial, hS.out.gr, k2, by omega, hS.out.rd⟩

end Go.Proofs.YtclihkcigppgjaaDoor
