/- What the listed variable impl.groups gives the walks: its twelve cells; the witness's world; the variable read again behind the call. -/
import Derived.Test.YtiinifcepcaonaaDoorRows
import Derived.Test.YtiinifcepcaonaaDoorBWalk
import Derived.ProofKit
import Derived.LaidMore
import Derived.OpenShut
import Derived.ChangeOld
import Derived.ChangeVars
import Derived.Stop.Joined
import Derived.Deep.Strs
namespace Go.Proofs.YtiinifcepcaonaaDoor
open Go.ChangeShapes Go.WideShapes Go.ChangeAt Go.RowKit

theorem own0 : ownKnob Tryd.prog.godebug = none := by kernel_rfl
theorem laidOut : laidOutB Tryd.prog = true := by kernel_rfl
theorem gGroups : Tryd.prog.globalNamed "loop.example/sigmaproofs/impl.groups" = some 0 := by kernel_rfl
theorem tGroups : (Tryd.prog.globals[0]?).map (·.type) = some 75 := by kernel_rfl
theorem cInt : Tryd.prog.cellsOf 3 = 1 := by kernel_rfl
theorem cGroup : Tryd.prog.cellsOf 74 = 3 := by kernel_rfl
theorem cGroups : Tryd.prog.cellsOf 75 = 12 := by kernel_rfl
abbrev laid1 : List (String × DataW Unit) := [("loop.example/sigmaproofs/impl.groups", Rows.laid_loop_example_sigmaproofs_impl_groups)]
def cells12 : Array Value := #[.int .i64 7, .int .i64 3, .int .i64 2, .int .i64 11, .int .i64 5, .int .i64 3, .int .i64 23, .int .i64 11, .int .i64 2, .int .i64 47, .int .i64 23, .int .i64 2]

set_option maxRecDepth 100000 in
theorem group_of_trod {H : Type} {enc : TypeId × Value → H} {W : World} {base : Nat} {sp : Nat → Bool} {held : Bool} {fuel : Nat} {cs : List Value} {q : List MemPlace} {a b c : Int}
    (h : DataW.trod enc Tryd.prog W base sp held fuel 74 cs = some (.agg [.lit (.int .i64 a), .lit (.int .i64 b), .lit (.int .i64 c)], q)) : cs = [.int .i64 a, .int .i64 b, .int .i64 c] := by
  obtain ⟨y0, y1, y2, n, e, hl, h0, h1, h2⟩ := Go.Deep.trod_struct3 Tryd.underlying74 h
  rw [cGroup] at hl
  match cs, hl with
  | [c0, c1, c2], _ =>
    simp only [cInt] at h0 h1 h2
    obtain ⟨k0, e0, rfl, _⟩ := DataW.trod_int Tryd.underlying3 h0
    obtain ⟨k1, e1, rfl, _⟩ := DataW.trod_int Tryd.underlying3 h1
    obtain ⟨k2, e2, rfl, _⟩ := DataW.trod_int Tryd.underlying3 h2
    simp at e0 e1 e2 e
    obtain ⟨⟨rfl, rfl, rfl⟩, _⟩ := e
    rw [e0, e1, e2]

set_option maxRecDepth 100000 in
theorem cells_of_vars {W : World} {ps : List MemPlace} (h : DataW.LaidVars Tryd.prog W laid1 ps) : W.var? Tryd.prog "loop.example/sigmaproofs/impl.groups" = some cells12 := by
  obtain ⟨g, t, cs, fuel, p, q, hg, ht, hvar, hd, _, _⟩ := h
  obtain rfl := Option.some.inj (gGroups.symm.trans hg)
  obtain rfl := Option.some.inj (tGroups.symm.trans ht)
  rw [hvar]
  congr 1
  obtain ⟨l⟩ := cs
  obtain ⟨xs, m, rfl, hx, hl, hn, hel⟩ := DataW.trod_array Tryd.underlying75 hd
  rw [cGroups] at hl
  simp only [Rows.laid_loop_example_sigmaproofs_impl_groups, Prod.mk.injEq, DataW.agg.injEq] at hx
  match xs, hn, hx, hel with
  | [x0, x1, x2, x3], _, hx, hel =>
    obtain ⟨x0, p0⟩ := x0; obtain ⟨x1, p1⟩ := x1; obtain ⟨x2, p2⟩ := x2; obtain ⟨x3, p3⟩ := x3
    simp only [List.map_cons, List.map_nil, List.cons.injEq] at hx
    obtain ⟨⟨rfl, rfl, rfl, rfl, _⟩, _⟩ := hx
    match l, hl with
    | [a0, a1, a2, a3, a4, a5, a6, a7, a8, a9, a10, a11], _ =>
      have h0 := hel 0 (by omega)
      have h1 := hel 1 (by omega)
      have h2 := hel 2 (by omega)
      have h3 := hel 3 (by omega)
      rw [cGroup] at h0 h1 h2 h3
      have k0 := group_of_trod h0
      have k1 := group_of_trod h1
      have k2 := group_of_trod h2
      have k3 := group_of_trod h3
      simp at k0 k1 k2 k3
      obtain ⟨rfl, rfl, rfl⟩ := k0
      obtain ⟨rfl, rfl, rfl⟩ := k1
      obtain ⟨rfl, rfl, rfl⟩ := k2
      obtain ⟨rfl, rfl, rfl⟩ := k3
      rfl

theorem cells_of_laid {W : World} (h : laidMetH Tryd.prog laid1 W) : W.var? Tryd.prog "loop.example/sigmaproofs/impl.groups" = some cells12 := by
  rw [MakeChecks.laidMetH_plain _ _ _ (by kernel_rfl)] at h
  obtain ⟨ps, h, _⟩ := h
  exact cells_of_vars h

theorem gr_of_var {W : World} (h : W.var? Tryd.prog "loop.example/sigmaproofs/impl.groups" = some cells12) : Gr W :=
  ⟨World.var?_cell gGroups h 0, World.var?_cell gGroups h 1, World.var?_cell gGroups h 2, World.var?_cell gGroups h 3, World.var?_cell gGroups h 4, World.var?_cell gGroups h 5, World.var?_cell gGroups h 6, World.var?_cell gGroups h 7, World.var?_cell gGroups h 8, World.var?_cell gGroups h 9, World.var?_cell gGroups h 10, World.var?_cell gGroups h 11⟩

theorem door_met (os : Os) (args : Array Value) : laidMetH Tryd.prog laid1 ((World.doorLaid Tryd.prog 400 os).forCall (fun _ _ => 0) ⟨#[], args, []⟩).memory :=
  laidMetH_of_parts3 (fuel := 8) (laidMet_of_run' 8 (by kernel_rfl) (by kernel_rfl)) (by kernel_rfl) (by kernel_rfl)

theorem reads_table {H : Type} (enc : TypeId × Value → H) (W : World) (sp : Nat → Bool) : DataW.trod enc Tryd.prog W 0 sp true 4 75 cells12.toList = some (Rows.laid_loop_example_sigmaproofs_impl_groups, []) := by kernel_rfl

theorem vars_at {H : Type} (enc : TypeId × Value → H) {W : World} (sp : Nat → Bool) (hvar : W.var? Tryd.prog "loop.example/sigmaproofs/impl.groups" = some cells12) :
    DataW.TrodVars enc Tryd.prog W sp ["loop.example/sigmaproofs/impl.groups"] [Rows.laid_loop_example_sigmaproofs_impl_groups] (MemPlace.row ⟨0, 0, none⟩ cells12.size ++ [] ++ []) :=
  ⟨0, _, cells12, 4, [], [], gGroups, tGroups, hvar, reads_table enc W sp, rfl, rfl⟩

/-- The listed variable, as the row's condition gives it: its cells, and its datum. -/
theorem vars_opened {H : Type} {enc : TypeId × Value → H} {W : World} {gs : List (DataW H)} {q : List MemPlace} (hL : W.var? Tryd.prog "loop.example/sigmaproofs/impl.groups" = some cells12) (hV : DataW.TrodVars enc Tryd.prog W (fun _ => true) ["loop.example/sigmaproofs/impl.groups"] gs q) :
    W.var? Tryd.prog "loop.example/sigmaproofs/impl.groups" = some cells12 ∧ gs = [Rows.laid_loop_example_sigmaproofs_impl_groups] := by
  obtain ⟨g, t, cs, fuel, d, p', rfl, hg, ht, hvar, hd, rfl⟩ := trodVars_one hV
  obtain rfl := Option.some.inj (gGroups.symm.trans hg)
  obtain rfl := Option.some.inj (tGroups.symm.trans ht)
  obtain rfl : cs = cells12 := Option.some.inj (hvar.symm.trans hL)
  obtain ⟨rfl, rfl⟩ := DataW.Trod.unique (v := .agg cells12) ⟨fuel, hd⟩ ⟨4, reads_table enc W _⟩
  exact ⟨hvar, rfl⟩

theorem vars_open {H : Type} {enc : TypeId × Value → H} {W : World} {gs : List (DataW H)} {q : List MemPlace} (hL : laidMetH Tryd.prog laid1 W) (hV : DataW.TrodVars enc Tryd.prog W (fun _ => true) ["loop.example/sigmaproofs/impl.groups"] gs q) :
    W.var? Tryd.prog "loop.example/sigmaproofs/impl.groups" = some cells12 ∧ gs = [Rows.laid_loop_example_sigmaproofs_impl_groups] :=
  vars_opened (cells_of_laid hL) hV

end Go.Proofs.YtiinifcepcaonaaDoor
