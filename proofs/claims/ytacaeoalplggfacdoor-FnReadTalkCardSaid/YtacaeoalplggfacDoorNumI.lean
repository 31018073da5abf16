/- impl.numberIn at every text. -/
import Derived.Test.YtacaeoalplggfacDoorReadJ
import Derived.Test.YtacaeoalplggfacDoorLiftY
import Derived.Stop.LaidErr
namespace Go.Proofs.YtacaeoalplggfacDoor
open Go.RowKit

def numV (s : ByteArray) : Int := match Lib.atoiAll s.data.toList with
  | .ok v => v
  | _ => -1
theorem gES : Tryd.prog.globalNamed "strconv.ErrSyntax" = some 3 := by kernel_rfl
theorem gER : Tryd.prog.globalNamed "strconv.ErrRange" = some 4 := by kernel_rfl
/-- Both sentinels hold an error. -/
structure Er (w : World) : Prop where
  syn : ∃ tp p, w.var? Tryd.prog "strconv.ErrSyntax" = some #[.iface tp p]
  rng : ∃ tp p, w.var? Tryd.prog "strconv.ErrRange" = some #[.iface tp p]
theorem Er.on {w w' : World} (h : Er w) (hb : Below w.heap.size w w') : Er w' := by
  obtain ⟨⟨t1, p1, h1⟩, ⟨t2, p2, h2⟩⟩ := h
  exact ⟨⟨t1, p1, var?_below hb gES (World.block_lt_of_cell? _ _ (World.var?_cell gES h1 0)) h1⟩, ⟨t2, p2, var?_below hb gER (World.block_lt_of_cell? _ _ (World.var?_cell gER h2 0)) h2⟩⟩
theorem numIn_any (s : ByteArray) (hs : s.size ≤ 281474976710656) : NumC Er s (numV s) := by
  intro w E
  cases h : Lib.atoiAll s.data.toList with
  | ok v =>
    have HX := Lib.hid (show numV s = v by unfold numV; rw [h])
    go_enter Tryd.func29, Tryd.ntmps29
    go_wp2_with fail
    refine (Tryd.strconv_Atoi_ok s (by omega) _ h _).mono ?_
    rintro e w1 ⟨rfl, hw⟩
    have hb : Below w.heap.size w w1 := by
      rcases hw with rfl | ⟨t, rfl⟩
      · exact Below.refl _ _
      · exact Lib.bytesWorld_below _ _ _
    clear hw
    go_wp2
    go_ret
    exact ⟨by rw [HX.out]; rfl, hb⟩
  | «syntax» =>
    have HX := Lib.hid (show numV s = -1 by unfold numV; rw [h])
    obtain ⟨tp, p, hv⟩ := E.syn
    go_enter Tryd.func29, Tryd.ntmps29
    go_wp2_with fail
    refine (Tryd.strconv_Atoi_syntax_var s hs h tp p _ hv).mono ?_
    rintro e w1 ⟨N, rfl, _, _, hb⟩
    go_wp2
    go_ret
    exact ⟨by rw [HX.out]; rfl, hb⟩
  | range =>
    have HX := Lib.hid (show numV s = -1 by unfold numV; rw [h])
    obtain ⟨tp, p, hv⟩ := E.rng
    go_enter Tryd.func29, Tryd.ntmps29
    go_wp2_with fail
    refine (Tryd.strconv_Atoi_range_var s hs h tp p _ hv).mono ?_
    rintro e w1 ⟨N, rfl, _, _, hb⟩
    go_wp2
    go_ret
    exact ⟨by rw [HX.out]; rfl, hb⟩
theorem tES : (Tryd.prog.globals[3]?).map (·.type) = some 65 := by kernel_rfl
theorem tER : (Tryd.prog.globals[4]?).map (·.type) = some 65 := by kernel_rfl
theorem cES : Tryd.prog.cellsOf 105 = 1 := by kernel_rfl
theorem cStr : Tryd.prog.cellsOf 9 = 1 := by kernel_rfl
theorem starES : "*" ++ "errors.errorString" = "*errors.errorString" := by decide
theorem rowES (u : TypeId) (h : Tryd.prog.typeName? 3 u = some "*errors.errorString") : u = 103 :=
  typeName_ptr_named (nm := "errors.errorString") (by rw [starES]; kernel_rfl) (by kernel_rfl) (by decide) u (by rw [starES]; exact h)
theorem er_of_laid6 {W : World} (h : laidMetH Tryd.prog laid6 W) : Er W := by
  rw [MakeChecks.laidMetH_plain _ _ _ (by kernel_rfl)] at h
  obtain ⟨a0, s0, hv0, -, -, -⟩ := laid_sentinel h.tail.tail.tail gER tER Tryd.underlying65 rowES Tryd.underlying103 Tryd.underlying105 rfl rfl Tryd.underlying9 cES cStr
  obtain ⟨a1, s1, hv1, -, -, -⟩ := laid_sentinel h.tail.tail.tail.tail gES tES Tryd.underlying65 rowES Tryd.underlying103 Tryd.underlying105 rfl rfl Tryd.underlying9 cES cStr
  exact ⟨⟨_, _, hv1⟩, ⟨_, _, hv0⟩⟩
end Go.Proofs.YtacaeoalplggfacDoor
