/- The exact laws of chapter 1 over numbers, walked: spec's answer, impl's answer, and that both are the same. -/
import Derived.Test.YtjifldaohdddhabDoorWalkE
import Derived.Test.YtjifldaohdddhabDoorWalkG
namespace Go.Proofs.YtjifldaohdddhabDoor
open Go.RowKit

theorem xGroupPrime_walk (a : Int) (w : World) (G : Gr w) : Calls Tryd.prog 3 #[.int .i64 a] w fun e w' => e = .returned (.bool true) ∧ Below w.heap.size w w' := by
  go_enter Tryd.func3, Tryd.ntmps3
  go_wp2_with fail
  refine (sprm_any _ _).mono ?_
  rintro e w1 ⟨rfl, hb1⟩
  have G1 := Lib.hid (G.on hb1)
  go_wp2_with fail
  refine (iprm_any _ _ G1.out).mono ?_
  rintro e w2 ⟨rfl, rfl⟩
  go_wp2
  go_ret
  exact ⟨rfl, hb1⟩

theorem xGroupOrder_walk (a : Int) (w : World) (G : Gr w) : Calls Tryd.prog 4 #[.int .i64 a] w fun e w' => e = .returned (.bool true) ∧ Below w.heap.size w w' := by
  go_enter Tryd.func4, Tryd.ntmps4
  go_wp2_with fail
  refine (sord_any _ _).mono ?_
  rintro e w1 ⟨rfl, hb1⟩
  have G1 := Lib.hid (G.on hb1)
  go_wp2_with fail
  refine (iord_any _ _ G1.out).mono ?_
  rintro e w2 ⟨rfl, rfl⟩
  go_wp2
  go_ret
  exact ⟨rfl, hb1⟩

theorem xGroupBase_walk (a : Int) (w : World) (G : Gr w) : Calls Tryd.prog 5 #[.int .i64 a] w fun e w' => e = .returned (.bool true) ∧ Below w.heap.size w w' := by
  go_enter Tryd.func5, Tryd.ntmps5
  go_wp2_with fail
  refine (sbas_any _ _).mono ?_
  rintro e w1 ⟨rfl, hb1⟩
  have G1 := Lib.hid (G.on hb1)
  go_wp2_with fail
  refine (ibas_any _ _ G1.out).mono ?_
  rintro e w2 ⟨rfl, rfl⟩
  go_wp2
  go_ret
  exact ⟨rfl, hb1⟩

theorem xElementOk_walk (a b : Int) (w : World) (G : Gr w) : Calls Tryd.prog 6 #[.int .i64 a, .int .i64 b] w fun e w' => e = .returned (.bool true) ∧ Below w.heap.size w w' := by
  go_enter Tryd.func6, Tryd.ntmps6
  go_wp2_with fail
  refine (sel_any _ _ _).mono ?_
  rintro e w1 ⟨rfl, hb1⟩
  have G1 := Lib.hid (G.on hb1)
  go_wp2_with fail
  refine (iel_any _ _ _ G1.out).mono ?_
  rintro e w2 ⟨rfl, m, rfl⟩
  go_wp2
  go_ret
  exact ⟨rfl, below_drewN hb1 m⟩

theorem xExponentOk_walk (a b : Int) (w : World) (G : Gr w) : Calls Tryd.prog 7 #[.int .i64 a, .int .i64 b] w fun e w' => e = .returned (.bool true) ∧ Below w.heap.size w w' := by
  go_enter Tryd.func7, Tryd.ntmps7
  go_wp2_with fail
  refine (sex_any _ _ _).mono ?_
  rintro e w1 ⟨rfl, hb1⟩
  have G1 := Lib.hid (G.on hb1)
  go_wp2_with fail
  refine (iex_any _ _ _ G1.out).mono ?_
  rintro e w2 ⟨rfl, rfl⟩
  go_wp2
  go_ret
  exact ⟨rfl, hb1⟩

theorem xElementTimes_walk (a b c : Int) (w : World) (G : Gr w) : Calls Tryd.prog 8 #[.int .i64 a, .int .i64 b, .int .i64 c] w fun e w' => e = .returned (.bool true) ∧ Below w.heap.size w w' := by
  go_enter Tryd.func8, Tryd.ntmps8
  go_wp2_with fail
  refine (stim_any _ _ _ _).mono ?_
  rintro e w1 ⟨rfl, hb1⟩
  have G1 := Lib.hid (G.on hb1)
  go_wp2_with fail
  refine (itim_any _ _ _ _ G1.out).mono ?_
  rintro e w2 ⟨rfl, m, rfl⟩
  go_wp2
  go_ret
  exact ⟨rfl, below_drewN hb1 m⟩

theorem xElementPower_walk (a b c : Int) (w : World) (G : Gr w) : Calls Tryd.prog 9 #[.int .i64 a, .int .i64 b, .int .i64 c] w fun e w' => e = .returned (.bool true) ∧ Below w.heap.size w w' := by
  go_enter Tryd.func9, Tryd.ntmps9
  go_wp2_with fail
  refine (spower_any _ _ _ _).mono ?_
  rintro e w1 ⟨rfl, hb1⟩
  have G1 := Lib.hid (G.on hb1)
  go_wp2_with fail
  refine (ipow_any _ _ _ _ G1.out).mono ?_
  rintro e w2 ⟨rfl, m, rfl⟩
  go_wp2
  go_ret
  exact ⟨rfl, below_drewN hb1 m⟩

theorem xLogOf_walk (a b c : Int) (w : World) (G : Gr w) : Calls Tryd.prog 11 #[.int .i64 a, .int .i64 b, .int .i64 c] w fun e w' => e = .returned (.bool true) ∧ Below w.heap.size w w' := by
  go_enter Tryd.func11, Tryd.ntmps11
  go_wp2_with fail
  refine (slog_any _ _ _ _).mono ?_
  rintro e w1 ⟨rfl, hb1⟩
  have G1 := Lib.hid (G.on hb1)
  go_wp2_with fail
  refine (ilog_any _ _ _ _ G1.out).mono ?_
  rintro e w2 ⟨rfl, m, rfl⟩
  go_wp2
  go_ret
  exact ⟨rfl, below_drewN hb1 m⟩

theorem xExponentBack_walk (a b : Int) (w : World) (G : Gr w) : Calls Tryd.prog 12 #[.int .i64 a, .int .i64 b] w fun e w' => e = .returned (.bool true) ∧ Below w.heap.size w w' := by
  go_enter Tryd.func12, Tryd.ntmps12
  go_wp2_with fail
  refine (sback_any _ _ _).mono ?_
  rintro e w1 ⟨rfl, hb1⟩
  have G1 := Lib.hid (G.on hb1)
  go_wp2_with fail
  refine (iback_any _ _ _ G1.out).mono ?_
  rintro e w2 ⟨rfl, rfl⟩
  go_wp2
  go_ret
  exact ⟨rfl, hb1⟩

end Go.Proofs.YtjifldaohdddhabDoor
