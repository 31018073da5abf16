/- The exact laws of TalksTrue and TalksMade, walked. -/
import Derived.Test.YtacaeoalplggfadDoorTalkL
import Derived.Test.YtacaeoalplggfadDoorSortT
namespace Go.Proofs.YtacaeoalplggfadDoor
open Go.RowKit

theorem sortP_len (d : List (Int × Int)) : (sortP d).length = d.length := by unfold sortP; exact List.length_mergeSort _
theorem ord_max (g : Int) : (ord g).toNat ≤ 23 := by
  by_cases h : 0 ≤ g ∧ g < 4
  · have := ord_bd h.1 h.2; omega
  · rw [ord_none h]; decide
theorem true_len23 (g s a : Int) : (sortP (trueAll g s a)).length ≤ 23 := by
  rw [sortP_len]; unfold trueAll; split
  · rw [trueL_len]; exact ord_max g
  · simp
theorem made_len23 (g k a : Int) : (sortP (madeAll g k a)).length ≤ 23 := by
  rw [sortP_len]; unfold madeAll; split
  · rw [madeL_len]; exact ord_max g
  · simp
theorem ownT_apart {w w' : World} {B B' : Nat} {v u : Value} {ask : Int} {d : List (Int × Int)} (h : OwnT w B v ask d) (hlt : ∀ k, v.ownBlock = some k → k < B') (hu : ∀ k, u.ownBlock = some k → B' ≤ k) (hg : w.grownBy w' u.ownBlock) : OwnT w' B v ask d :=
  h.kept hg (by
    cases hv : v.ownBlock with
    | none => exact .inl rfl
    | some k => exact .inr (fun e => by have := hlt k hv; have := hu k e.symm; omega))
theorem ownM_below {w w' : World} {B : Nat} {v : Value} {n : Nat} {m : Int} {k : Nat} (h : OwnM w B v n m k) (hb : Below w.heap.size w w') : OwnM w' B v n m k := by
  obtain ⟨F, hF, hm, ho⟩ := h
  have hg : w.grownBy w' none := ⟨hb.os, hb.tape, hb.output, hb.size, fun k hk _ => hb.block k hk⟩
  exact ⟨F, hF, hm, ho.kept hg (by cases hv : v.ownBlock <;> simp)⟩

set_option maxHeartbeats 1600000 in
theorem xTalksTrue_walk (g secret ask : Int) (w : World) (G : Gr w) : Calls Tryd.prog 5 #[.int .i64 g, .int .i64 secret, .int .i64 ask] w fun e w' => e = .returned (.bool true) ∧ Below w.heap.size w w' := by
  have SC := Lib.hid sort_any
  have SS := Lib.hid sorted_any
  have HS := Lib.hid (fun (w : World) => strue_any SS.out g secret ask w)
  have HI := Lib.hid (fun (w : World) (G : Gr w) => itrue_any SC.out g secret ask w G)
  have hn := true_len23 g secret ask
  obtain ⟨D, hD⟩ : ∃ D, sortP (trueAll g secret ask) = D := ⟨_, rfl⟩
  rw [hD] at HS HI hn
  clear hD SC SS
  go_enter Tryd.func5, Tryd.ntmps5
  go_wp2_with fail
  refine (HS.out _).mono ?_
  rintro e w1 ⟨v0, rfl, O0, hb1⟩
  have G1 := Lib.hid (G.on hb1)
  have L0 := Lib.hid (fun k hk => (O0.lt k hk).2)
  go_wp2_with fail
  refine (HI.out _ G1.out).mono ?_
  rintro e w2 ⟨v1, rfl, O1, hb2⟩
  have L1 := Lib.hid (fun k hk => (O1.lt k hk).1)
  have A0 := Lib.hid (ownT_below O0 hb2)
  have A1 := Lib.hid O1
  have B1 := Lib.hid hb1
  have B2 := Lib.hid (Below.on hb1 hb2)
  clear O0 O1 hb2 hb1
  go_wp2_with fail
  refine (eqt_any _ _ _ _ _ _ _ hn A1.out A0.out).mono ?_
  rintro e w3 ⟨rfl, hb3⟩
  have A0' := Lib.hid (ownT_below A0.out hb3)
  have A1' := Lib.hid (ownT_below A1.out hb3)
  have B3 : Hid (Below w.heap.size w w3) := Lib.hid (B2.out.trans (hb3.mono B2.out.size))
  clear A0 A1 B2 hb3
  go_wp2_with fail
  refine (markt_any v1 _ _ 1 w1.heap.size _ A1'.out hn (by omega) (by omega)).mono ?_
  rintro e w4 ⟨rfl, O4, hg4⟩
  have A0 : Hid (OwnT w4 w.heap.size v0 ask D) := Lib.hid (ownT_apart A0'.out L0.out L1.out hg4)
  have A1 := Lib.hid O4
  have B4 : Hid (Below w.heap.size w w4) := Lib.hid (B3.out.grown hg4 B3.out.size (fun k hk => Nat.le_trans B1.out.size (L1.out k hk)))
  have G4 : Hid (Gr w4) := Lib.hid (G.on B4.out)
  clear O4 hg4 A0' A1' B3
  go_wp2_with fail
  refine (heldt_any v1 D.length 1 w1.heap.size _ A1.out hn (by omega) (by omega)).mono ?_
  rintro e w5 ⟨rfl, rfl⟩
  go_wp2_with fail
  refine (HI.out _ G4.out).mono ?_
  rintro e w6 ⟨v2, rfl, O6, hb6⟩
  have A0' := Lib.hid (ownT_below A0.out hb6)
  have A1' := Lib.hid (ownM_below A1.out hb6)
  have A2' := Lib.hid O6
  have B6 : Hid (Below w.heap.size w w6) := Lib.hid (B4.out.trans (hb6.mono B4.out.size))
  clear O6 hb6 A0 A1
  go_wp2_with fail
  refine (eqt_any _ _ _ _ _ _ _ hn A2'.out A0'.out).mono ?_
  rintro e w7 ⟨rfl, hb7⟩
  have A1 := Lib.hid (ownM_below A1'.out hb7)
  have B7 : Hid (Below w.heap.size w w7) := Lib.hid (B6.out.trans (hb7.mono B6.out.size))
  clear hb7 A0' A1' A2' B6
  go_wp2_with fail
  refine (heldt_any v1 D.length 1 w1.heap.size _ A1.out hn (by omega) (by omega)).mono ?_
  rintro e w8 ⟨rfl, rfl⟩
  go_wp2
  go_ret
  exact ⟨rfl, B7.out⟩

set_option maxHeartbeats 1600000 in
theorem xTalksMade_walk (g key ask : Int) (w : World) (G : Gr w) : Calls Tryd.prog 6 #[.int .i64 g, .int .i64 key, .int .i64 ask] w fun e w' => e = .returned (.bool true) ∧ Below w.heap.size w w' := by
  have SC := Lib.hid sort_any
  have SS := Lib.hid sorted_any
  have HS := Lib.hid (fun (w : World) => smadeAll_any SS.out g key ask w)
  have HI := Lib.hid (fun (w : World) (G : Gr w) => imadeAll_any SC.out g key ask w G)
  have hn := made_len23 g key ask
  obtain ⟨D, hD⟩ : ∃ D, sortP (madeAll g key ask) = D := ⟨_, rfl⟩
  rw [hD] at HS HI hn
  clear hD SC SS
  go_enter Tryd.func6, Tryd.ntmps6
  go_wp2_with fail
  refine (HS.out _).mono ?_
  rintro e w1 ⟨v0, rfl, O0, hb1⟩
  have G1 := Lib.hid (G.on hb1)
  have L0 := Lib.hid (fun k hk => (O0.lt k hk).2)
  go_wp2_with fail
  refine (HI.out _ G1.out).mono ?_
  rintro e w2 ⟨v1, rfl, O1, hb2⟩
  have L1 := Lib.hid (fun k hk => (O1.lt k hk).1)
  have A0 := Lib.hid (ownT_below O0 hb2)
  have A1 := Lib.hid O1
  have B1 := Lib.hid hb1
  have B2 := Lib.hid (Below.on hb1 hb2)
  clear O0 O1 hb2 hb1
  go_wp2_with fail
  refine (eqt_any _ _ _ _ _ _ _ hn A1.out A0.out).mono ?_
  rintro e w3 ⟨rfl, hb3⟩
  have A0' := Lib.hid (ownT_below A0.out hb3)
  have A1' := Lib.hid (ownT_below A1.out hb3)
  have B3 : Hid (Below w.heap.size w w3) := Lib.hid (B2.out.trans (hb3.mono B2.out.size))
  clear A0 A1 B2 hb3
  go_wp2_with fail
  refine (markt_any v1 _ _ 1 w1.heap.size _ A1'.out hn (by omega) (by omega)).mono ?_
  rintro e w4 ⟨rfl, O4, hg4⟩
  have A0 : Hid (OwnT w4 w.heap.size v0 ask D) := Lib.hid (ownT_apart A0'.out L0.out L1.out hg4)
  have A1 := Lib.hid O4
  have B4 : Hid (Below w.heap.size w w4) := Lib.hid (B3.out.grown hg4 B3.out.size (fun k hk => Nat.le_trans B1.out.size (L1.out k hk)))
  have G4 : Hid (Gr w4) := Lib.hid (G.on B4.out)
  clear O4 hg4 A0' A1' B3
  go_wp2_with fail
  refine (heldt_any v1 D.length 1 w1.heap.size _ A1.out hn (by omega) (by omega)).mono ?_
  rintro e w5 ⟨rfl, rfl⟩
  go_wp2_with fail
  refine (HI.out _ G4.out).mono ?_
  rintro e w6 ⟨v2, rfl, O6, hb6⟩
  have A0' := Lib.hid (ownT_below A0.out hb6)
  have A1' := Lib.hid (ownM_below A1.out hb6)
  have A2' := Lib.hid O6
  have B6 : Hid (Below w.heap.size w w6) := Lib.hid (B4.out.trans (hb6.mono B4.out.size))
  clear O6 hb6 A0 A1
  go_wp2_with fail
  refine (eqt_any _ _ _ _ _ _ _ hn A2'.out A0'.out).mono ?_
  rintro e w7 ⟨rfl, hb7⟩
  have A1 := Lib.hid (ownM_below A1'.out hb7)
  have B7 : Hid (Below w.heap.size w w7) := Lib.hid (B6.out.trans (hb7.mono B6.out.size))
  clear hb7 A0' A1' A2' B6
  go_wp2_with fail
  refine (heldt_any v1 D.length 1 w1.heap.size _ A1.out hn (by omega) (by omega)).mono ?_
  rintro e w8 ⟨rfl, rfl⟩
  go_wp2
  go_ret
  exact ⟨rfl, B7.out⟩
end Go.Proofs.YtacaeoalplggfadDoor
