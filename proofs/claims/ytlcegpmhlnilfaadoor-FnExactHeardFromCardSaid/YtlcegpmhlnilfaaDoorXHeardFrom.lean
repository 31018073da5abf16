/- The exact law of HeardFrom, walked: spec's answer, impl's answer, and that both are the same; no argument is written to; the answer owns its memory. -/
import Derived.Test.YtlcegpmhlnilfaaDoorHrdI
import Derived.Test.YtlcegpmhlnilfaaDoorHrdS
import Derived.Test.YtlcegpmhlnilfaaDoorTkL
import Derived.Test.YtlcegpmhlnilfaaDoorBMark
namespace Go.Proofs.YtlcegpmhlnilfaaDoor
open Go.RowKit

theorem ownT_out {w w' : World} {B lo hi : Nat} {v : Value} {ask : Int → Int} {d : List (Int × Int)} (h : OwnT w B v ask d) (ho : Outside lo hi w w') (hk : ∀ k, v.ownBlock = some k → k < lo ∨ hi ≤ k) : OwnT w' B v ask d := by
  refine ⟨h.1, ?_⟩
  rcases id h.2 with h2 | ⟨g, cap, cur, rfl, hg, hb, r⟩
  · exact .inl h2
  · exact .inr ⟨g, cap, cur, rfl, hg, by rw [ho.block g (h.lt g rfl).2 (hk g rfl)]; exact hb, r⟩
theorem ownT_apart {w w' : World} {B B' : Nat} {v u : Value} {ask : Int → Int} {d : List (Int × Int)} (h : OwnT w B v ask d) (hlt : ∀ k, v.ownBlock = some k → k < B') (hu : ∀ k, u.ownBlock = some k → B' ≤ k) (hg : w.grownBy w' u.ownBlock) : OwnT w' B v ask d :=
  h.kept hg (by
    cases hv : v.ownBlock with
    | none => exact .inl rfl
    | some k => exact .inr (fun e => by have := hlt k hv; have := hu k e.symm; omega))
theorem ownM_below {w w' : World} {B : Nat} {v : Value} {n : Nat} {m : Int} {k : Nat} (h : OwnM w B v n m k) (hb : Below w.heap.size w w') : OwnM w' B v n m k := by
  obtain ⟨F, hF, hm, ho⟩ := h
  have hg : w.grownBy w' none := ⟨hb.os, hb.tape, hb.output, hb.size, fun k hk _ => hb.block k hk⟩
  exact ⟨F, hF, hm, ho.kept hg (by cases hv : v.ownBlock <;> simp)⟩

set_option maxHeartbeats 3200000 in
theorem xHeardFrom_walk (g s : Int) (la : Option Addr) (lc : Nat) (l : List Int) (w : World) (G : Gr w) (hk : ArgI w la l) (mk : l.length ≤ maxLen) :
    Calls Tryd.prog 5 #[.int .i64 g, .int .i64 s, .slice la l.length lc] w fun e w' => e = .returned (.bool true) ∧ Below w.heap.size w w' := by
  have HG := Lib.hid G
  have HK := Lib.hid hk
  obtain ⟨D, hD⟩ : ∃ D, heardAll g s l = D := ⟨_, rfl⟩
  obtain ⟨Q, hQ⟩ : ∃ Q, qOf g l = Q := ⟨_, rfl⟩
  have hfew : D.length ≤ 23 := by rw [← hD]; exact heard_few g s l
  have HF := Lib.hid hfew
  have HS : Hid (∀ (u : Value) (w' : World), Ints w' u l → _) := Lib.hid (fun u w' h => sheard_any g s u l w' h)
  have HI : Hid (∀ (u : Value) (w' : World), Gr w' → Ints w' u l → _) := Lib.hid (fun u w' G' h => iheard_any g s u l w' G' h)
  rw [hQ] at HS HI
  have HD := Lib.hid hD
  unfold maxLen at mk
  clear hk G hD hQ hfew
  by_cases ck : l.length ≤ 1048576
  case neg =>
    go_enter Tryd.func5, Tryd.ntmps5
    go_wp2
    go_ret
    exact ⟨rfl, Below.refl _ _⟩
  go_enter Tryd.func5, Tryd.ntmps5
  go_wp2_with fail
  refine (toI_any la lc l _ HK.out ck).mono ?_
  rintro e w1 ⟨v9, rfl, oo, hb⟩
  have B1 := Lib.hid hb
  have I1 := Lib.hid (Ints.of_own oo (small ck))
  clear hb oo
  go_wp2_with fail
  refine (HS.out _ _ I1.out).mono ?_
  rintro e w2 ⟨v0, rfl, oo, hb⟩
  rw [HD.out] at oo
  have S1 := Lib.hid hb.size
  have B2 := Lib.hid (Below.on B1.out hb)
  have S0 := Lib.hid (Below.on B1.out hb).size
  have A2 := Lib.hid oo
  have L0 := Lib.hid (fun k hk => (oo.lt k hk).2)
  clear hb oo I1 B1
  go_wp2_with fail
  refine (toI_any la lc l _ (HK.out.on B2.out) ck).mono ?_
  rintro e w3 ⟨xv, rfl, oo, hb⟩
  have S2 := Lib.hid hb.size
  have B3 := Lib.hid (Below.on B2.out hb)
  have A3 := Lib.hid (ownT_below A2.out hb)
  have X3 := Lib.hid (Hl.mk1 oo)
  clear hb oo B2 A2
  go_wp2_with fail
  refine (HI.out _ _ (HG.out.on B3.out) (Ints.of_own X3.out.1 (small ck))).mono ?_
  rintro e w4 ⟨v1, rfl, oo, hb⟩
  rw [HD.out] at oo
  have S3 := Lib.hid hb.size
  have B4 := Lib.hid (Below.on B3.out hb)
  have A4 := Lib.hid (ownT_below A3.out hb)
  have X4 := Lib.hid (X3.out.on hb)
  have C4 := Lib.hid oo
  have L1 := Lib.hid (fun k hk => (oo.lt k hk).1)
  clear hb oo B3 A3 X3
  go_wp2_with fail
  refine (eqt_any _ _ _ _ _ _ _ HF.out C4.out A4.out).mono ?_
  rintro e w5 ⟨rfl, hb⟩
  have B5 := Lib.hid (Below.on B4.out hb)
  have A5 := Lib.hid (ownT_below A4.out hb)
  have X5 := Lib.hid (X4.out.on hb)
  have C5 := Lib.hid (ownT_below C4.out hb)
  clear hb B4 A4 X4 C4
  go_wp2_with fail
  refine (toI_any la lc l _ (HK.out.on B5.out) ck).mono ?_
  rintro e w6 ⟨yv, rfl, oo, hb⟩
  have B6 := Lib.hid (Below.on B5.out hb)
  have A6 := Lib.hid (ownT_below A5.out hb)
  have X6 := Lib.hid (X5.out.on hb)
  have C6 := Lib.hid (ownT_below C5.out hb)
  have Y6 := Lib.hid (Ints.of_own oo (small ck))
  clear hb oo B5 A5 X5 C5
  go_wp2_with fail
  refine (eqs_same _ _ l _ (Ints.of_own X6.out.1 (small ck)) Y6.out).mono ?_
  rintro e w7 ⟨rfl, m7, hw⟩
  have hb := below_of_drew hw
  have B7 := Lib.hid (Below.on B6.out hb)
  have A7 := Lib.hid (ownT_below A6.out hb)
  have X7 := Lib.hid (X6.out.on hb)
  have C7 := Lib.hid (ownT_below C6.out hb)
  clear hb hw B6 A6 X6 C6 Y6
  go_wp2_with fail
  refine (mkI_any _ _ _ l 1 _ X7.out (by omega) (by omega) (by omega)).mono ?_
  rintro e w8 ⟨rfl, oo, hout⟩
  have hsz : w3.heap.size ≤ w7.heap.size := X7.out.2.2
  have B8 : Hid (Below w.heap.size w w8) := Lib.hid (B7.out.trans ((hout.below (by have := S2.out; omega)).mono S0.out))
  have A8 := Lib.hid (ownT_out A7.out hout (fun k hk => .inl (L0.out k hk)))
  have C8 := Lib.hid (ownT_out C7.out hout (fun k hk => .inr (L1.out k hk)))
  have hk0 : ¬ (1 + (l.length : Int) < 0) := by omega
  clear oo hout B7 A7 X7 C7 hsz
  go_wp2_with fail
  refine (eqt_any _ _ _ _ _ _ _ HF.out C8.out A8.out).mono ?_
  rintro e w9 ⟨rfl, hb⟩
  have B9 := Lib.hid (Below.on B8.out hb)
  have A9 := Lib.hid (ownT_below A8.out hb)
  have C9 := Lib.hid (ownT_below C8.out hb)
  clear hb B8 A8 C8 hk0
  go_wp2_with fail
  refine (markt_any _ _ _ 1 _ _ C9.out HF.out (by omega) (by omega)).mono ?_
  rintro e w10 ⟨rfl, oo, hg⟩
  have A10 := Lib.hid (ownT_apart (B' := w3.heap.size) A9.out (fun k hk => Nat.lt_of_lt_of_le (L0.out k hk) S2.out) L1.out hg)
  have M10 := Lib.hid oo
  have B10 := Lib.hid (B9.out.grown hg B9.out.size (fun k hk => by have := L1.out k hk; have := S2.out; have := S0.out; omega))
  clear oo hg B9 A9 C9
  go_wp2_with fail
  refine (heldt_any _ _ 1 _ _ M10.out HF.out (by omega) (by omega)).mono ?_
  rintro e w11 ⟨rfl, rfl⟩
  go_wp2_with fail
  refine (toI_any la lc l _ (HK.out.on B10.out) ck).mono ?_
  rintro e w12 ⟨zv, rfl, oo, hb⟩
  have B12 := Lib.hid (Below.on B10.out hb)
  have A12 := Lib.hid (ownT_below A10.out hb)
  have M12 := Lib.hid (ownM_below M10.out hb)
  have Z12 := Lib.hid (Ints.of_own oo (small ck))
  clear hb oo B10 A10 M10
  go_wp2_with fail
  refine (HI.out _ _ (HG.out.on B12.out) Z12.out).mono ?_
  rintro e w13 ⟨v2, rfl, oo, hb⟩
  rw [HD.out] at oo
  have B13 := Lib.hid (Below.on B12.out hb)
  have A13 := Lib.hid (ownT_below A12.out hb)
  have M13 := Lib.hid (ownM_below M12.out hb)
  have C13 := Lib.hid oo
  clear hb oo B12 A12 M12 Z12
  go_wp2_with fail
  refine (eqt_any _ _ _ _ _ _ _ HF.out C13.out A13.out).mono ?_
  rintro e w14 ⟨rfl, hb⟩
  have B14 := Lib.hid (Below.on B13.out hb)
  have M14 := Lib.hid (ownM_below M13.out hb)
  clear hb B13 A13 M13 C13
  go_wp2_with fail
  refine (heldt_any _ _ 1 _ _ M14.out HF.out (by omega) (by omega)).mono ?_
  rintro e w15 ⟨rfl, rfl⟩
  go_wp2
  go_ret
  exact ⟨rfl, B14.out⟩
end Go.Proofs.YtlcegpmhlnilfaaDoor
