/- spec.SomeOf. -/
import Derived.Test.YtljekapbcphdaabDoorSofP
import Derived.Test.YtljekapbcphdaabDoorAtS
import Derived.Test.YtljekapbcphdaabDoorKysI
import Derived.Test.YtljekapbcphdaabDoorBTalk
import Derived.Test.YtljekapbcphdaabDoorLinS
import Derived.Deep.Cut
namespace Go.Proofs.YtljekapbcphdaabDoor
open Go.RowKit

/-- Two lists of the call's own, apart from each other. -/
structure S2 (W : World) (pv vv : Value) (ps vs : List Int) (wr : World) : Prop where
  bl : Below W.heap.size W wr
  p : Own wr W.heap.size pv ps
  v : Own wr W.heap.size vv vs
  ap : ∀ k, pv.ownBlock = some k → vv.ownBlock = some k → False
section
variable {W wr w8 : World} {pv vv : Value} {ps vs : List Int}
theorem S2.on {w' : World} (h : S2 W pv vv ps vs wr) (hb : Below wr.heap.size wr w') : S2 W pv vv ps vs w' := ⟨Below.on h.bl hb, own_below h.p hb, own_below h.v hb, h.ap⟩
theorem S2.app1 {v' : Value} {ys : List Int} (h : S2 W pv vv ps vs wr) (ho : Own w8 W.heap.size v' ys) (hg : wr.grownBy w8 pv.ownBlock) (hk : v'.ownBlock = pv.ownBlock ∨ ∃ b, v'.ownBlock = some b ∧ wr.heap.size ≤ b) : S2 W v' vv ys vs w8 :=
  ⟨h.bl.grown hg h.bl.size fun _ he => (h.p.lt _ he).1, ho, own_stay h.v hg fun k a b => h.ap k b a, apart_app h.v h.ap hk⟩
theorem S2.app2 {v' : Value} {ys : List Int} (h : S2 W pv vv ps vs wr) (ho : Own w8 W.heap.size v' ys) (hg : wr.grownBy w8 vv.ownBlock) (hk : v'.ownBlock = vv.ownBlock ∨ ∃ b, v'.ownBlock = some b ∧ wr.heap.size ≤ b) : S2 W pv v' ps ys w8 :=
  ⟨h.bl.grown hg h.bl.size fun _ he => (h.v.lt _ he).1, own_stay h.p hg h.ap, ho, fun k a b => apart_app h.p (fun k a b => h.ap k b a) hk k b a⟩
end
/-- While a single talk is made in a box of its own: none yet, made, written. -/
structure Tr (wk : World) (P0 P : List Value) (z : Option (Nat × Bool)) (w' : World) : Prop where
  bl : Below wk.heap.size wk w'
  m : ∀ M b, z = some (M, b) → wk.heap.size ≤ M ∧ Box w' M (if b then P else P0)
theorem Tr.on {wk : World} {P0 P : List Value} {z : Option (Nat × Bool)} {w1 w2 : World} (h : Tr wk P0 P z w1) (hb : Below w1.heap.size w1 w2) : Tr wk P0 P z w2 := ⟨Below.on h.bl hb, fun M b e => ⟨(h.m M b e).1, (h.m M b e).2.on hb⟩⟩
theorem Tr.made {wk : World} {P0 P : List Value} {w1 : World} {T : TypeId} (h : Tr wk P0 P none w1) : Tr wk P0 P (some (w1.heap.size, false)) (w1.alloc (.cells P0.toArray T)) := ⟨h.bl.alloc h.bl.size _, fun M b e => by cases e; exact ⟨h.bl.size, Box.made w1 _ _⟩⟩
theorem Tr.put {wk : World} {M : Nat} {a b c x y z : Value} {w1 : World} (h : Tr wk [a, b, c] [x, y, z] (some (M, false)) w1) : Tr wk [a, b, c] [x, y, z] (some (M, true)) (st3 w1 M x y z) := ⟨below_st3 h.bl (h.m _ _ rfl).1, fun M' b' e => by cases e; exact ⟨(h.m _ _ rfl).1, st3_box (h.m _ _ rfl).2⟩⟩

set_option maxRecDepth 20000 in
set_option maxHeartbeats 12800000 in
theorem ssof_any (g need ask : Int) (kv sv fv gv : Value) (keys secrets first second : List Int) (w : World) (hk : Ints w kv keys) (hs : Ints w sv secrets) (hf : Ints w fv first) (hg : Ints w gv second) :
    Calls Tryd.prog 82 #[.int .i64 g, kv, .int .i64 need, sv, fv, gv, .int .i64 ask] w fun e w' => ∃ sv xv tv, e = .returned (.tuple #[.agg #[sv, .int .i64 (sQ (sofB g keys need secrets first second ask) ask), xv, tv], .bool (sofB g keys need secrets first second ask)]) ∧ OwnS w' w.heap.size w'.heap.size sv xv tv (sL (sofB g keys need secrets first second ask) (mapTo (sofS g keys secrets first second) keys.length)) (sL (sofB g keys need secrets first second ask) (mapTo (sofX g secrets first ask keys.length) keys.length)) (sL (sofB g keys need secrets first second ask) (mapTo (sofT g secrets first second ask keys.length) keys.length)) ∧ Below w.heap.size w w' := by
  obtain ⟨ka, kc, rfl, k0⟩ := hk.opened
  obtain ⟨sa, sc, rfl, k1⟩ := hs.opened
  obtain ⟨fa, fc, rfl, k2⟩ := hf.opened
  obtain ⟨ga, gc, rfl, k3⟩ := hg.opened
  obtain ⟨n, hn⟩ : ∃ n, keys.length = n := ⟨_, rfl⟩
  have HN := Lib.hid hn
  obtain ⟨lK, hK⟩ : ∃ n, keys.length = n := ⟨_, rfl⟩
  have HLK := Lib.hid hK
  have HCK := Lib.hid (show ∀ k, k < lK → ∃ X, ka = some ⟨X, 0, none⟩ ∧ ∀ w', Below w.heap.size w w' → w'.cell? ⟨X, k, none⟩ = some (.int .i64 (nth keys k)) from fun k hk => by
    obtain ⟨M, e1, hl, e2⟩ := k0.get k (by omega)
    exact ⟨M, e1, fun w' hb => (hb.cell (p := ⟨M, k, none⟩) hl).trans e2⟩)
  rw [hK] at hk
  have Hhk := Lib.hid hk
  obtain ⟨lS, hS⟩ : ∃ n, secrets.length = n := ⟨_, rfl⟩
  have HLS := Lib.hid hS
  have HCS := Lib.hid (show ∀ k, k < lS → ∃ X, sa = some ⟨X, 0, none⟩ ∧ ∀ w', Below w.heap.size w w' → w'.cell? ⟨X, k, none⟩ = some (.int .i64 (nth secrets k)) from fun k hk => by
    obtain ⟨M, e1, hl, e2⟩ := k1.get k (by omega)
    exact ⟨M, e1, fun w' hb => (hb.cell (p := ⟨M, k, none⟩) hl).trans e2⟩)
  rw [hS] at hs
  have Hhs := Lib.hid hs
  obtain ⟨lF, hF⟩ : ∃ n, first.length = n := ⟨_, rfl⟩
  have HLF := Lib.hid hF
  have HCF := Lib.hid (show ∀ k, k < lF → ∃ X, fa = some ⟨X, 0, none⟩ ∧ ∀ w', Below w.heap.size w w' → w'.cell? ⟨X, k, none⟩ = some (.int .i64 (nth first k)) from fun k hk => by
    obtain ⟨M, e1, hl, e2⟩ := k2.get k (by omega)
    exact ⟨M, e1, fun w' hb => (hb.cell (p := ⟨M, k, none⟩) hl).trans e2⟩)
  rw [hF] at hf
  have Hhf := Lib.hid hf
  obtain ⟨lG, hG⟩ : ∃ n, second.length = n := ⟨_, rfl⟩
  have HLG := Lib.hid hG
  have HCG := Lib.hid (show ∀ k, k < lG → ∃ X, ga = some ⟨X, 0, none⟩ ∧ ∀ w', Below w.heap.size w w' → w'.cell? ⟨X, k, none⟩ = some (.int .i64 (nth second k)) from fun k hk => by
    obtain ⟨M, e1, hl, e2⟩ := k3.get k (by omega)
    exact ⟨M, e1, fun w' hb => (hb.cell (p := ⟨M, k, none⟩) hl).trans e2⟩)
  rw [hG] at hg
  have Hhg := Lib.hid hg
  have hlk : lK = n := by rw [← hK, hn]
  subst hlk
  have mx := k1.max; have mxF := k2.max; have mxG := k3.max; have mxK := k0.max
  rw [hS] at mx; rw [hF] at mxF; rw [hG] at mxG; rw [hK] at mxK
  unfold maxLen at mx mxF mxG mxK
  rw [hK, hS, hF, hG]
  clear hk hs hf hg k0 k1 k2 k3 hn hK hS hF hG HN
  obtain ⟨W0, hW0⟩ : ∃ W, W = w.alloc (.cells #[.slice none 0 0, .int .i64 0, .slice none 0 0, .slice none 0 0] 75) := ⟨_, rfl⟩
  have ZB := Lib.hid (show ∀ w', Below W0.heap.size W0 w' → Box w' w.heap.size [.slice none 0 0, .int .i64 0, .slice none 0 0, .slice none 0 0] ∧ Below w.heap.size w w' from fun w' hb => by rw [hW0] at hb; exact ⟨(Box.made w _ _).on hb, Below.on (below_grow w _) hb⟩)
  have T0 := Lib.hid (Below.refl W0.heap.size W0)
  have hz0 : W0.heap.size = w.heap.size + 1 := by rw [hW0]; simp
  cases h1 : kysB g keys need
  · have HX := Lib.hid (show sofB g keys need secrets first second ask = false by exact sofB_false fun s => by have := kysB_true.2 s.k; rw [h1] at this; cases this)
    go_enter Tryd.func82, Tryd.ntmps82
    go_wp2_with fail
    rw [← hW0]
    clear hW0
    refine (skeys_any g need _ keys _ (Hhk.out.below (ZB.out _ T0.out).2)).mono ?_
    rintro e w1 ⟨rfl, hb⟩
    rw [h1]
    have T1 := Lib.hid hb
    clear hb
    have zb := Lib.hid (ZB.out _ T1.out)
    have z0 := zb.out.1.cell 0; have z1 := zb.out.1.cell 1; have z2 := zb.out.1.cell 2; have z3 := zb.out.1.cell 3; have f0 := zb.out.1.frozen 0; have f1 := zb.out.1.frozen 1; have f2 := zb.out.1.frozen 2; have f3 := zb.out.1.frozen 3
    simp at z0 z1 z2 z3
    go_wp2
    refine bodyPost_ret (v := .tuple #[.agg #[.slice none 0 0, .int .i64 0, .slice none 0 0, .slice none 0 0], .bool false]) ?_ rfl ?_
    · simp [results, Tryd.results82, go_sem, z0, z1, z2, z3]
    · refine ⟨_, _, _, by rw [HX.out]; rfl, by rw [HX.out]; exact OwnS.nil _ _ _, ?_⟩
      exact (((zb.out.2.setCell (Nat.le_refl _) _).setCell (Nat.le_refl _) _).setCell (Nat.le_refl _) _).setCell (Nat.le_refl _) _
  have n4 : lK ≤ 4 := by have := (kysB_true.1 h1).m.n4; rw [HLK.out] at this; exact this
  cases h2 : exB g ask
  · have HX := Lib.hid (show sofB g keys need secrets first second ask = false by exact sofB_false fun s => by have := s.a; rw [h2] at this; cases this)
    go_enter Tryd.func82, Tryd.ntmps82
    go_wp2_with fail
    rw [← hW0]
    clear hW0
    refine (skeys_any g need _ keys _ (Hhk.out.below (ZB.out _ T0.out).2)).mono ?_
    rintro e w1 ⟨rfl, hb⟩
    rw [h1]
    have T1 := Lib.hid hb
    clear hb
    go_wp2_with fail
    refine (sex_any g ask _).mono ?_
    rintro e w2 ⟨rfl, hb⟩
    rw [h2]
    have T2 := Lib.hid (Below.on T1.out hb)
    clear hb
    have zb := Lib.hid (ZB.out _ T2.out)
    have z0 := zb.out.1.cell 0; have z1 := zb.out.1.cell 1; have z2 := zb.out.1.cell 2; have z3 := zb.out.1.cell 3; have f0 := zb.out.1.frozen 0; have f1 := zb.out.1.frozen 1; have f2 := zb.out.1.frozen 2; have f3 := zb.out.1.frozen 3
    simp at z0 z1 z2 z3
    go_wp2
    refine bodyPost_ret (v := .tuple #[.agg #[.slice none 0 0, .int .i64 0, .slice none 0 0, .slice none 0 0], .bool false]) ?_ rfl ?_
    · simp [results, Tryd.results82, go_sem, z0, z1, z2, z3]
    · refine ⟨_, _, _, by rw [HX.out]; rfl, by rw [HX.out]; exact OwnS.nil _ _ _, ?_⟩
      exact (((zb.out.2.setCell (Nat.le_refl _) _).setCell (Nat.le_refl _) _).setCell (Nat.le_refl _) _).setCell (Nat.le_refl _) _
  by_cases eS : lS = lK
  case neg =>
    have HX := Lib.hid (show sofB g keys need secrets first second ask = false by exact sofB_false fun s => eS (by rw [← HLS.out, ← HLK.out]; exact s.l1))
    have hne : ((lS : Int) != (lK : Int)) = true := by simp; omega
    go_enter Tryd.func82, Tryd.ntmps82
    go_wp2_with fail
    rw [← hW0]
    clear hW0
    refine (skeys_any g need _ keys _ (Hhk.out.below (ZB.out _ T0.out).2)).mono ?_
    rintro e w1 ⟨rfl, hb⟩
    rw [h1]
    have T1 := Lib.hid hb
    clear hb
    go_wp2_with fail
    refine (sex_any g ask _).mono ?_
    rintro e w2 ⟨rfl, hb⟩
    rw [h2]
    have T2 := Lib.hid (Below.on T1.out hb)
    clear hb
    have zb := Lib.hid (ZB.out _ T2.out)
    have z0 := zb.out.1.cell 0; have z1 := zb.out.1.cell 1; have z2 := zb.out.1.cell 2; have z3 := zb.out.1.cell 3; have f0 := zb.out.1.frozen 0; have f1 := zb.out.1.frozen 1; have f2 := zb.out.1.frozen 2; have f3 := zb.out.1.frozen 3
    simp at z0 z1 z2 z3
    go_wp2
    refine bodyPost_ret (v := .tuple #[.agg #[.slice none 0 0, .int .i64 0, .slice none 0 0, .slice none 0 0], .bool false]) ?_ rfl ?_
    · simp [results, Tryd.results82, go_sem, z0, z1, z2, z3]
    · refine ⟨_, _, _, by rw [HX.out]; rfl, by rw [HX.out]; exact OwnS.nil _ _ _, ?_⟩
      exact (((zb.out.2.setCell (Nat.le_refl _) _).setCell (Nat.le_refl _) _).setCell (Nat.le_refl _) _).setCell (Nat.le_refl _) _
  have hnS : ((lS : Int) != (lK : Int)) = false := by simp; omega
  by_cases eF : lF = lK
  case neg =>
    have HX := Lib.hid (show sofB g keys need secrets first second ask = false by exact sofB_false fun s => eF (by rw [← HLF.out, ← HLK.out]; exact s.l2))
    have hne : ((lF : Int) != (lK : Int)) = true := by simp; omega
    go_enter Tryd.func82, Tryd.ntmps82
    go_wp2_with fail
    rw [← hW0]
    clear hW0
    refine (skeys_any g need _ keys _ (Hhk.out.below (ZB.out _ T0.out).2)).mono ?_
    rintro e w1 ⟨rfl, hb⟩
    rw [h1]
    have T1 := Lib.hid hb
    clear hb
    go_wp2_with fail
    refine (sex_any g ask _).mono ?_
    rintro e w2 ⟨rfl, hb⟩
    rw [h2]
    have T2 := Lib.hid (Below.on T1.out hb)
    clear hb
    have zb := Lib.hid (ZB.out _ T2.out)
    have z0 := zb.out.1.cell 0; have z1 := zb.out.1.cell 1; have z2 := zb.out.1.cell 2; have z3 := zb.out.1.cell 3; have f0 := zb.out.1.frozen 0; have f1 := zb.out.1.frozen 1; have f2 := zb.out.1.frozen 2; have f3 := zb.out.1.frozen 3
    simp at z0 z1 z2 z3
    go_wp2
    refine bodyPost_ret (v := .tuple #[.agg #[.slice none 0 0, .int .i64 0, .slice none 0 0, .slice none 0 0], .bool false]) ?_ rfl ?_
    · simp [results, Tryd.results82, go_sem, z0, z1, z2, z3]
    · refine ⟨_, _, _, by rw [HX.out]; rfl, by rw [HX.out]; exact OwnS.nil _ _ _, ?_⟩
      exact (((zb.out.2.setCell (Nat.le_refl _) _).setCell (Nat.le_refl _) _).setCell (Nat.le_refl _) _).setCell (Nat.le_refl _) _
  have hnF : ((lF : Int) != (lK : Int)) = false := by simp; omega
  by_cases eG : lG = lK
  case neg =>
    have HX := Lib.hid (show sofB g keys need secrets first second ask = false by exact sofB_false fun s => eG (by rw [← HLG.out, ← HLK.out]; exact s.l3))
    have hne : ((lG : Int) != (lK : Int)) = true := by simp; omega
    go_enter Tryd.func82, Tryd.ntmps82
    go_wp2_with fail
    rw [← hW0]
    clear hW0
    refine (skeys_any g need _ keys _ (Hhk.out.below (ZB.out _ T0.out).2)).mono ?_
    rintro e w1 ⟨rfl, hb⟩
    rw [h1]
    have T1 := Lib.hid hb
    clear hb
    go_wp2_with fail
    refine (sex_any g ask _).mono ?_
    rintro e w2 ⟨rfl, hb⟩
    rw [h2]
    have T2 := Lib.hid (Below.on T1.out hb)
    clear hb
    have zb := Lib.hid (ZB.out _ T2.out)
    have z0 := zb.out.1.cell 0; have z1 := zb.out.1.cell 1; have z2 := zb.out.1.cell 2; have z3 := zb.out.1.cell 3; have f0 := zb.out.1.frozen 0; have f1 := zb.out.1.frozen 1; have f2 := zb.out.1.frozen 2; have f3 := zb.out.1.frozen 3
    simp at z0 z1 z2 z3
    go_wp2
    refine bodyPost_ret (v := .tuple #[.agg #[.slice none 0 0, .int .i64 0, .slice none 0 0, .slice none 0 0], .bool false]) ?_ rfl ?_
    · simp [results, Tryd.results82, go_sem, z0, z1, z2, z3]
    · refine ⟨_, _, _, by rw [HX.out]; rfl, by rw [HX.out]; exact OwnS.nil _ _ _, ?_⟩
      exact (((zb.out.2.setCell (Nat.le_refl _) _).setCell (Nat.le_refl _) _).setCell (Nat.le_refl _) _).setCell (Nat.le_refl _) _
  have hnG : ((lG : Int) != (lK : Int)) = false := by simp; omega
  have HE3 := Lib.hid (show lS = lK ∧ lF = lK ∧ lG = lK from ⟨eS, eF, eG⟩)
  clear eS eF eG
  obtain ⟨PL, hPL⟩ : ∃ f, f = fun k => plD (unkP secrets first ask k) := ⟨_, rfl⟩
  obtain ⟨VL, hVL⟩ : ∃ f, f = fun k => vlD (unkP secrets first ask k) := ⟨_, rfl⟩
  have HP0 := Lib.hid (show PL 0 = [0] ∧ VL 0 = [ask] by rw [hPL, hVL]; exact ⟨rfl, rfl⟩)
  have HPY := Lib.hid (show ∀ k : Nat, nth secrets k = -1 → PL (k + 1) = PL k ++ [(k : Int) + 1] ∧ VL (k + 1) = VL k ++ [nth first k] from fun k h => by rw [hPL, hVL]; refine ⟨?_, ?_⟩ <;> (dsimp only; rw [unkP_yes h]; first | (unfold plD; rw [List.map_append]; rfl) | (unfold vlD; rw [List.map_append]; rfl)))
  have HPN := Lib.hid (show ∀ k : Nat, nth secrets k ≠ -1 → PL (k + 1) = PL k ∧ VL (k + 1) = VL k from fun k h => by rw [hPL, hVL]; refine ⟨?_, ?_⟩ <;> (dsimp only; rw [unkP_no h]))
  have HPL := Lib.hid (show ∀ k : Nat, (PL k).length ≤ k + 1 ∧ (VL k).length ≤ k + 1 from fun k => by rw [hPL, hVL]; exact ⟨by dsimp only; rw [plD_len]; exact (unkP_len secrets first ask k).2, by dsimp only; unfold vlD; rw [List.length_map]; exact (unkP_len secrets first ask k).2⟩)
  have HPD := Lib.hid (show PL lK = plD (unkP secrets first ask lK) ∧ VL lK = vlD (unkP secrets first ask lK) by rw [hPL, hVL]; exact ⟨rfl, rfl⟩)
  clear hPL hVL
  have HC1 := Lib.hid (fun k (h : nth secrets k = -1) => cntK_no h)
  have HC2 := Lib.hid (fun k (h : nth secrets k ≠ -1) => cntK_yes h)
  have HCL := Lib.hid (fun k => cntK_le secrets k)
  have HC0 := Lib.hid (show cntK secrets 0 = 0 from rfl)
  have HNO := Lib.hid (show ∀ k, k < lK → (exB g (nth first k) = false ∨ exB g (nth second k) = false ∨ (nth secrets k ≠ -1 ∧ (keyOf g (nth secrets k) ≠ nth keys k ∨ nth second k ≠ 0))) → sofB g keys need secrets first second ask = false from fun k hk h => sofB_false fun s => by
    rcases h with h | h | ⟨h, h' | h'⟩
    · have := allEx_at s.e1 (by rw [s.l2, HLK.out]; exact hk); rw [h] at this; cases this
    · have := allEx_at s.e2 (by rw [s.l3, HLK.out]; exact hk); rw [h] at this; cases this
    · rcases s.kn k (by rw [HLK.out]; exact hk) with a | a
      · exact h a
      · exact h' a
    · rcases s.fz k (by rw [HLK.out]; exact hk) with a | a
      · exact h a
      · exact h' a)
  have HYES := Lib.hid (show (∀ k, k < lK → exB g (nth first k) = true ∧ exB g (nth second k) = true ∧ (nth secrets k = -1 ∨ (keyOf g (nth secrets k) = nth keys k ∧ nth second k = 0))) → sofB g keys need secrets first second ask = decide ((cntK secrets lK : Int) = need) from fun h => by
    obtain ⟨e1, e2, e3⟩ := HE3.out
    by_cases hc : (cntK secrets lK : Int) = need
    · rw [decide_eq_true hc]
      exact sofB_true.2 ⟨kysB_true.1 h1, by rw [HLS.out, HLK.out]; exact e1, by rw [HLF.out, HLK.out]; exact e2, by rw [HLG.out, HLK.out]; exact e3, fun k hk => (h k (by rw [← HLK.out]; exact hk)).2.2.imp id And.left, by rw [HLK.out]; exact hc, fun k hk => (h k (by rw [← HLK.out]; exact hk)).2.2.imp id And.right, allEx_yes fun k hk => (h k (by rw [HLF.out, e2] at hk; exact hk)).1, allEx_yes fun k hk => (h k (by rw [HLG.out, e3] at hk; exact hk)).2.1, h2⟩
    · rw [decide_eq_false hc]
      exact sofB_false fun s => hc (by have := s.ct; rw [HLK.out] at this; exact this))
  go_enter Tryd.func82, Tryd.ntmps82
  go_wp2_with fail
  rw [← hW0]
  clear hW0
  refine (skeys_any g need _ keys _ (Hhk.out.below (ZB.out _ T0.out).2)).mono ?_
  rintro e w1 ⟨rfl, hb⟩
  rw [h1]
  have T1 := Lib.hid hb
  clear hb
  go_wp2_with fail
  refine (sex_any g ask _).mono ?_
  rintro e w2 ⟨rfl, hb⟩
  rw [h2]
  have T2 := Lib.hid (Below.on T1.out hb)
  clear hb
  have S00 := Lib.hid (show S2 W0 (.slice (some ⟨w2.heap.size, 0, none⟩) 1 1) (.slice (some ⟨w2.heap.size + 1, 0, none⟩) 1 1) [0] [ask] ((w2.alloc (.cells #[.int .i64 0] 3)).alloc (.cells #[.int .i64 ask] 3)) from
    ⟨Below.on (Below.on T2.out (below_grow _ _)) (below_grow _ _), own_mono (own_below (own_one w2 0) (below_grow _ _)) T2.out.size, own_mono (B := w2.heap.size + 1) (by have := own_one (w2.alloc (.cells #[.int .i64 0] 3)) ask; simpa using this) (by have := T2.out.size; omega), fun b e1 e2 => by simp [Value.ownBlock] at e1 e2; omega⟩)
  go_wp2
  go_loopw [16, 17, 18, 19] (fun c pv vv i wr => ∃ k : Nat, k ≤ lK ∧ i = .int .i64 k ∧ c = .int .i64 (cntK secrets k) ∧ Hid (∀ j, j < k → exB g (nth first j) = true ∧ exB g (nth second j) = true ∧ (nth secrets j = -1 ∨ (keyOf g (nth secrets j) = nth keys j ∧ nth second j = 0))) ∧ Hid (S2 W0 pv vv (PL k) (VL k) wr)) (fun _ _ _ i _ => lK - (intOf i).toNat)
  case atStart => exact ⟨0, by omega, rfl, by rw [HC0.out]; rfl, Lib.hid fun j hj => by omega, by rw [HP0.out.1, HP0.out.2]; exact S00⟩
  case round =>
    clear S00
    obtain ⟨k, hk, rfl, rfl, hP, hS⟩ := hrel
    obtain ⟨wo, rfl⟩ : ∃ wo : World, wo = wr := ⟨_, rfl⟩
    have hcl := HCL.out k
    by_cases hkn : k < lK
    · have hk1 : (k : Int) < (lK : Int) := by omega
      obtain ⟨e1, e2, e3⟩ := HE3.out
      have hk2 : (k : Int) < (lS : Int) := by omega
      have hk3 : (k : Int) < (lF : Int) := by omega
      have hk4 : (k : Int) < (lG : Int) := by omega
      obtain ⟨XF, rfl, hcF⟩ := HCF.out k (by omega)
      have c0 := hcF _ (ZB.out _ hS.out.bl).2
      have HCFk := Lib.hid hcF
      clear hcF e1 e2 e3 hnS hnF hnG
      cases hx1 : exB g (nth first k)
      · have HX := Lib.hid (HNO.out k hkn (.inl hx1))
        go_wp2_with fail
        refine (sex_any g (nth first k) _).mono ?_
        rintro e w3 ⟨rfl, hb⟩
        rw [hx1]
        have S3_ := Lib.hid (hS.out.on hb)
        clear hb
        have zb := Lib.hid (ZB.out _ S3_.out.bl)
        have z0 := zb.out.1.cell 0; have z1 := zb.out.1.cell 1; have z2 := zb.out.1.cell 2; have z3 := zb.out.1.cell 3; have f0 := zb.out.1.frozen 0; have f1 := zb.out.1.frozen 1; have f2 := zb.out.1.frozen 2; have f3 := zb.out.1.frozen 3
        simp at z0 z1 z2 z3
        go_wp2
        refine bodyPost_ret (v := .tuple #[.agg #[.slice none 0 0, .int .i64 0, .slice none 0 0, .slice none 0 0], .bool false]) ?_ rfl ?_
        · simp [results, Tryd.results82, go_sem, z0, z1, z2, z3]
        · refine ⟨_, _, _, by rw [HX.out]; rfl, by rw [HX.out]; exact OwnS.nil _ _ _, ?_⟩
          exact (((zb.out.2.setCell (Nat.le_refl _) _).setCell (Nat.le_refl _) _).setCell (Nat.le_refl _) _).setCell (Nat.le_refl _) _
      go_wp2_with fail
      refine (sex_any g (nth first k) _).mono ?_
      rintro e w3 ⟨rfl, hb⟩
      rw [hx1]
      have S3_ := Lib.hid (hS.out.on hb)
      clear hb
      obtain ⟨e1, e2, e3⟩ := HE3.out
      obtain ⟨XG, rfl, hcG⟩ := HCG.out k (by omega)
      have d0 := hcG _ (ZB.out _ S3_.out.bl).2
      have HCGk := Lib.hid hcG
      clear hcG e1 e2 e3
      cases hx2 : exB g (nth second k)
      · have HX := Lib.hid (HNO.out k hkn (.inr (.inl hx2)))
        go_wp2_with fail
        refine (sex_any g (nth second k) _).mono ?_
        rintro e w4 ⟨rfl, hb⟩
        rw [hx2]
        have S4 := Lib.hid (S3_.out.on hb)
        clear hb c0 d0 S3_ hS
        have zb := Lib.hid (ZB.out _ S4.out.bl)
        have z0 := zb.out.1.cell 0; have z1 := zb.out.1.cell 1; have z2 := zb.out.1.cell 2; have z3 := zb.out.1.cell 3; have f0 := zb.out.1.frozen 0; have f1 := zb.out.1.frozen 1; have f2 := zb.out.1.frozen 2; have f3 := zb.out.1.frozen 3
        simp at z0 z1 z2 z3
        go_wp2
        refine bodyPost_ret (v := .tuple #[.agg #[.slice none 0 0, .int .i64 0, .slice none 0 0, .slice none 0 0], .bool false]) ?_ rfl ?_
        · simp [results, Tryd.results82, go_sem, z0, z1, z2, z3]
        · refine ⟨_, _, _, by rw [HX.out]; rfl, by rw [HX.out]; exact OwnS.nil _ _ _, ?_⟩
          exact (((zb.out.2.setCell (Nat.le_refl _) _).setCell (Nat.le_refl _) _).setCell (Nat.le_refl _) _).setCell (Nat.le_refl _) _
      go_wp2_with fail
      refine (sex_any g (nth second k) _).mono ?_
      rintro e w4 ⟨rfl, hb⟩
      rw [hx2]
      have S4 := Lib.hid (S3_.out.on hb)
      clear hb c0 d0 S3_ hS
      obtain ⟨e1, e2, e3⟩ := HE3.out
      obtain ⟨XS, rfl, hcS⟩ := HCS.out k (by omega)
      have a0 := hcS _ (ZB.out _ S4.out.bl).2
      have HCSk := Lib.hid hcS
      clear hcS e1 e2 e3
      by_cases hu : nth secrets k = -1
      · have hb : (nth secrets k == -1) = true := by simpa using hu
        have HUK := Lib.hid (HPY.out k hu)
        have HCE := Lib.hid (HC1.out k hu)
        have HPK := Lib.hid (show ∀ j, j < k + 1 → exB g (nth first j) = true ∧ exB g (nth second j) = true ∧ (nth secrets j = -1 ∨ (keyOf g (nth secrets j) = nth keys j ∧ nth second j = 0)) from fun j hj => by
          by_cases e : j < k
          · exact hP.out j e
          · obtain rfl : j = k := by omega
            exact ⟨hx1, hx2, .inl hu⟩)
        clear hu hP hx1 hx2
        have ov := S4.out.p
        have hlp := (HPL.out k).1
        have hle := S4.out.bl.size
        go_upto_region 13 with (at_builtin; refine wpAppInt rfl _ _ rfl rfl ov (by omega) (by omega) rfl ?_)
        intro v7 w7 o7 g7 k7
        have S7 := Lib.hid (S4.out.app1 (by rw [hz0]; exact o7) g7 k7)
        clear o7 g7 k7 ov S4 hle hlp a0
        have ov := S7.out.v
        have hlp := (HPL.out k).2
        have hle := S7.out.bl.size
        have c0 := HCFk.out _ (ZB.out _ S7.out.bl).2
        go_wp2_with (at_builtin; refine wpAppInt rfl _ _ rfl rfl ov (by omega) (by omega) rfl ?_)
        intro v8 w8 o8 g8 k8
        have S8 := Lib.hid (S7.out.app2 (by rw [hz0]; exact o8) g8 k8)
        clear o8 g8 k8 ov S7 hle hlp c0
        go_wp2
        go_roundw
        case rel => exact ⟨k + 1, by omega, by go_num, by rw [HCE.out], HPK, by rw [HUK.out.1, HUK.out.2]; exact S8⟩
        case measure => simp [intOf]; omega
      · have hb : (nth secrets k == -1) = false := by simpa using hu
        have HUK := Lib.hid (HPN.out k hu)
        have HCE := Lib.hid (HC2.out k hu)
        have HU := Lib.hid hu
        clear hu
        obtain ⟨XK, rfl, hcK⟩ := HCK.out k hkn
        have HCKk := Lib.hid hcK
        clear hcK
        have b4 := S4.out.bl.drew
        have S5 : Hid (S2 W0 u17 u18 (PL k) (VL k) w4.drew) := Lib.hid (S4.out.on (Below.refl _ _).drew)
        by_cases he : keyOf g (nth secrets k) = nth keys k
        · have hne : (keyOf g (nth secrets k) != nth keys k) = false := by simpa using he
          by_cases hz : nth second k = 0
          · have hz2 : (nth second k != 0) = false := by simpa using hz
            have HPK := Lib.hid (show ∀ j, j < k + 1 → exB g (nth first j) = true ∧ exB g (nth second j) = true ∧ (nth secrets j = -1 ∨ (keyOf g (nth secrets j) = nth keys j ∧ nth second j = 0)) from fun j hj => by
              by_cases e : j < k
              · exact hP.out j e
              · obtain rfl : j = k := by omega
                exact ⟨hx1, hx2, .inr ⟨he, hz⟩⟩)
            clear he hz hP hx1 hx2
            go_upto_region 14 with (fail)
            clear a0
            refine wp_region_class (C := fun w' => Hid (S2 W0 u17 u18 (PL k) (VL k) w')) (by kernel_rfl) (by kernel_rfl) S5 ?_
            repeat (first | go_big_quiet_skip | (go_big_quiet_want; go_big_quiet_op; first | go_big_quiet_on | (refine ⟨_, fun _ _ => rfl, ?_⟩; go_big_quiet_on)))
            go_big_quiet_want
            go_big_quiet_op
            refine ⟨.int .i64 (nth secrets k), fun w' hw' => ?_, ?_⟩
            · have q0 := HCSk.out _ (ZB.out _ hw'.out.bl).2
              simp [go_sem, q0]
            go_big_quiet_on
            repeat (first | go_big_quiet_skip | (go_big_quiet_want; go_big_quiet_op; first | go_big_quiet_on | (refine ⟨_, fun _ _ => rfl, ?_⟩; go_big_quiet_on)))
            go_big_quiet_want
            go_big_quiet_op
            go_big_quiet_call ((intro hw; exact (skey_any g _ _).mono fun _ _ ⟨he, hb⟩ => ⟨he, Lib.hid (hw.out.on hb)⟩))
            repeat (first | go_big_quiet_skip | (go_big_quiet_want; go_big_quiet_op; first | go_big_quiet_on | (refine ⟨_, fun _ _ => rfl, ?_⟩; go_big_quiet_on)))
            go_big_quiet_want
            go_big_quiet_op
            refine ⟨.int .i64 (nth keys k), fun w' hw' => ?_, ?_⟩
            · have q0 := HCKk.out _ (ZB.out _ hw'.out.bl).2
              simp [go_sem, q0]
            go_big_quiet_on
            repeat (first | go_big_quiet_skip | (go_big_quiet_want; go_big_quiet_op; first | go_big_quiet_on | (refine ⟨_, fun _ _ => rfl, ?_⟩; go_big_quiet_on)))
            go_big_quiet_want
            go_big_quiet_op
            refine ⟨.int .i64 (nth second k), fun w' hw' => ?_, ?_⟩
            · have q0 := HCGk.out _ (ZB.out _ hw'.out.bl).2
              simp [go_sem, q0]
            go_big_quiet_on
            repeat (first | go_big_quiet_skip | (go_big_quiet_want; go_big_quiet_op; first | go_big_quiet_on | (refine ⟨_, fun _ _ => rfl, ?_⟩; go_big_quiet_on)))
            refine wpQuiet_nil ?_
            intro w5 hw5
            go_wp2
            go_roundw
            case rel => exact ⟨k + 1, by omega, by go_num, by rw [HCE.out]; go_num, HPK, by rw [HUK.out.1, HUK.out.2]; exact hw5⟩
            case measure => simp [intOf]; omega
          · have hz2 : (nth second k != 0) = true := by simpa using hz
            have HX := Lib.hid (HNO.out k hkn (.inr (.inr ⟨HU.out, .inr hz⟩)))
            clear he hz hP hx1 hx2
            go_upto_region 14 with (fail)
            clear a0
            refine wp_region_class (C := fun w' => Hid (S2 W0 u17 u18 (PL k) (VL k) w')) (by kernel_rfl) (by kernel_rfl) S5 ?_
            repeat (first | go_big_quiet_skip | (go_big_quiet_want; go_big_quiet_op; first | go_big_quiet_on | (refine ⟨_, fun _ _ => rfl, ?_⟩; go_big_quiet_on)))
            go_big_quiet_want
            go_big_quiet_op
            refine ⟨.int .i64 (nth secrets k), fun w' hw' => ?_, ?_⟩
            · have q0 := HCSk.out _ (ZB.out _ hw'.out.bl).2
              simp [go_sem, q0]
            go_big_quiet_on
            repeat (first | go_big_quiet_skip | (go_big_quiet_want; go_big_quiet_op; first | go_big_quiet_on | (refine ⟨_, fun _ _ => rfl, ?_⟩; go_big_quiet_on)))
            go_big_quiet_want
            go_big_quiet_op
            go_big_quiet_call ((intro hw; exact (skey_any g _ _).mono fun _ _ ⟨he, hb⟩ => ⟨he, Lib.hid (hw.out.on hb)⟩))
            repeat (first | go_big_quiet_skip | (go_big_quiet_want; go_big_quiet_op; first | go_big_quiet_on | (refine ⟨_, fun _ _ => rfl, ?_⟩; go_big_quiet_on)))
            go_big_quiet_want
            go_big_quiet_op
            refine ⟨.int .i64 (nth keys k), fun w' hw' => ?_, ?_⟩
            · have q0 := HCKk.out _ (ZB.out _ hw'.out.bl).2
              simp [go_sem, q0]
            go_big_quiet_on
            repeat (first | go_big_quiet_skip | (go_big_quiet_want; go_big_quiet_op; first | go_big_quiet_on | (refine ⟨_, fun _ _ => rfl, ?_⟩; go_big_quiet_on)))
            go_big_quiet_want
            go_big_quiet_op
            refine ⟨.int .i64 (nth second k), fun w' hw' => ?_, ?_⟩
            · have q0 := HCGk.out _ (ZB.out _ hw'.out.bl).2
              simp [go_sem, q0]
            go_big_quiet_on
            repeat (first | go_big_quiet_skip | (go_big_quiet_want; go_big_quiet_op; first | go_big_quiet_on | (refine ⟨_, fun _ _ => rfl, ?_⟩; go_big_quiet_on)))
            refine wpQuiet_nil ?_
            intro w5 hw5
            have zb := Lib.hid (ZB.out _ hw5.out.bl)
            have z0 := zb.out.1.cell 0; have z1 := zb.out.1.cell 1; have z2 := zb.out.1.cell 2; have z3 := zb.out.1.cell 3; have f0 := zb.out.1.frozen 0; have f1 := zb.out.1.frozen 1; have f2 := zb.out.1.frozen 2; have f3 := zb.out.1.frozen 3
            simp at z0 z1 z2 z3
            go_wp2
            refine bodyPost_ret (v := .tuple #[.agg #[.slice none 0 0, .int .i64 0, .slice none 0 0, .slice none 0 0], .bool false]) ?_ rfl ?_
            · simp [results, Tryd.results82, go_sem, z0, z1, z2, z3]
            · refine ⟨_, _, _, by rw [HX.out]; rfl, by rw [HX.out]; exact OwnS.nil _ _ _, ?_⟩
              exact (((zb.out.2.setCell (Nat.le_refl _) _).setCell (Nat.le_refl _) _).setCell (Nat.le_refl _) _).setCell (Nat.le_refl _) _
        · have hne : (keyOf g (nth secrets k) != nth keys k) = true := by simpa using he
          have HX := Lib.hid (HNO.out k hkn (.inr (.inr ⟨HU.out, .inl he⟩)))
          clear he hP hx1 hx2
          go_upto_region 14 with (fail)
          clear a0
          refine wp_region_class (C := fun w' => Hid (S2 W0 u17 u18 (PL k) (VL k) w')) (by kernel_rfl) (by kernel_rfl) S5 ?_
          repeat (first | go_big_quiet_skip | (go_big_quiet_want; go_big_quiet_op; first | go_big_quiet_on | (refine ⟨_, fun _ _ => rfl, ?_⟩; go_big_quiet_on)))
          go_big_quiet_want
          go_big_quiet_op
          refine ⟨.int .i64 (nth secrets k), fun w' hw' => ?_, ?_⟩
          · have q0 := HCSk.out _ (ZB.out _ hw'.out.bl).2
            simp [go_sem, q0]
          go_big_quiet_on
          repeat (first | go_big_quiet_skip | (go_big_quiet_want; go_big_quiet_op; first | go_big_quiet_on | (refine ⟨_, fun _ _ => rfl, ?_⟩; go_big_quiet_on)))
          go_big_quiet_want
          go_big_quiet_op
          go_big_quiet_call ((intro hw; exact (skey_any g _ _).mono fun _ _ ⟨he, hb⟩ => ⟨he, Lib.hid (hw.out.on hb)⟩))
          repeat (first | go_big_quiet_skip | (go_big_quiet_want; go_big_quiet_op; first | go_big_quiet_on | (refine ⟨_, fun _ _ => rfl, ?_⟩; go_big_quiet_on)))
          go_big_quiet_want
          go_big_quiet_op
          refine ⟨.int .i64 (nth keys k), fun w' hw' => ?_, ?_⟩
          · have q0 := HCKk.out _ (ZB.out _ hw'.out.bl).2
            simp [go_sem, q0]
          go_big_quiet_on
          repeat (first | go_big_quiet_skip | (go_big_quiet_want; go_big_quiet_op; first | go_big_quiet_on | (refine ⟨_, fun _ _ => rfl, ?_⟩; go_big_quiet_on)))
          refine wpQuiet_nil ?_
          intro w5 hw5
          have zb := Lib.hid (ZB.out _ hw5.out.bl)
          have z0 := zb.out.1.cell 0; have z1 := zb.out.1.cell 1; have z2 := zb.out.1.cell 2; have z3 := zb.out.1.cell 3; have f0 := zb.out.1.frozen 0; have f1 := zb.out.1.frozen 1; have f2 := zb.out.1.frozen 2; have f3 := zb.out.1.frozen 3
          simp at z0 z1 z2 z3
          go_wp2
          refine bodyPost_ret (v := .tuple #[.agg #[.slice none 0 0, .int .i64 0, .slice none 0 0, .slice none 0 0], .bool false]) ?_ rfl ?_
          · simp [results, Tryd.results82, go_sem, z0, z1, z2, z3]
          · refine ⟨_, _, _, by rw [HX.out]; rfl, by rw [HX.out]; exact OwnS.nil _ _ _, ?_⟩
            exact (((zb.out.2.setCell (Nat.le_refl _) _).setCell (Nat.le_refl _) _).setCell (Nat.le_refl _) _).setCell (Nat.le_refl _) _
    · obtain rfl : lK = k := by omega
      have hk1 : ¬ (lK : Int) < (lK : Int) := by omega
      have HSB := Lib.hid (HYES.out hP.out)
      clear hP hnS hnF hnG
      by_cases hct : (cntK secrets lK : Int) = need
      case neg =>
        have hne : ((cntK secrets lK : Int) != need) = true := by simpa using hct
        have HX := Lib.hid (show sofB g keys need secrets first second ask = false by rw [HSB.out]; exact decide_eq_false hct)
        clear hct
        have zb := Lib.hid (ZB.out _ hS.out.bl)
        have z0 := zb.out.1.cell 0; have z1 := zb.out.1.cell 1; have z2 := zb.out.1.cell 2; have z3 := zb.out.1.cell 3; have f0 := zb.out.1.frozen 0; have f1 := zb.out.1.frozen 1; have f2 := zb.out.1.frozen 2; have f3 := zb.out.1.frozen 3
        simp at z0 z1 z2 z3
        go_wp2
        refine bodyPost_ret (v := .tuple #[.agg #[.slice none 0 0, .int .i64 0, .slice none 0 0, .slice none 0 0], .bool false]) ?_ rfl ?_
        · simp [results, Tryd.results82, go_sem, z0, z1, z2, z3]
        · refine ⟨_, _, _, by rw [HX.out]; rfl, by rw [HX.out]; exact OwnS.nil _ _ _, ?_⟩
          exact (((zb.out.2.setCell (Nat.le_refl _) _).setCell (Nat.le_refl _) _).setCell (Nat.le_refl _) _).setCell (Nat.le_refl _) _
      have hne : ((cntK secrets lK : Int) != need) = false := by simpa using hct
      have HX := Lib.hid (show sofB g keys need secrets first second ask = true by rw [HSB.out]; exact decide_eq_true hct)
      clear hct
      obtain ⟨pv, hpv⟩ : ∃ v : Value, v = u17 := ⟨_, rfl⟩
      obtain ⟨vv, hvv⟩ : ∃ v : Value, v = u18 := ⟨_, rfl⟩
      rw [← hpv, ← hvv] at hS ⊢
      clear hpv hvv
      have SF := sofB_true.1 HX.out
      have E1 : lS = lK := by rw [← HLS.out, ← HLK.out]; exact SF.l1
      have E2 : lF = lK := by rw [← HLF.out, ← HLK.out]; exact SF.l2
      have E3 : lG = lK := by rw [← HLG.out, ← HLK.out]; exact SF.l3
      have n4 : lK ≤ 4 := by rw [← HLK.out]; exact SF.k.m.n4
      have n1 : 1 ≤ lK := by rw [← HLK.out]; exact SF.k.m.n1
      have nl : (lK : Int) < ord g := by rw [← HLK.out]; exact SF.k.m.lt
      have g0 := SF.k.m.g0; have g4 := SF.k.m.g4
      have HE := Lib.hid (show lS = lK ∧ lF = lK ∧ lG = lK from ⟨E1, E2, E3⟩)
      have HEF := Lib.hid (show ∀ k, k < lK → exB g (nth first k) = true from fun k hk => allEx_at SF.e1 (by rw [HLF.out, E2]; exact hk))
      have HEG := Lib.hid (show ∀ k, k < lK → exB g (nth second k) = true from fun k hk => allEx_at SF.e2 (by rw [HLG.out, E3]; exact hk))
      have HEK := Lib.hid (show ∀ k, k < lK → elB g (nth keys k) = true from fun k hk => allEl_at SF.k.el (by rw [HLK.out]; exact hk))
      have HES := Lib.hid (show ∀ k, k < lK → nth secrets k ≠ -1 → exB g (nth secrets k) = true from fun k hk hne => by
        rcases SF.kn k (by rw [HLK.out]; exact hk) with h | h
        · exact absurd h hne
        · exact key_ex h (HEK.out k hk))
      have HOK := Lib.hid (unkP_ok (secrets := secrets) g0 g4 n4 nl SF.a HEF.out)
      have HPX := Lib.hid (show ∀ k, k < lK → exB g ((k : Int) + 1) = true from fun k hk => exB_true.2 ⟨⟨g0, g4⟩, by omega, by omega⟩)
      obtain ⟨FS, hFS⟩ : ∃ f, f = sofS g keys secrets first second := ⟨_, rfl⟩
      obtain ⟨FX, hFX⟩ : ∃ f, f = sofX g secrets first ask lK := ⟨_, rfl⟩
      obtain ⟨FT, hFT⟩ : ∃ f, f = sofT g secrets first second ask lK := ⟨_, rfl⟩
      obtain ⟨QQ, hQQ⟩ : ∃ f, f = sofQ g secrets first ask lK := ⟨_, rfl⟩
      have HMU := Lib.hid (show ∀ k, nth secrets k = -1 → sayUp g (nth keys k) (nth first k) (nth second k) = FS k ∧ nth first k = FX k ∧ nth second k = FT k from fun k h => by rw [hFS, hFX, hFT]; unfold sofS sofX sofT; rw [if_pos h, if_pos h, if_pos h]; exact ⟨rfl, rfl, rfl⟩)
      have HMK := Lib.hid (show ∀ k, nth secrets k ≠ -1 → gp g (bas g) (nth first k) = FS k ∧ QQ k = FX k ∧ tellOf g (nth secrets k) (nth first k) (QQ k) = FT k from fun k h => by rw [hFS, hFX, hFT, hQQ]; unfold sofS sofX sofT; rw [if_neg h, if_neg h, if_neg h]; exact ⟨rfl, rfl, rfl⟩)
      have HQX := Lib.hid (show ∀ k, exB g (QQ k) = true from fun k => by rw [hQQ]; exact lag_ex g0 g4 _ _ _)
      have HMS := Lib.hid (fun k => mapTo_succ FS k)
      have HMX := Lib.hid (fun k => mapTo_succ FX k)
      have HMT := Lib.hid (fun k => mapTo_succ FT k)
      have HM0 := Lib.hid (show ∀ f, mapTo f 0 = [] from fun _ => rfl)
      have HMLS := Lib.hid (mapTo_len FS)
      have HMLX := Lib.hid (mapTo_len FX)
      have HMLT := Lib.hid (mapTo_len FT)
      have HRS := Lib.hid (show mapTo (sofS g keys secrets first second) lK = mapTo FS lK by rw [hFS])
      have HRX := Lib.hid (show mapTo (sofX g secrets first ask lK) lK = mapTo FX lK by rw [hFX])
      have HRT := Lib.hid (show mapTo (sofT g secrets first second ask lK) lK = mapTo FT lK by rw [hFT])
      rw [HPD.out.1, HPD.out.2] at hS
      have HAT := Lib.hid (show ∀ (k : Nat) (w' : World), k < lK → Ints w' pv (plD (unkP secrets first ask lK)) → Ints w' vv (vlD (unkP secrets first ask lK)) → Calls Tryd.prog 101 #[.int .i64 g, pv, vv, .int .i64 ((k : Int) + 1)] w' fun e w'' => e = .returned (.int .i64 (QQ k)) ∧ Below w'.heap.size w' w'' from fun k w' hk hp hv => by
        have := sat_any g ((k : Int) + 1) pv vv (plD (unkP secrets first ask lK)) (vlD (unkP secrets first ask lK)) w' hp hv (by rw [plD_len]; unfold vlD; rw [List.length_map]) (by rw [plD_len]; have := (unkP_len secrets first ask lK).2; omega) (fun j hj => by rw [plD_len] at hj; rw [plD_nth _ hj]; exact HOK.out.pl j hj) (fun j hj => by rw [plD_len] at hj; rw [vlD_nth _ hj]; exact HOK.out.vl j hj) (HPX.out k hk) (by rw [plD_unk]; exact plB_apart g0 g4 n4 nl _)
        rw [hQQ]; exact this)
      clear SF hFS hFX hFT hQQ g0 g4 nl E1 E2 E3 HPL HPD HPY HPN HNO HYES HC1 HC2 HCL HC0 HP0 HSB
      have S0 := Lib.hid (show S3 wo wo.heap.size ask (.slice none 0 0) (.slice none 0 0) (.slice none 0 0) [] [] [] (wo.alloc (.cells #[.slice none 0 0, .int .i64 ask, .slice none 0 0, .slice none 0 0] 75)) from ⟨below_grow _ _, Nat.le_refl _, Box.made wo _ _, World.ownsRow_nil _ _ _ _, World.ownsRow_nil _ _ _ _, World.ownsRow_nil _ _ _ _, fun k hk => by simp [Value.ownBlock] at hk, fun k hk => by simp [Value.ownBlock] at hk, fun k hk => by simp [Value.ownBlock] at hk⟩)
      have FB := Lib.hid (show ∀ w', Below wo.heap.size wo w' → (Ints w' pv (plD (unkP secrets first ask lK)) ∧ Ints w' vv (vlD (unkP secrets first ask lK))) ∧ Box w' w.heap.size [.slice none 0 0, .int .i64 0, .slice none 0 0, .slice none 0 0] ∧ Below w.heap.size w w' from fun w' hb => ⟨⟨Ints.of_own (own_below hS.out.p hb) (by rw [plD_len]; have := (unkP_len secrets first ask lK).2; unfold maxLen; omega), Ints.of_own (own_below hS.out.v hb) (by unfold vlD; rw [List.length_map]; have := (unkP_len secrets first ask lK).2; unfold maxLen; omega)⟩, ZB.out _ (Below.on hS.out.bl hb)⟩)
      have hwo : W0.heap.size ≤ wo.heap.size := hS.out.bl.size
      clear hS
      go_wp2
      go_loopw [21] (fun i wr => ∃ (j : Nat) (sv xv tv : Value), j ≤ lK ∧ i = .int .i64 j ∧ Hid (S3 wo wo.heap.size ask sv xv tv (mapTo FS j) (mapTo FX j) (mapTo FT j) wr)) (fun i _ => lK - (intOf i).toNat)
      case atStart => exact ⟨0, _, _, _, by omega, rfl, by rw [HM0.out, HM0.out, HM0.out]; exact S0⟩
      case round =>
        clear S0
        obtain ⟨j, sv, xv, tv, hj, rfl, hS⟩ := hrel
        obtain ⟨wi, rfl⟩ : ∃ wi : World, wi = wr := ⟨_, rfl⟩
        by_cases hjn : j < lK
        · have hj1 : (j : Int) < (lK : Int) := by omega
          obtain ⟨E1, E2, E3⟩ := HE.out
          have hx1 : (j : Int) < (lS : Int) := by omega
          have hx2 : (j : Int) < (lF : Int) := by omega
          have hx3 : (j : Int) < (lG : Int) := by omega
          obtain ⟨X, rfl, hc⟩ := HCS.out j (by omega)
          have HHS := Lib.hid hc
          clear hc
          obtain ⟨YK, rfl, hdK⟩ := HCK.out j (by omega)
          obtain ⟨YF, rfl, hdF⟩ := HCF.out j (by omega)
          obtain ⟨YG, rfl, hdG⟩ := HCG.out j (by omega)
          have HDK := Lib.hid hdK; have HDF := Lib.hid hdF; have HDG := Lib.hid hdG
          clear hdK hdF hdG E1 E2 E3
          by_cases hu : nth secrets j = -1
          · have hge : ¬ nth secrets j ≥ 0 := by omega
            obtain ⟨u1, u2, u3⟩ := HMU.out j hu
            have HU1 := Lib.hid u1; have HU2 := Lib.hid u2; have HU3 := Lib.hid u3
            clear u1 u2 u3 hu
            have HMD := Lib.hid (show ∀ w' : World, Calls Tryd.prog 99 #[.int .i64 g, .int .i64 (nth keys j), .int .i64 (nth first j), .int .i64 (nth second j)] w' fun e w'' => e = .returned (.tuple #[.agg #[.int .i64 (FS j), .int .i64 (FX j), .int .i64 (FT j)], .bool true]) ∧ Below w'.heap.size w' w'' from fun w' => (smade_yes g _ _ _ w' (HEK.out j (by omega)) (HEF.out j (by omega)) (HEG.out j (by omega))).mono fun e _ h => ⟨h.1.trans (by rw [HU1.out, HU2.out, HU3.out]), h.2⟩)
            go_upto_region 23 with (fail)
            apply wp_region_H (Z := Option (Nat × Bool)) (S := fun k => k == 17 || k == 18) (C := fun z w' => Hid (Tr wi [.int .i64 0, .int .i64 0, .int .i64 0] [.int .i64 (FS j), .int .i64 (FX j), .int .i64 (FT j)] z w')) [0, 1, 2, 3, 4, 5, 6, 7, 8, 9, 10, 11, 12, 13, 14, 15, 16] none
            · kernel_rfl
            · kernel_rfl
            · kernel_rfl
            · exact ⟨rfl, rfl, rfl, rfl, rfl, rfl, rfl, rfl, rfl, rfl, rfl, rfl, rfl, rfl, rfl, rfl, rfl, trivial⟩
            · rfl
            · decide
            · exact Lib.hid ⟨(Below.refl _ _).drew, fun _ _ e => by cases e⟩
            · intro z
              dsimp only [pickL, nthO]
              repeat (first | go_big_quiet_skip | (go_big_quiet_want; go_big_quiet_op; first | go_big_quiet_on | (refine ⟨_, fun _ _ => rfl, ?_⟩; go_big_quiet_on)))
              go_big_quiet_want
              go_big_quiet_op
              refine ⟨.int .i64 (nth keys j), fun w' hw' => ?_, ?_⟩
              · have q0 := HDK.out _ (FB.out _ (Below.on hS.out.bl hw'.out.bl)).2.2
                simp [go_sem, q0]
              go_big_quiet_on
              repeat (first | go_big_quiet_skip | (go_big_quiet_want; go_big_quiet_op; first | go_big_quiet_on | (refine ⟨_, fun _ _ => rfl, ?_⟩; go_big_quiet_on)))
              go_big_quiet_want
              go_big_quiet_op
              refine ⟨.int .i64 (nth first j), fun w' hw' => ?_, ?_⟩
              · have q0 := HDF.out _ (FB.out _ (Below.on hS.out.bl hw'.out.bl)).2.2
                simp [go_sem, q0]
              go_big_quiet_on
              repeat (first | go_big_quiet_skip | (go_big_quiet_want; go_big_quiet_op; first | go_big_quiet_on | (refine ⟨_, fun _ _ => rfl, ?_⟩; go_big_quiet_on)))
              go_big_quiet_want
              go_big_quiet_op
              refine ⟨.int .i64 (nth second j), fun w' hw' => ?_, ?_⟩
              · have q0 := HDG.out _ (FB.out _ (Below.on hS.out.bl hw'.out.bl)).2.2
                simp [go_sem, q0]
              go_big_quiet_on
              repeat (first | go_big_quiet_skip | (go_big_quiet_want; go_big_quiet_op; first | go_big_quiet_on | (refine ⟨_, fun _ _ => rfl, ?_⟩; go_big_quiet_on)))
              go_big_quiet_want
              go_big_quiet_op
              go_big_quiet_call ((intro hw; exact (HMD.out _).mono fun _ _ ⟨he, hb⟩ => ⟨he, Lib.hid (hw.out.on hb)⟩))
              repeat (first | go_big_quiet_skip | (go_big_quiet_want; go_big_quiet_op; first | go_big_quiet_on | (refine ⟨_, fun _ _ => rfl, ?_⟩; go_big_quiet_on)))
              exact wpQuiet_nil rfl
            · skip
              refine wpAnyH_special (i := 17) (d := some 22) rfl (by kernel_rfl) rfl rfl (by kernel_rfl) fun wa ha0 => ?_
              refine ⟨.pointer (some ⟨wa.heap.size, 0, none⟩), wa.alloc (.cells #[.int .i64 0, .int .i64 0, .int .i64 0] 84), some (wa.heap.size, false), .inl ?_, Lib.hid ha0.out.made, ?_⟩
              · kernel_rfl
              refine wpAnyH_special (i := 18) (d := none) rfl (by kernel_rfl) rfl rfl (by kernel_rfl) fun we he => ?_
              obtain ⟨hM0, hMB⟩ := he.out.m _ _ rfl
              have r0 := hMB.cell 0; have r1 := hMB.cell 1; have r2 := hMB.cell 2; have f0 := hMB.frozen 0; have f1 := hMB.frozen 1; have f2 := hMB.frozen 2
              simp at r0 r1 r2
              refine ⟨undef, st3 we wa.heap.size (.int .i64 (FS j)) (.int .i64 (FX j)) (.int .i64 (FT j)), some (wa.heap.size, true), .inr ⟨by simp [go_sem, Act.put, st3, r0, r1, r2, f0, f1, f2], rfl⟩, Lib.hid he.out.put, ?_⟩
              clear he r0 r1 r2 f0 f1 f2 hMB hM0 ha0
              refine wpAnyH_take (i := 19) (d := some 23) (.bool true) rfl (by kernel_rfl) rfl rfl (by kernel_rfl) (by kernel_rfl) (by kernel_rfl) (fun _ => by kernel_rfl) ?_
              refine ⟨by kernel_rfl, fun w5 hz => ?_⟩
              obtain ⟨hM0, hMB⟩ := hz.out.m _ _ rfl
              have hbl := hz.out.bl
              obtain ⟨M, hMM⟩ : ∃ M, wa.heap.size = M := ⟨_, rfl⟩
              simp only [Act.put, List.setIfInBounds_toArray, List.set_cons_zero, List.set_cons_succ]
              rw [hMM] at hM0 hMB ⊢
              clear hz hMM
              have HMB := Lib.hid hMB
              simp at HMB
              have HBL := Lib.hid hbl
              have c5 := HHS.out _ (FB.out _ (Below.on hS.out.bl hbl)).2.2
              clear hMB hbl
              have S5 := Lib.hid (hS.out.on HBL.out)
              have M5 := HMB
              have hM : M < w5.heap.size := HMB.out.lt
              have hNM : wo.heap.size < M := by have := hS.out.box.lt; omega
              have LB := Lib.hid (show (∀ k, sv.ownBlock = some k → k < M) ∧ (∀ k, xv.ownBlock = some k → k < M) ∧ (∀ k, tv.ownBlock = some k → k < M) from ⟨fun k h => by have := (hS.out.s.lt k h).2; omega, fun k h => by have := (hS.out.x.lt k h).2; omega, fun k h => by have := (hS.out.t.lt k h).2; omega⟩)
              clear hS HMB HBL
              have a0 := S5.out.box.cell 0
              have g0_ := S5.out.box.frozen 0
              have m0 := M5.out.cell 0
              simp at a0 m0
              have ov := S5.out.s
              have hbs := S5.out.bl.size
              have hbx := S5.out.box.lt
              go_upto_region 27 with (at_builtin; refine wpAppInt rfl _ _ rfl rfl ov (by rw [HMLS.out]; omega) (by omega) rfl ?_)
              intro v6 w6 o6 g6 k6
              rw [← HMS.out] at o6
              obtain ⟨A6, C6, e6⟩ := Own.form o6
              rw [HMLS.out] at e6
              subst e6
              have hb8 : (w6.heap[wo.heap.size]?) = (w5.heap[wo.heap.size]?) := g6.block _ hbx fun e => by have := (ov.lt _ e.symm).1; omega
              have ax := (box_same S5.out.box hb8).cell 0
              have fx := (box_same S5.out.box hb8).frozen 0
              simp at ax
              have S6 := Lib.hid (S3.say (y := _) S5.out (by rw [HMS.out] at o6; exact o6) g6 k6)
              have M6 := Lib.hid (keep_talk (N := wo.heap.size) (j := 0) (v' := (.slice A6 (j + 1) C6)) M5.out g6 LB.out.1 (by omega))
              rw [← HMS.out] at S6
              clear o6 g6 k6 ov a0 g0_ m0 hbs hbx hb8 c5
              go_upto_region 27 with (fail)
              obtain ⟨y6, hy6⟩ : ∃ y, y = w6.setCell ⟨wo.heap.size, 0, none⟩ (.slice A6 (j + 1) C6) := ⟨_, rfl⟩
              rw [← hy6] at S6 M6 ⊢
              clear hy6 ax fx
              have a0 := S6.out.box.cell 2
              have g0_ := S6.out.box.frozen 2
              have m0 := M6.out.cell 1
              simp at a0 m0
              have ov := S6.out.x
              have hbs := S6.out.bl.size
              have hbx := S6.out.box.lt
              go_upto_region 28 with (at_builtin; refine wpAppInt rfl _ _ rfl rfl ov (by rw [HMLX.out]; omega) (by omega) rfl ?_)
              intro v7 w7 o7 g7 k7
              rw [← HMX.out] at o7
              obtain ⟨A7, C7, e7⟩ := Own.form o7
              rw [HMLX.out] at e7
              subst e7
              have hb8 : (w7.heap[wo.heap.size]?) = (y6.heap[wo.heap.size]?) := g7.block _ hbx fun e => by have := (ov.lt _ e.symm).1; omega
              have ax := (box_same S6.out.box hb8).cell 2
              have fx := (box_same S6.out.box hb8).frozen 2
              simp at ax
              have S7 := Lib.hid (S3.ask (y := _) S6.out (by rw [HMX.out] at o7; exact o7) g7 k7)
              have M7 := Lib.hid (keep_talk (N := wo.heap.size) (j := 2) (v' := (.slice A7 (j + 1) C7)) M6.out g7 LB.out.2.1 (by omega))
              rw [← HMX.out] at S7
              clear o7 g7 k7 ov a0 g0_ m0 hbs hbx hb8
              go_upto_region 28 with (fail)
              obtain ⟨y7, hy7⟩ : ∃ y, y = w7.setCell ⟨wo.heap.size, 2, none⟩ (.slice A7 (j + 1) C7) := ⟨_, rfl⟩
              rw [← hy7] at S7 M7 ⊢
              clear hy7 ax fx
              have a0 := S7.out.box.cell 3
              have g0_ := S7.out.box.frozen 3
              have m0 := M7.out.cell 2
              simp at a0 m0
              have ov := S7.out.t
              have hbs := S7.out.bl.size
              have hbx := S7.out.box.lt
              go_wp2_with (at_builtin; refine wpAppInt rfl _ _ rfl rfl ov (by rw [HMLT.out]; omega) (by omega) rfl ?_)
              intro v8 w8 o8 g8 k8
              rw [← HMT.out] at o8
              obtain ⟨A8, C8, e8⟩ := Own.form o8
              rw [HMLT.out] at e8
              subst e8
              have hb8 : (w8.heap[wo.heap.size]?) = (y7.heap[wo.heap.size]?) := g8.block _ hbx fun e => by have := (ov.lt _ e.symm).1; omega
              have ax := (box_same S7.out.box hb8).cell 3
              have fx := (box_same S7.out.box hb8).frozen 3
              simp at ax
              have S8 := Lib.hid (S3.tell (y := _) S7.out (by rw [HMT.out] at o8; exact o8) g8 k8)
              have M8 := Lib.hid (keep_talk (N := wo.heap.size) (j := 3) (v' := (.slice A8 (j + 1) C8)) M7.out g8 LB.out.2.2 (by omega))
              rw [← HMT.out] at S8
              clear o8 g8 k8 ov a0 g0_ m0 hbs hbx hb8
              go_wp2
              go_roundw
              case rel => exact ⟨j + 1, _, _, _, by omega, by go_num, S8⟩
              case measure => simp [intOf]; omega
          · obtain ⟨u1, u2, u3⟩ := HMK.out j hu
            have HV1 := Lib.hid u1; have HV2 := Lib.hid u2; have HV3 := Lib.hid u3
            have HSX := Lib.hid (HES.out j (by omega) hu)
            have hge : nth secrets j ≥ 0 := (exB_true.1 HSX.out).2.1
            obtain ⟨U1, hU1⟩ : ∃ y, sayUp g (nth keys j) (nth first j) (nth second j) = y := ⟨_, rfl⟩
            obtain ⟨U2, hU2⟩ : ∃ y, nth first j = y := ⟨_, rfl⟩
            obtain ⟨U3, hU3⟩ : ∃ y, nth second j = y := ⟨_, rfl⟩
            have HU1 := Lib.hid hU1; have HU2 := Lib.hid hU2; have HU3 := Lib.hid hU3
            clear u1 u2 u3 hu hU1 hU2 hU3
            have HMD := Lib.hid (show ∀ w' : World, Calls Tryd.prog 99 #[.int .i64 g, .int .i64 (nth keys j), .int .i64 (nth first j), .int .i64 (nth second j)] w' fun e w'' => e = .returned (.tuple #[.agg #[.int .i64 U1, .int .i64 U2, .int .i64 U3], .bool true]) ∧ Below w'.heap.size w' w'' from fun w' => (smade_yes g _ _ _ w' (HEK.out j (by omega)) (HEF.out j (by omega)) (HEG.out j (by omega))).mono fun e _ h => ⟨h.1.trans (by rw [HU1.out, HU2.out, HU3.out]), h.2⟩)
            go_upto_region 23 with (fail)
            apply wp_region_H (Z := Option (Nat × Bool)) (S := fun k => k == 17 || k == 18) (C := fun z w' => Hid (Tr wi [.int .i64 0, .int .i64 0, .int .i64 0] [.int .i64 U1, .int .i64 U2, .int .i64 U3] z w')) [0, 1, 2, 3, 4, 5, 6, 7, 8, 9, 10, 11, 12, 13, 14, 15, 16] none
            · kernel_rfl
            · kernel_rfl
            · kernel_rfl
            · exact ⟨rfl, rfl, rfl, rfl, rfl, rfl, rfl, rfl, rfl, rfl, rfl, rfl, rfl, rfl, rfl, rfl, rfl, trivial⟩
            · rfl
            · decide
            · exact Lib.hid ⟨(Below.refl _ _).drew, fun _ _ e => by cases e⟩
            · intro z
              dsimp only [pickL, nthO]
              repeat (first | go_big_quiet_skip | (go_big_quiet_want; go_big_quiet_op; first | go_big_quiet_on | (refine ⟨_, fun _ _ => rfl, ?_⟩; go_big_quiet_on)))
              go_big_quiet_want
              go_big_quiet_op
              refine ⟨.int .i64 (nth keys j), fun w' hw' => ?_, ?_⟩
              · have q0 := HDK.out _ (FB.out _ (Below.on hS.out.bl hw'.out.bl)).2.2
                simp [go_sem, q0]
              go_big_quiet_on
              repeat (first | go_big_quiet_skip | (go_big_quiet_want; go_big_quiet_op; first | go_big_quiet_on | (refine ⟨_, fun _ _ => rfl, ?_⟩; go_big_quiet_on)))
              go_big_quiet_want
              go_big_quiet_op
              refine ⟨.int .i64 (nth first j), fun w' hw' => ?_, ?_⟩
              · have q0 := HDF.out _ (FB.out _ (Below.on hS.out.bl hw'.out.bl)).2.2
                simp [go_sem, q0]
              go_big_quiet_on
              repeat (first | go_big_quiet_skip | (go_big_quiet_want; go_big_quiet_op; first | go_big_quiet_on | (refine ⟨_, fun _ _ => rfl, ?_⟩; go_big_quiet_on)))
              go_big_quiet_want
              go_big_quiet_op
              refine ⟨.int .i64 (nth second j), fun w' hw' => ?_, ?_⟩
              · have q0 := HDG.out _ (FB.out _ (Below.on hS.out.bl hw'.out.bl)).2.2
                simp [go_sem, q0]
              go_big_quiet_on
              repeat (first | go_big_quiet_skip | (go_big_quiet_want; go_big_quiet_op; first | go_big_quiet_on | (refine ⟨_, fun _ _ => rfl, ?_⟩; go_big_quiet_on)))
              go_big_quiet_want
              go_big_quiet_op
              go_big_quiet_call ((intro hw; exact (HMD.out _).mono fun _ _ ⟨he, hb⟩ => ⟨he, Lib.hid (hw.out.on hb)⟩))
              repeat (first | go_big_quiet_skip | (go_big_quiet_want; go_big_quiet_op; first | go_big_quiet_on | (refine ⟨_, fun _ _ => rfl, ?_⟩; go_big_quiet_on)))
              exact wpQuiet_nil rfl
            · skip
              refine wpAnyH_special (i := 17) (d := some 22) rfl (by kernel_rfl) rfl rfl (by kernel_rfl) fun wa ha0 => ?_
              refine ⟨.pointer (some ⟨wa.heap.size, 0, none⟩), wa.alloc (.cells #[.int .i64 0, .int .i64 0, .int .i64 0] 84), some (wa.heap.size, false), .inl ?_, Lib.hid ha0.out.made, ?_⟩
              · kernel_rfl
              refine wpAnyH_special (i := 18) (d := none) rfl (by kernel_rfl) rfl rfl (by kernel_rfl) fun we he => ?_
              obtain ⟨hM0, hMB⟩ := he.out.m _ _ rfl
              have r0 := hMB.cell 0; have r1 := hMB.cell 1; have r2 := hMB.cell 2; have f0 := hMB.frozen 0; have f1 := hMB.frozen 1; have f2 := hMB.frozen 2
              simp at r0 r1 r2
              refine ⟨undef, st3 we wa.heap.size (.int .i64 U1) (.int .i64 U2) (.int .i64 U3), some (wa.heap.size, true), .inr ⟨by simp [go_sem, Act.put, st3, r0, r1, r2, f0, f1, f2], rfl⟩, Lib.hid he.out.put, ?_⟩
              clear he r0 r1 r2 f0 f1 f2 hMB hM0 ha0
              refine wpAnyH_take (i := 19) (d := some 23) (.bool true) rfl (by kernel_rfl) rfl rfl (by kernel_rfl) (by kernel_rfl) (by kernel_rfl) (fun _ => by kernel_rfl) ?_
              refine ⟨by kernel_rfl, fun w5 hz => ?_⟩
              obtain ⟨hM0, hMB⟩ := hz.out.m _ _ rfl
              have hbl := hz.out.bl
              obtain ⟨M, hMM⟩ : ∃ M, wa.heap.size = M := ⟨_, rfl⟩
              simp only [Act.put, List.setIfInBounds_toArray, List.set_cons_zero, List.set_cons_succ]
              rw [hMM] at hM0 hMB ⊢
              clear hz hMM
              have HMB := Lib.hid hMB
              simp at HMB
              have HBL := Lib.hid hbl
              have c5 := HHS.out _ (FB.out _ (Below.on hS.out.bl hbl)).2.2
              clear hMB hbl
              have Q0 : Hid (Tq wi M [.int .i64 U1, .int .i64 U2, .int .i64 U3] [.int .i64 (FS j), .int .i64 (FX j), .int .i64 (FT j)] false w5) := Lib.hid ⟨HBL.out, hM0, HMB.out⟩
              go_upto_region 25 with (fail)
              clear HMB HBL c5
              apply wp_region_H (Z := Bool) (S := fun k => k == 14 || k == 15 || k == 19) (C := fun z w' => Hid (Tq wi M [.int .i64 U1, .int .i64 U2, .int .i64 U3] [.int .i64 (FS j), .int .i64 (FX j), .int .i64 (FT j)] z w')) [0, 1, 2, 3, 4, 5, 6, 7, 8, 9, 10, 11, 12, 13] false
              · kernel_rfl
              · kernel_rfl
              · kernel_rfl
              · exact ⟨rfl, rfl, rfl, rfl, rfl, rfl, rfl, rfl, rfl, rfl, rfl, rfl, rfl, rfl, trivial⟩
              · rfl
              · decide
              · exact Lib.hid (Q0.out.on (Below.refl _ _).drew)
              · intro z
                dsimp only [pickL, nthO]
                repeat (first | go_big_quiet_skip | (go_big_quiet_want; go_big_quiet_op; first | go_big_quiet_on | (refine ⟨_, fun _ _ => rfl, ?_⟩; go_big_quiet_on)))
                go_big_quiet_want
                go_big_quiet_op
                refine ⟨.int .i64 (nth secrets j), fun w' hw' => ?_, ?_⟩
                · have q0 := HHS.out _ (FB.out _ (Below.on hS.out.bl hw'.out.bl)).2.2
                  simp [go_sem, q0]
                go_big_quiet_on
                repeat (first | go_big_quiet_skip | (go_big_quiet_want; go_big_quiet_op; first | go_big_quiet_on | (refine ⟨_, fun _ _ => rfl, ?_⟩; go_big_quiet_on)))
                go_big_quiet_want
                go_big_quiet_op
                refine ⟨.int .i64 (nth first j), fun w' hw' => ?_, ?_⟩
                · have q0 := HDF.out _ (FB.out _ (Below.on hS.out.bl hw'.out.bl)).2.2
                  simp [go_sem, q0]
                go_big_quiet_on
                repeat (first | go_big_quiet_skip | (go_big_quiet_want; go_big_quiet_op; first | go_big_quiet_on | (refine ⟨_, fun _ _ => rfl, ?_⟩; go_big_quiet_on)))
                exact wpQuiet_nil rfl
              · skip
                refine wpAnyH_call (i := 14) (d := some 170) 101 #[.int .i64 g, pv, vv, .int .i64 ((j : Int) + 1)] rfl (by kernel_rfl) rfl rfl (by kernel_rfl) (fun _ => by kernel_rfl) fun wa hc => ?_
                refine (HAT.out j _ (by omega) (FB.out _ (Below.on hS.out.bl hc.out.bl)).1.1 (FB.out _ (Below.on hS.out.bl hc.out.bl)).1.2).mono ?_
                rintro e wb ⟨rfl, hb⟩
                refine ⟨_, rfl, false, Lib.hid (hc.out.on hb), ?_⟩
                clear hb hc
                refine wpAnyH_call (i := 15) (d := some 171) 100 #[.int .i64 g, .int .i64 (nth secrets j), .int .i64 (nth first j), .int .i64 (QQ j)] rfl (by kernel_rfl) rfl rfl (by kernel_rfl) (fun _ => by kernel_rfl) fun wa hc => ?_
                refine (stalk_yes g _ _ _ _ HSX.out (HEF.out j (by omega)) (HQX.out j)).mono ?_
                rintro e wb ⟨rfl, hb⟩
                refine ⟨.tuple #[.agg #[.int .i64 (FS j), .int .i64 (FX j), .int .i64 (FT j)], .bool true], by rw [HV1.out, ← HV2.out, HV3.out], false, Lib.hid (hc.out.on hb), ?_⟩
                clear hb hc
                refine wpAnyH_take (i := 16) (d := some 155) (.tuple #[.agg #[.int .i64 (FS j), .int .i64 (FX j), .int .i64 (FT j)], .bool true]) rfl (by kernel_rfl) rfl rfl (by kernel_rfl) (by kernel_rfl) (by kernel_rfl) (fun _ => by kernel_rfl) ?_
                refine wpAnyH_take (i := 17) (d := some 172) (.agg #[.int .i64 (FS j), .int .i64 (FX j), .int .i64 (FT j)]) rfl (by kernel_rfl) rfl rfl (by kernel_rfl) (by kernel_rfl) (by kernel_rfl) (fun _ => by kernel_rfl) ?_
                refine wpAnyH_take (i := 18) (d := some 173) (.bool true) rfl (by kernel_rfl) rfl rfl (by kernel_rfl) (by kernel_rfl) (by kernel_rfl) (fun _ => by kernel_rfl) ?_
                refine wpAnyH_special (i := 19) (d := none) rfl (by kernel_rfl) rfl rfl (by kernel_rfl) fun we he => ?_
                have r0 := he.out.box.cell 0; have r1 := he.out.box.cell 1; have r2 := he.out.box.cell 2; have f0 := he.out.box.frozen 0; have f1 := he.out.box.frozen 1; have f2 := he.out.box.frozen 2
                simp at r0 r1 r2
                refine ⟨undef, st3 we M (.int .i64 (FS j)) (.int .i64 (FX j)) (.int .i64 (FT j)), true, .inr ⟨by simp [go_sem, Act.put, st3, r0, r1, r2, f0, f1, f2], rfl⟩, Lib.hid he.out.put, ?_⟩
                clear he r0 r1 r2 f0 f1 f2
                refine ⟨by kernel_rfl, fun w9 hz => ?_⟩
                simp only [Act.put, List.setIfInBounds_toArray, List.set_cons_zero, List.set_cons_succ]
                obtain ⟨w5, rfl⟩ : ∃ v, v = w9 := ⟨_, rfl⟩
                have HBL := Lib.hid hz.out.bl
                have HMB := Lib.hid hz.out.box
                simp at HMB
                have c5 := hge
                clear hz Q0
                have S5 := Lib.hid (hS.out.on HBL.out)
                have M5 := HMB
                have hM : M < w5.heap.size := HMB.out.lt
                have hNM : wo.heap.size < M := by have := hS.out.box.lt; omega
                have LB := Lib.hid (show (∀ k, sv.ownBlock = some k → k < M) ∧ (∀ k, xv.ownBlock = some k → k < M) ∧ (∀ k, tv.ownBlock = some k → k < M) from ⟨fun k h => by have := (hS.out.s.lt k h).2; omega, fun k h => by have := (hS.out.x.lt k h).2; omega, fun k h => by have := (hS.out.t.lt k h).2; omega⟩)
                clear hS HMB HBL
                have a0 := S5.out.box.cell 0
                have g0_ := S5.out.box.frozen 0
                have m0 := M5.out.cell 0
                simp at a0 m0
                have ov := S5.out.s
                have hbs := S5.out.bl.size
                have hbx := S5.out.box.lt
                go_upto_region 27 with (at_builtin; refine wpAppInt rfl _ _ rfl rfl ov (by rw [HMLS.out]; omega) (by omega) rfl ?_)
                intro v6 w6 o6 g6 k6
                rw [← HMS.out] at o6
                obtain ⟨A6, C6, e6⟩ := Own.form o6
                rw [HMLS.out] at e6
                subst e6
                have hb8 : (w6.heap[wo.heap.size]?) = (w5.heap[wo.heap.size]?) := g6.block _ hbx fun e => by have := (ov.lt _ e.symm).1; omega
                have ax := (box_same S5.out.box hb8).cell 0
                have fx := (box_same S5.out.box hb8).frozen 0
                simp at ax
                have S6 := Lib.hid (S3.say (y := _) S5.out (by rw [HMS.out] at o6; exact o6) g6 k6)
                have M6 := Lib.hid (keep_talk (N := wo.heap.size) (j := 0) (v' := (.slice A6 (j + 1) C6)) M5.out g6 LB.out.1 (by omega))
                rw [← HMS.out] at S6
                clear o6 g6 k6 ov a0 g0_ m0 hbs hbx hb8 c5
                go_upto_region 27 with (fail)
                obtain ⟨y6, hy6⟩ : ∃ y, y = w6.setCell ⟨wo.heap.size, 0, none⟩ (.slice A6 (j + 1) C6) := ⟨_, rfl⟩
                rw [← hy6] at S6 M6 ⊢
                clear hy6 ax fx
                have a0 := S6.out.box.cell 2
                have g0_ := S6.out.box.frozen 2
                have m0 := M6.out.cell 1
                simp at a0 m0
                have ov := S6.out.x
                have hbs := S6.out.bl.size
                have hbx := S6.out.box.lt
                go_upto_region 28 with (at_builtin; refine wpAppInt rfl _ _ rfl rfl ov (by rw [HMLX.out]; omega) (by omega) rfl ?_)
                intro v7 w7 o7 g7 k7
                rw [← HMX.out] at o7
                obtain ⟨A7, C7, e7⟩ := Own.form o7
                rw [HMLX.out] at e7
                subst e7
                have hb8 : (w7.heap[wo.heap.size]?) = (y6.heap[wo.heap.size]?) := g7.block _ hbx fun e => by have := (ov.lt _ e.symm).1; omega
                have ax := (box_same S6.out.box hb8).cell 2
                have fx := (box_same S6.out.box hb8).frozen 2
                simp at ax
                have S7 := Lib.hid (S3.ask (y := _) S6.out (by rw [HMX.out] at o7; exact o7) g7 k7)
                have M7 := Lib.hid (keep_talk (N := wo.heap.size) (j := 2) (v' := (.slice A7 (j + 1) C7)) M6.out g7 LB.out.2.1 (by omega))
                rw [← HMX.out] at S7
                clear o7 g7 k7 ov a0 g0_ m0 hbs hbx hb8
                go_upto_region 28 with (fail)
                obtain ⟨y7, hy7⟩ : ∃ y, y = w7.setCell ⟨wo.heap.size, 2, none⟩ (.slice A7 (j + 1) C7) := ⟨_, rfl⟩
                rw [← hy7] at S7 M7 ⊢
                clear hy7 ax fx
                have a0 := S7.out.box.cell 3
                have g0_ := S7.out.box.frozen 3
                have m0 := M7.out.cell 2
                simp at a0 m0
                have ov := S7.out.t
                have hbs := S7.out.bl.size
                have hbx := S7.out.box.lt
                go_wp2_with (at_builtin; refine wpAppInt rfl _ _ rfl rfl ov (by rw [HMLT.out]; omega) (by omega) rfl ?_)
                intro v8 w8 o8 g8 k8
                rw [← HMT.out] at o8
                obtain ⟨A8, C8, e8⟩ := Own.form o8
                rw [HMLT.out] at e8
                subst e8
                have hb8 : (w8.heap[wo.heap.size]?) = (y7.heap[wo.heap.size]?) := g8.block _ hbx fun e => by have := (ov.lt _ e.symm).1; omega
                have ax := (box_same S7.out.box hb8).cell 3
                have fx := (box_same S7.out.box hb8).frozen 3
                simp at ax
                have S8 := Lib.hid (S3.tell (y := _) S7.out (by rw [HMT.out] at o8; exact o8) g8 k8)
                have M8 := Lib.hid (keep_talk (N := wo.heap.size) (j := 3) (v' := (.slice A8 (j + 1) C8)) M7.out g8 LB.out.2.2 (by omega))
                rw [← HMT.out] at S8
                clear o8 g8 k8 ov a0 g0_ m0 hbs hbx hb8
                go_wp2
                go_roundw
                case rel => exact ⟨j + 1, _, _, _, by omega, by go_num, S8⟩
                case measure => simp [intOf]; omega
        · obtain rfl : lK = j := by omega
          have hj1 : ¬ (lK : Int) < (lK : Int) := by omega
          obtain ⟨A1, C1, e1⟩ := Own.form hS.out.s
          obtain ⟨A2, C2, e2⟩ := Own.form hS.out.x
          obtain ⟨A3, C3, e3⟩ := Own.form hS.out.t
          rw [HMLS.out] at e1; rw [HMLX.out] at e2; rw [HMLT.out] at e3
          subst e1 e2 e3
          have zb := Lib.hid (FB.out _ hS.out.bl).2
          have z0 := zb.out.1.cell 0; have z1 := zb.out.1.cell 1; have z2 := zb.out.1.cell 2; have z3 := zb.out.1.cell 3; have f0 := zb.out.1.frozen 0; have f1 := zb.out.1.frozen 1; have f2 := zb.out.1.frozen 2; have f3 := zb.out.1.frozen 3
          have q0 := hS.out.box.cell 0; have q1 := hS.out.box.cell 1; have q2 := hS.out.box.cell 2; have q3 := hS.out.box.cell 3
          simp at z0 z1 z2 z3 q0 q1 q2 q3
          go_wp2
          refine bodyPost_ret (v := .tuple #[.agg #[.slice A1 lK C1, .int .i64 ask, .slice A2 lK C2, .slice A3 lK C3], .bool true]) ?_ rfl ?_
          · simp [results, Tryd.results82, go_sem, z0, z1, z2, z3]
          · refine ⟨_, _, _, by rw [HX.out]; rfl, ?_, ?_⟩
            · rw [HX.out, HRS.out, HRX.out, HRT.out]
              have hle := hS.out.n0
              have hw9 : w.heap.size + 1 ≤ wo.heap.size := by omega
              exact hS.out.fin (by omega) _ _ _ _
            · exact (((zb.out.2.setCell (Nat.le_refl _) _).setCell (Nat.le_refl _) _).setCell (Nat.le_refl _) _).setCell (Nat.le_refl _) _
end Go.Proofs.YtljekapbcphdaabDoor
