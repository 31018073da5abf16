/- DrY, DrD, DrE, DrF10, in one text. -/
import Derived.Test.YtiinifcepcaonaaDoorBDr
import Derived.Test.YtiinifcepcaonaaDoorBSol
import Derived.Test.YtiinifcepcaonaaDoorNtC
import Derived.Test.YtiinifcepcaonaaDoorRegionM
import Derived.Test.YtiinifcepcaonaaDoorDrTq
import Derived.Test.YtiinifcepcaonaaDoorBBrd
import Derived.Test.YtiinifcepcaonaaDoorTextT
import Derived.Test.YtiinifcepcaonaaDoorReadW
import Derived.Test.YtiinifcepcaonaaDoorBBdo
import Derived.Test.YtiinifcepcaonaaDoorBnwI
/- Within a region that draws its order: the reader, what there was before, and what the region made. -/
namespace Go.Proofs.YtiinifcepcaonaaDoor
open Go.RowKit

structure Dy (w wB : World) (R : Nat) (B0 : List (Nat × List Value)) (L0 : List (Value × List Int)) (z : Nat × List (Nat × List Value) × List (Value × List Int)) (w' : World) : Prop where
  dx : Dx w R (z.2.1 ++ B0) (z.2.2 ++ L0) z.1 w'
  nw : ∀ b, b ∈ z.2.1 → wB.heap.size ≤ b.1
  lt : ∀ b, b ∈ B0 → b.1 < wB.heap.size
  gs : wB.heap.size ≤ w'.heap.size
section
variable {w wB w' w'' : World} {R k : Nat} {B0 EB : List (Nat × List Value)} {L0 EL : List (Value × List Int)}
theorem Dy.start (h : Dx w R B0 L0 k wB) : Dy w wB R B0 L0 (k, [], []) wB.drew :=
  ⟨h.on (Below.refl _ _).drew, fun b m => (by cases m), fun b m => (h.bx b m).2.lt, Nat.le_refl _⟩
theorem Dy.from {N : Nat} {cs : List Value} (h : Dx w R ((N, cs) :: B0) L0 k w') (h1 : wB.heap.size ≤ N) (h2 : ∀ b, b ∈ B0 → b.1 < wB.heap.size) (h3 : wB.heap.size ≤ w'.heap.size) : Dy w wB R B0 L0 (k, [(N, cs)], []) w'.drew :=
  ⟨h.on (Below.refl _ _).drew, fun b m => (by rcases List.mem_cons.1 m with rfl | m; exact h1; cases m), h2, h3⟩
theorem Dy.on {z : Nat × List (Nat × List Value) × List (Value × List Int)} (h : Dy w wB R B0 L0 z w') (hb : Below w'.heap.size w' w'') : Dy w wB R B0 L0 z w'' := ⟨h.dx.on hb, h.nw, h.lt, Nat.le_trans h.gs hb.size⟩
theorem Dy.next {m : Nat} (h : Dy w wB R B0 L0 (k, EB, EL) w') (e : w'' = (w'.setCell ⟨R, 1, none⟩ (.int .i64 ((k : Int) + 1))).drewN m) : Dy w wB R B0 L0 (k + 1, EB, EL) w'' := by
  have hz : w''.heap.size = w'.heap.size := by rw [e]; simp [World.setCell, World.drewN]
  exact ⟨h.dx.next e, h.nw, h.lt, by have := h.gs; omega⟩
theorem Dy.box {T : TypeId} (h : Dy w wB R B0 L0 (k, [], EL) w') (cs : List Value) : Dy w wB R B0 L0 (k, [(w'.heap.size, cs)], EL) (w'.alloc (.cells cs.toArray T)) :=
  ⟨h.dx.box cs, fun b m => (by rcases List.mem_cons.1 m with rfl | m; exact h.gs; cases m), h.lt, Nat.le_trans h.gs (below_grow w' _).size⟩
theorem Dy.build (h : Dy w wB R B0 L0 (k, EB, []) w') (xs : List Int) (hl : xs.length ≤ 1000) : Dy w wB R B0 L0 (k, EB, [(.slice (some ⟨w'.heap.size, 0, none⟩) xs.length xs.length, xs)]) (w'.alloc (.cells (xs.map (Value.int .i64)).toArray 3)) := by
  have hb := below_grow w' (.cells (xs.map (Value.int .i64)).toArray 3)
  have ho : Own (w'.alloc (.cells (xs.map (Value.int .i64)).toArray 3)) w'.heap.size (.slice (some ⟨w'.heap.size, 0, none⟩) xs.length xs.length) xs := by
    have h := World.ownsRow_lit (base := w'.heap.size) (e := 3) (size := 1) w' (xs.map (Value.int .i64)).toArray xs.length (Nat.le_refl _) (by unfold maxLen; omega) (by simp)
    exact h
  refine ⟨(h.dx.on hb).add ho h.dx.gr.size fun b m q hq => ?_, h.nw, h.lt, Nat.le_trans h.gs hb.size⟩
  have := (h.dx.bx b m).2.lt
  simp [Value.ownBlock] at hq
  omega
theorem Dy.put {N : Nat} {cs : List Value} (h : Dy w wB R B0 L0 (k, [(N, cs)], EL) w') (j : Nat) (v : Value) : Dy w wB R B0 L0 (k, [(N, cs.set j v)], EL) (w'.setCell ⟨N, j, none⟩ v) := by
  have hN := h.nw _ (.head _)
  refine ⟨h.dx.put (fun b m => by have := h.lt b m; show b.1 ≠ N; have : wB.heap.size ≤ N := hN; omega) j v, fun b m => ?_, h.lt, by simpa [World.setCell] using h.gs⟩
  rcases List.mem_cons.1 m with rfl | m
  · exact hN
  · cases m
theorem Dy.drop (h : Dy w wB R B0 L0 (k, EB, EL) w') : Dy w wB R B0 L0 (k, EB, []) w' := ⟨h.dx.sub (fun _ m => m) (fun _ m => List.mem_append_right _ m), h.nw, h.lt, h.gs⟩
theorem Dy.boxed {N : Nat} {cs : List Value} (h : Dy w wB R B0 L0 (k, [(N, cs)], EL) w') : Box w' N cs := (h.dx.bx _ (.head _)).2
theorem Dy.old {z : Nat × List (Nat × List Value) × List (Value × List Int)} (h : Dy w wB R B0 L0 z w') {b : Nat × List Value} (m : b ∈ B0) : Box w' b.1 b.2 := (h.dx.bx b (List.mem_append_right _ m)).2
theorem Dy.list {z : Nat × List (Nat × List Value) × List (Value × List Int)} (h : Dy w wB R B0 L0 z w') {x : Value × List Int} (m : x ∈ L0) : Own w' w.heap.size x.1 x.2 := h.dx.ls x (List.mem_append_right _ m)
end
theorem Dx.putAtB {w w' : World} {R k N : Nat} {B1 B2 : List (Nat × List Value)} {cs : List Value} {L : List (Value × List Int)} (h : Dx w R (B1 ++ (N, cs) :: B2) L k w') (hd : ∀ b, b ∈ B1 ++ B2 → b.1 ≠ N) (j : Nat) (v : Value) :
    Dx w R (B1 ++ (N, cs.set j v) :: B2) L k (w'.setCell ⟨N, j, none⟩ v) := by
  have h2 := (h.sub (Bs' := (N, cs) :: (B1 ++ B2)) (L' := L) (fun b m => by
    simp only [List.mem_cons, List.mem_append] at m ⊢
    rcases m with m | m | m <;> simp [m]) (fun x m => m)).put hd j v
  exact h2.sub (fun b m => by
    simp only [List.mem_cons, List.mem_append] at m ⊢
    rcases m with m | m | m <;> simp [m]) (fun x m => m)
section
variable {P : Program} {md : Region.Mode} {ops : Array Oper} {Z : Type} {C : Z → World → Prop} {S : Nat → Bool}
/-- An integer is taken, whatever it is. -/
theorem wpAnyH_takeI {L : List Oper} {Q : Z → Act → Prop} {fuel i : Nat} {listed : Array Bool} {z : Z} {a : Act} {oi : Oper} {d : Option Tmp} (hd : oi.dst = d) (hsel : Region.noSelect L.toArray = true) (hS : S i = false) (hi : L.toArray[i]? = some oi) (hw : Region.wanted oi (yielded L.toArray a.tmps) = true)
    (hr : (Region.ready md L.toArray listed).contains i = true) (hf : Region.free md L.toArray listed i = true) (hrun : ∃ x : Int, ∀ w, (execOp a.eval oi).run P w = .ok (.value (.int .i64 x)) w)
    (h : ∀ x : Int, wpAnyH P md L.toArray C S Q fuel (listed.setIfInBounds i true) z (a.put d (.int .i64 x))) : wpAnyH P md L.toArray C S Q (fuel + 1) listed z a := by
  obtain ⟨x, hx⟩ := hrun
  exact wpAnyH_take _ hd hsel hS hi hw hr hf hx (h x)
/-- Three operations may come up, all special. -/
theorem wpAnyH_three {Q : Z → Act → Prop} {fuel : Nat} {listed : Array Bool} {z : Z} {a : Act} (i j l : Nat) (hr : Region.ready md ops listed = [i, j, l])
    (h1 : hOp P ops C S z i (fun z' => wpAnyH P md ops C S Q fuel (listed.setIfInBounds i true) z') a) (h2 : hOp P ops C S z j (fun z' => wpAnyH P md ops C S Q fuel (listed.setIfInBounds j true) z') a)
    (h3 : hOp P ops C S z l (fun z' => wpAnyH P md ops C S Q fuel (listed.setIfInBounds l true) z') a) :
    wpAnyH P md ops C S Q (fuel + 1) listed z a :=
  ⟨fun h0 => (by rw [hr] at h0; cases h0), fun k hk => by
    rw [hr] at hk
    have : k = i ∨ k = j ∨ k = l := by simpa using hk
    rcases this with rfl | rfl | rfl
    · exact h1
    · exact h2
    · exact h3⟩
end
end Go.Proofs.YtiinifcepcaonaaDoor

/- Draws: l20Deed. -/
namespace Go.Proofs.YtiinifcepcaonaaDoor
open Go.RowKit

/-- spec.MadeUp, whatever its arguments: some talk, of bounded numbers, or nothing. -/
theorem smade_some (g key ask tell : Int) (w : World) : Calls Tryd.prog 86 #[.int .i64 g, .int .i64 key, .int .i64 ask, .int .i64 tell] w fun e w' => ∃ s a t : Int, ∃ b : Bool, e = .returned (.tuple #[.agg #[.int .i64 s, .int .i64 a, .int .i64 t], .bool b]) ∧ Below w.heap.size w w' := by
  by_cases h : elB g key = true ∧ exB g ask = true ∧ exB g tell = true
  · obtain ⟨h1, h2, h3⟩ := h
    exact (smade_yes g key ask tell w h1 h2 h3).mono fun _ _ ⟨he, hb⟩ => ⟨_, _, _, _, he, hb⟩
  · exact (smade_no g key ask tell w h).mono fun _ _ ⟨he, hb⟩ => ⟨_, _, _, _, he, hb⟩
def DeedPost (R k : Nat) (w : World) (e : Ending) (w' : World) : Prop :=
  ∃ kind num : Int, ∃ text : ByteArray, ∃ k', e = .returned (.agg #[.int .i64 kind, .int .i64 num, .string text]) ∧ text.size ≤ 20 ∧ k' ≤ k + 12 ∧ w.grownBy w' (some R) ∧ Rd w' R k'
theorem text_leB (g s a t : Int) : (textOf g s a t).size ≤ 8 := by
  cases hx : l2B g s a t
  · rw [text_none hx]; exact Nat.zero_le _
  · obtain ⟨hs, ha, ht⟩ := l2B_true.1 hx
    obtain ⟨s0, _, s1⟩ := elB_bound hs
    obtain ⟨⟨g0, g4⟩, a0, a1⟩ := exB_true.1 ha
    obtain ⟨_, t0, t1⟩ := exB_true.1 ht
    obtain ⟨o1, o2⟩ := ord_bd g0 g4
    have e2 : textOf g s a t = txt s.toNat a.toNat t.toNat := by unfold textOf; rw [hx]; rfl
    rw [e2]
    exact (txt_size (by omega) (by omega) (by omega)).1
def kindsL : List Int := [0, 0, 1, 1, 1, 1, 2]
theorem own_at {w : World} {B g n c : Nat} {xs : List Int} (h : Own w B (.slice (some ⟨g, 0, none⟩) n c) xs) (hn : xs.length = n) {j : Nat} (hj : j < n) : w.cell? ⟨g, j, none⟩ = some (.int .i64 (nth xs j)) := (Own.set h hn hj 0).1.2

set_option maxRecDepth 100000 in
set_option maxHeartbeats 6400000 in
theorem drdeed_any (R k : Nat) (g : Int) (v : Value) (ns : List Nt) (w : World) (h : Rd w R k) (hk : k ≤ 60000) (ho : OwnN w (R + 1) v ns) (hl : ns.length ≤ 1000) : Calls Tryd.prog 69 #[.pointer (some ⟨R, 0, none⟩), .agg #[.int .i64 g, v]] w (DeedPost R k w) := by
  obtain ⟨va, vc, rfl⟩ := OwnN.form ho
  obtain ⟨w1, hw1⟩ : ∃ z, z = (w.alloc (.cells #[.int .i64 g, .slice va ns.length vc] 29)).alloc (.cells #[.int .i64 0, .int .i64 0, .string ⟨#[]⟩] 87) := ⟨_, rfl⟩
  have D1 : Hid (Dx w R [(w.heap.size + 1, [.int .i64 0, .int .i64 0, .string ⟨#[]⟩]), (w.heap.size, [.int .i64 g, .slice va ns.length vc])] [] k w1) := Lib.hid (by
    rw [hw1]
    have h4 := ((Dx.start h).box (T := 29) [.int .i64 g, .slice va ns.length vc]).box (T := 87) [.int .i64 0, .int .i64 0, .string ⟨#[]⟩]
    simpa using h4)
  have HW1 := Lib.hid hw1
  have HO := Lib.hid ho
  clear h hw1 ho
  go_enter Tryd.func69, Tryd.ntmps69
  go_wp2_with fail
  rw [← HW1.out]
  apply wp_region_H (Z := Nat × List (Nat × List Value) × List (Value × List Int)) (S := fun k => k == 0 || k == 2 || k == 6 || k == 11 || k == 4 || k == 12) (C := fun z w' => Hid (Dy w w1 R [(w.heap.size + 1, [.int .i64 0, .int .i64 0, .string ⟨#[]⟩]), (w.heap.size, [.int .i64 g, .slice va ns.length vc])] [] z w')) [1, 5] (k, [], [])
  · kernel_rfl
  · kernel_rfl
  · kernel_rfl
  · exact ⟨rfl, rfl, trivial⟩
  · rfl
  · decide
  · exact Lib.hid (Dy.start D1.out)
  · intro z
    dsimp only [pickL, nthO]
    go_big_quiet_want; go_big_quiet_op; first | go_big_quiet_on | (refine ⟨_, fun _ _ => rfl, ?_⟩; go_big_quiet_on)
    go_big_quiet_want; go_big_quiet_op; first | go_big_quiet_on | (refine ⟨_, fun _ _ => rfl, ?_⟩; go_big_quiet_on)
    exact wpQuiet_nil rfl
  · skip
    refine wpAnyH_key (D := Nat × Nat × Int × Int × Int × Int × Nat × Int) (fun d => (k + 1 + 1, [(d.2.2.2.2.2.2.1, [.int .i64 d.2.2.2.2.2.1, .int .i64 0, .string ⟨#[]⟩])], [])) (fun d a => ((((((((((a.put (some 9) (.slice (some ⟨d.1, 0, none⟩) 7 7)).put (some 11) (.int .i64 (d.2.1 : Int))).put (some 12) (.pointer (some ⟨d.1, d.2.1, none⟩))).put (some 13) (.int .i64 d.2.2.2.2.2.2.2)).put (some 15) (.int .i64 d.2.2.1)).put (some 16) (.int .i64 d.2.2.2.1)).put (some 17) (.int .i64 d.2.2.2.2.1)).put (some 18) (.int .i64 d.2.2.2.2.2.1)).put (some 19) (.agg #[.int .i64 d.2.2.2.2.2.1, .int .i64 0, .string ⟨#[]⟩])).put (some 5) (.pointer (some ⟨d.2.2.2.2.2.2.1, 0, none⟩)))) ?_ ?_
    · skip
      refine wpAnyH_three 0 2 11 (by kernel_rfl) ?_ ?_ ?_
      · skip
        refine hOp_special (d := some 9) rfl rfl rfl (by kernel_rfl) fun wm hc => ⟨.slice (some ⟨wm.heap.size, 0, none⟩) 7 7, wm.alloc (.cells #[.int .i64 0, .int .i64 0, .int .i64 1, .int .i64 1, .int .i64 1, .int .i64 1, .int .i64 2] 3), (k, [], [(.slice (some ⟨wm.heap.size, 0, none⟩) 7 7, kindsL)]), by kernel_rfl, Lib.hid (hc.out.build kindsL (by decide)), ?_⟩
        clear hc
        refine wpAnyH_two 2 11 (by kernel_rfl) ?_ ?_
        · skip
          refine hOp_call 55 #[.pointer (some ⟨R, 0, none⟩), .int .i64 7] (d := some 11) rfl rfl rfl (by kernel_rfl) (fun _ => by kernel_rfl) fun wa2 hc => ?_
          refine (pick_any R (k) 7 wa2 hc.out.dx.rd (by omega)).mono ?_
          rintro e wb2 ⟨v2, rfl, lo2, hi2, m2, hw2⟩
          have hi2 := hi2 (by omega)
          obtain ⟨n2, rfl⟩ := Int.eq_ofNat_of_zero_le lo2
          refine ⟨_, rfl, (k + 1, [], [(.slice (some ⟨wm.heap.size, 0, none⟩) 7 7, kindsL)]), Lib.hid (hc.out.next hw2), ?_⟩
          clear hw2 hc
          refine wpAnyH_take (i := 3) (d := some 12) (.pointer (some ⟨wm.heap.size, n2, none⟩)) rfl (by kernel_rfl) rfl rfl (by kernel_rfl) (by kernel_rfl) (by kernel_rfl) (fun _ => by simp [go_sem]; omega) ?_
          refine wpAnyH_three 4 6 11 (by kernel_rfl) ?_ ?_ ?_
          · skip
            refine hOp_special (d := some 13) rfl rfl rfl (by kernel_rfl) fun wq4 hc => ⟨.int .i64 (nth kindsL n2), wq4, (k + 1, [], [(.slice (some ⟨wm.heap.size, 0, none⟩) 7 7, kindsL)]), by simp [go_sem, own_at (hc.out.dx.ls _ (.head _)) rfl (j := n2) (by omega)], hc, ?_⟩
            clear hc
            generalize nth kindsL n2 = x4
            refine wpAnyH_two 6 11 (by kernel_rfl) ?_ ?_
            · skip
              refine hOp_call 55 #[.pointer (some ⟨R, 0, none⟩), .int .i64 60] (d := some 15) rfl rfl rfl (by kernel_rfl) (fun _ => by kernel_rfl) fun wa6 hc => ?_
              refine (pick_any R (k + 1) 60 wa6 hc.out.dx.rd (by omega)).mono ?_
              rintro e wb6 ⟨v6, rfl, lo6, hi6, m6, hw6⟩
              have hi6 := hi6 (by omega)
              refine ⟨_, rfl, (k + 1 + 1, [], [(.slice (some ⟨wm.heap.size, 0, none⟩) 7 7, kindsL)]), Lib.hid (hc.out.next hw6), ?_⟩
              clear hw6 hc
              refine wpAnyH_takeI (i := 7) (d := some 16) rfl (by kernel_rfl) rfl rfl (by kernel_rfl) (by kernel_rfl) (by kernel_rfl) ⟨_, fun _ => by simp [go_sem]; rfl⟩ fun x7 => ?_
              refine wpAnyH_takeI (i := 8) (d := some 17) rfl (by kernel_rfl) rfl rfl (by kernel_rfl) (by kernel_rfl) (by kernel_rfl) ⟨_, fun _ => by simp [go_sem]; rfl⟩ fun x8 => ?_
              refine wpAnyH_takeI (i := 9) (d := some 18) rfl (by kernel_rfl) rfl rfl (by kernel_rfl) (by kernel_rfl) (by kernel_rfl) ⟨_, fun _ => by simp [go_sem]; rfl⟩ fun x9 => ?_
              refine wpAnyH_take (i := 10) (d := some 19) (.agg #[.int .i64 x9, .int .i64 0, .string ⟨#[]⟩]) rfl (by kernel_rfl) rfl rfl (by kernel_rfl) (by kernel_rfl) (by kernel_rfl) (fun _ => by kernel_rfl) ?_
              refine wpAnyH_special (i := 11) (d := some 5) rfl (by kernel_rfl) rfl rfl (by kernel_rfl) fun wN hc => ⟨.pointer (some ⟨wN.heap.size, 0, none⟩), wN.alloc (.cells #[.int .i64 0, .int .i64 0, .string ⟨#[]⟩] 87), (k + 1 + 1, [(wN.heap.size, [.int .i64 0, .int .i64 0, .string ⟨#[]⟩])], [(.slice (some ⟨wm.heap.size, 0, none⟩) 7 7, kindsL)]), .inl (by kernel_rfl), Lib.hid (hc.out.box [.int .i64 0, .int .i64 0, .string ⟨#[]⟩]), ?_⟩
              clear hc
              refine wpAnyH_special (i := 12) (d := none) rfl (by kernel_rfl) rfl rfl (by kernel_rfl) fun we he => ?_
              have kb := he.out.boxed
              have k0 := kb.cell 0; have f0 := kb.frozen 0
              have k1 := kb.cell 1; have f1 := kb.frozen 1
              have k2 := kb.cell 2; have f2 := kb.frozen 2
              simp at k0 k1 k2
              refine ⟨undef, (((we.setCell ⟨wN.heap.size, 0, none⟩ (.int .i64 x9)).setCell ⟨wN.heap.size, 1, none⟩ (.int .i64 0)).setCell ⟨wN.heap.size, 2, none⟩ (.string ⟨#[]⟩)), (k + 1 + 1, [(wN.heap.size, [.int .i64 x9, .int .i64 0, .string ⟨#[]⟩])], []), .inr ⟨by simp [go_sem, Act.put, k0, f0, k1, f1, k2, f2], rfl⟩, Lib.hid (((he.out.put 0 _).put 1 _).put 2 _).drop, ?_⟩
              clear he kb k0 f0 k1 f1 k2 f2
              exact ⟨by kernel_rfl, ⟨wm.heap.size, n2, v6, x7, x8, x9, wN.heap.size, x4⟩, rfl, by kernel_rfl⟩
            · skip
              refine hOp_special (d := some 5) rfl rfl rfl (by kernel_rfl) fun wN hc => ⟨.pointer (some ⟨wN.heap.size, 0, none⟩), wN.alloc (.cells #[.int .i64 0, .int .i64 0, .string ⟨#[]⟩] 87), (k + 1, [(wN.heap.size, [.int .i64 0, .int .i64 0, .string ⟨#[]⟩])], [(.slice (some ⟨wm.heap.size, 0, none⟩) 7 7, kindsL)]), by kernel_rfl, Lib.hid (hc.out.box [.int .i64 0, .int .i64 0, .string ⟨#[]⟩]), ?_⟩
              clear hc
              refine wpAnyH_call (i := 6) (d := some 15) 55 #[.pointer (some ⟨R, 0, none⟩), .int .i64 60] rfl (by kernel_rfl) rfl rfl (by kernel_rfl) (fun _ => by kernel_rfl) fun wa6 hc => ?_
              refine (pick_any R (k + 1) 60 wa6 hc.out.dx.rd (by omega)).mono ?_
              rintro e wb6 ⟨v6, rfl, lo6, hi6, m6, hw6⟩
              have hi6 := hi6 (by omega)
              refine ⟨_, rfl, (k + 1 + 1, [(wN.heap.size, [.int .i64 0, .int .i64 0, .string ⟨#[]⟩])], [(.slice (some ⟨wm.heap.size, 0, none⟩) 7 7, kindsL)]), Lib.hid (hc.out.next hw6), ?_⟩
              clear hw6 hc
              refine wpAnyH_takeI (i := 7) (d := some 16) rfl (by kernel_rfl) rfl rfl (by kernel_rfl) (by kernel_rfl) (by kernel_rfl) ⟨_, fun _ => by simp [go_sem]; rfl⟩ fun x7 => ?_
              refine wpAnyH_takeI (i := 8) (d := some 17) rfl (by kernel_rfl) rfl rfl (by kernel_rfl) (by kernel_rfl) (by kernel_rfl) ⟨_, fun _ => by simp [go_sem]; rfl⟩ fun x8 => ?_
              refine wpAnyH_takeI (i := 9) (d := some 18) rfl (by kernel_rfl) rfl rfl (by kernel_rfl) (by kernel_rfl) (by kernel_rfl) ⟨_, fun _ => by simp [go_sem]; rfl⟩ fun x9 => ?_
              refine wpAnyH_take (i := 10) (d := some 19) (.agg #[.int .i64 x9, .int .i64 0, .string ⟨#[]⟩]) rfl (by kernel_rfl) rfl rfl (by kernel_rfl) (by kernel_rfl) (by kernel_rfl) (fun _ => by kernel_rfl) ?_
              refine wpAnyH_special (i := 12) (d := none) rfl (by kernel_rfl) rfl rfl (by kernel_rfl) fun we he => ?_
              have kb := he.out.boxed
              have k0 := kb.cell 0; have f0 := kb.frozen 0
              have k1 := kb.cell 1; have f1 := kb.frozen 1
              have k2 := kb.cell 2; have f2 := kb.frozen 2
              simp at k0 k1 k2
              refine ⟨undef, (((we.setCell ⟨wN.heap.size, 0, none⟩ (.int .i64 x9)).setCell ⟨wN.heap.size, 1, none⟩ (.int .i64 0)).setCell ⟨wN.heap.size, 2, none⟩ (.string ⟨#[]⟩)), (k + 1 + 1, [(wN.heap.size, [.int .i64 x9, .int .i64 0, .string ⟨#[]⟩])], []), .inr ⟨by simp [go_sem, Act.put, k0, f0, k1, f1, k2, f2], rfl⟩, Lib.hid (((he.out.put 0 _).put 1 _).put 2 _).drop, ?_⟩
              clear he kb k0 f0 k1 f1 k2 f2
              exact ⟨by kernel_rfl, ⟨wm.heap.size, n2, v6, x7, x8, x9, wN.heap.size, x4⟩, rfl, by kernel_rfl⟩
          · skip
            refine hOp_call 55 #[.pointer (some ⟨R, 0, none⟩), .int .i64 60] (d := some 15) rfl rfl rfl (by kernel_rfl) (fun _ => by kernel_rfl) fun wa6 hc => ?_
            refine (pick_any R (k + 1) 60 wa6 hc.out.dx.rd (by omega)).mono ?_
            rintro e wb6 ⟨v6, rfl, lo6, hi6, m6, hw6⟩
            have hi6 := hi6 (by omega)
            refine ⟨_, rfl, (k + 1 + 1, [], [(.slice (some ⟨wm.heap.size, 0, none⟩) 7 7, kindsL)]), Lib.hid (hc.out.next hw6), ?_⟩
            clear hw6 hc
            refine wpAnyH_takeI (i := 7) (d := some 16) rfl (by kernel_rfl) rfl rfl (by kernel_rfl) (by kernel_rfl) (by kernel_rfl) ⟨_, fun _ => by simp [go_sem]; rfl⟩ fun x7 => ?_
            refine wpAnyH_takeI (i := 8) (d := some 17) rfl (by kernel_rfl) rfl rfl (by kernel_rfl) (by kernel_rfl) (by kernel_rfl) ⟨_, fun _ => by simp [go_sem]; rfl⟩ fun x8 => ?_
            refine wpAnyH_two 4 11 (by kernel_rfl) ?_ ?_
            · skip
              refine hOp_special (d := some 13) rfl rfl rfl (by kernel_rfl) fun wq4 hc => ⟨.int .i64 (nth kindsL n2), wq4, (k + 1 + 1, [], [(.slice (some ⟨wm.heap.size, 0, none⟩) 7 7, kindsL)]), by simp [go_sem, own_at (hc.out.dx.ls _ (.head _)) rfl (j := n2) (by omega)], hc, ?_⟩
              clear hc
              generalize nth kindsL n2 = x4
              refine wpAnyH_takeI (i := 9) (d := some 18) rfl (by kernel_rfl) rfl rfl (by kernel_rfl) (by kernel_rfl) (by kernel_rfl) ⟨_, fun _ => by simp [go_sem]; rfl⟩ fun x9 => ?_
              refine wpAnyH_take (i := 10) (d := some 19) (.agg #[.int .i64 x9, .int .i64 0, .string ⟨#[]⟩]) rfl (by kernel_rfl) rfl rfl (by kernel_rfl) (by kernel_rfl) (by kernel_rfl) (fun _ => by kernel_rfl) ?_
              refine wpAnyH_special (i := 11) (d := some 5) rfl (by kernel_rfl) rfl rfl (by kernel_rfl) fun wN hc => ⟨.pointer (some ⟨wN.heap.size, 0, none⟩), wN.alloc (.cells #[.int .i64 0, .int .i64 0, .string ⟨#[]⟩] 87), (k + 1 + 1, [(wN.heap.size, [.int .i64 0, .int .i64 0, .string ⟨#[]⟩])], [(.slice (some ⟨wm.heap.size, 0, none⟩) 7 7, kindsL)]), .inl (by kernel_rfl), Lib.hid (hc.out.box [.int .i64 0, .int .i64 0, .string ⟨#[]⟩]), ?_⟩
              clear hc
              refine wpAnyH_special (i := 12) (d := none) rfl (by kernel_rfl) rfl rfl (by kernel_rfl) fun we he => ?_
              have kb := he.out.boxed
              have k0 := kb.cell 0; have f0 := kb.frozen 0
              have k1 := kb.cell 1; have f1 := kb.frozen 1
              have k2 := kb.cell 2; have f2 := kb.frozen 2
              simp at k0 k1 k2
              refine ⟨undef, (((we.setCell ⟨wN.heap.size, 0, none⟩ (.int .i64 x9)).setCell ⟨wN.heap.size, 1, none⟩ (.int .i64 0)).setCell ⟨wN.heap.size, 2, none⟩ (.string ⟨#[]⟩)), (k + 1 + 1, [(wN.heap.size, [.int .i64 x9, .int .i64 0, .string ⟨#[]⟩])], []), .inr ⟨by simp [go_sem, Act.put, k0, f0, k1, f1, k2, f2], rfl⟩, Lib.hid (((he.out.put 0 _).put 1 _).put 2 _).drop, ?_⟩
              clear he kb k0 f0 k1 f1 k2 f2
              exact ⟨by kernel_rfl, ⟨wm.heap.size, n2, v6, x7, x8, x9, wN.heap.size, x4⟩, rfl, by kernel_rfl⟩
            · skip
              refine hOp_special (d := some 5) rfl rfl rfl (by kernel_rfl) fun wN hc => ⟨.pointer (some ⟨wN.heap.size, 0, none⟩), wN.alloc (.cells #[.int .i64 0, .int .i64 0, .string ⟨#[]⟩] 87), (k + 1 + 1, [(wN.heap.size, [.int .i64 0, .int .i64 0, .string ⟨#[]⟩])], [(.slice (some ⟨wm.heap.size, 0, none⟩) 7 7, kindsL)]), by kernel_rfl, Lib.hid (hc.out.box [.int .i64 0, .int .i64 0, .string ⟨#[]⟩]), ?_⟩
              clear hc
              refine wpAnyH_special (i := 4) (d := some 13) rfl (by kernel_rfl) rfl rfl (by kernel_rfl) fun wq4 hc => ⟨.int .i64 (nth kindsL n2), wq4, (k + 1 + 1, [(wN.heap.size, [.int .i64 0, .int .i64 0, .string ⟨#[]⟩])], [(.slice (some ⟨wm.heap.size, 0, none⟩) 7 7, kindsL)]), .inl (by simp [go_sem, own_at (hc.out.dx.ls _ (.head _)) rfl (j := n2) (by omega)]), hc, ?_⟩
              clear hc
              generalize nth kindsL n2 = x4
              refine wpAnyH_takeI (i := 9) (d := some 18) rfl (by kernel_rfl) rfl rfl (by kernel_rfl) (by kernel_rfl) (by kernel_rfl) ⟨_, fun _ => by simp [go_sem]; rfl⟩ fun x9 => ?_
              refine wpAnyH_take (i := 10) (d := some 19) (.agg #[.int .i64 x9, .int .i64 0, .string ⟨#[]⟩]) rfl (by kernel_rfl) rfl rfl (by kernel_rfl) (by kernel_rfl) (by kernel_rfl) (fun _ => by kernel_rfl) ?_
              refine wpAnyH_special (i := 12) (d := none) rfl (by kernel_rfl) rfl rfl (by kernel_rfl) fun we he => ?_
              have kb := he.out.boxed
              have k0 := kb.cell 0; have f0 := kb.frozen 0
              have k1 := kb.cell 1; have f1 := kb.frozen 1
              have k2 := kb.cell 2; have f2 := kb.frozen 2
              simp at k0 k1 k2
              refine ⟨undef, (((we.setCell ⟨wN.heap.size, 0, none⟩ (.int .i64 x9)).setCell ⟨wN.heap.size, 1, none⟩ (.int .i64 0)).setCell ⟨wN.heap.size, 2, none⟩ (.string ⟨#[]⟩)), (k + 1 + 1, [(wN.heap.size, [.int .i64 x9, .int .i64 0, .string ⟨#[]⟩])], []), .inr ⟨by simp [go_sem, Act.put, k0, f0, k1, f1, k2, f2], rfl⟩, Lib.hid (((he.out.put 0 _).put 1 _).put 2 _).drop, ?_⟩
              clear he kb k0 f0 k1 f1 k2 f2
              exact ⟨by kernel_rfl, ⟨wm.heap.size, n2, v6, x7, x8, x9, wN.heap.size, x4⟩, rfl, by kernel_rfl⟩
          · skip
            refine hOp_special (d := some 5) rfl rfl rfl (by kernel_rfl) fun wN hc => ⟨.pointer (some ⟨wN.heap.size, 0, none⟩), wN.alloc (.cells #[.int .i64 0, .int .i64 0, .string ⟨#[]⟩] 87), (k + 1, [(wN.heap.size, [.int .i64 0, .int .i64 0, .string ⟨#[]⟩])], [(.slice (some ⟨wm.heap.size, 0, none⟩) 7 7, kindsL)]), by kernel_rfl, Lib.hid (hc.out.box [.int .i64 0, .int .i64 0, .string ⟨#[]⟩]), ?_⟩
            clear hc
            refine wpAnyH_two 4 6 (by kernel_rfl) ?_ ?_
            · skip
              refine hOp_special (d := some 13) rfl rfl rfl (by kernel_rfl) fun wq4 hc => ⟨.int .i64 (nth kindsL n2), wq4, (k + 1, [(wN.heap.size, [.int .i64 0, .int .i64 0, .string ⟨#[]⟩])], [(.slice (some ⟨wm.heap.size, 0, none⟩) 7 7, kindsL)]), by simp [go_sem, own_at (hc.out.dx.ls _ (.head _)) rfl (j := n2) (by omega)], hc, ?_⟩
              clear hc
              generalize nth kindsL n2 = x4
              refine wpAnyH_call (i := 6) (d := some 15) 55 #[.pointer (some ⟨R, 0, none⟩), .int .i64 60] rfl (by kernel_rfl) rfl rfl (by kernel_rfl) (fun _ => by kernel_rfl) fun wa6 hc => ?_
              refine (pick_any R (k + 1) 60 wa6 hc.out.dx.rd (by omega)).mono ?_
              rintro e wb6 ⟨v6, rfl, lo6, hi6, m6, hw6⟩
              have hi6 := hi6 (by omega)
              refine ⟨_, rfl, (k + 1 + 1, [(wN.heap.size, [.int .i64 0, .int .i64 0, .string ⟨#[]⟩])], [(.slice (some ⟨wm.heap.size, 0, none⟩) 7 7, kindsL)]), Lib.hid (hc.out.next hw6), ?_⟩
              clear hw6 hc
              refine wpAnyH_takeI (i := 7) (d := some 16) rfl (by kernel_rfl) rfl rfl (by kernel_rfl) (by kernel_rfl) (by kernel_rfl) ⟨_, fun _ => by simp [go_sem]; rfl⟩ fun x7 => ?_
              refine wpAnyH_takeI (i := 8) (d := some 17) rfl (by kernel_rfl) rfl rfl (by kernel_rfl) (by kernel_rfl) (by kernel_rfl) ⟨_, fun _ => by simp [go_sem]; rfl⟩ fun x8 => ?_
              refine wpAnyH_takeI (i := 9) (d := some 18) rfl (by kernel_rfl) rfl rfl (by kernel_rfl) (by kernel_rfl) (by kernel_rfl) ⟨_, fun _ => by simp [go_sem]; rfl⟩ fun x9 => ?_
              refine wpAnyH_take (i := 10) (d := some 19) (.agg #[.int .i64 x9, .int .i64 0, .string ⟨#[]⟩]) rfl (by kernel_rfl) rfl rfl (by kernel_rfl) (by kernel_rfl) (by kernel_rfl) (fun _ => by kernel_rfl) ?_
              refine wpAnyH_special (i := 12) (d := none) rfl (by kernel_rfl) rfl rfl (by kernel_rfl) fun we he => ?_
              have kb := he.out.boxed
              have k0 := kb.cell 0; have f0 := kb.frozen 0
              have k1 := kb.cell 1; have f1 := kb.frozen 1
              have k2 := kb.cell 2; have f2 := kb.frozen 2
              simp at k0 k1 k2
              refine ⟨undef, (((we.setCell ⟨wN.heap.size, 0, none⟩ (.int .i64 x9)).setCell ⟨wN.heap.size, 1, none⟩ (.int .i64 0)).setCell ⟨wN.heap.size, 2, none⟩ (.string ⟨#[]⟩)), (k + 1 + 1, [(wN.heap.size, [.int .i64 x9, .int .i64 0, .string ⟨#[]⟩])], []), .inr ⟨by simp [go_sem, Act.put, k0, f0, k1, f1, k2, f2], rfl⟩, Lib.hid (((he.out.put 0 _).put 1 _).put 2 _).drop, ?_⟩
              clear he kb k0 f0 k1 f1 k2 f2
              exact ⟨by kernel_rfl, ⟨wm.heap.size, n2, v6, x7, x8, x9, wN.heap.size, x4⟩, rfl, by kernel_rfl⟩
            · skip
              refine hOp_call 55 #[.pointer (some ⟨R, 0, none⟩), .int .i64 60] (d := some 15) rfl rfl rfl (by kernel_rfl) (fun _ => by kernel_rfl) fun wa6 hc => ?_
              refine (pick_any R (k + 1) 60 wa6 hc.out.dx.rd (by omega)).mono ?_
              rintro e wb6 ⟨v6, rfl, lo6, hi6, m6, hw6⟩
              have hi6 := hi6 (by omega)
              refine ⟨_, rfl, (k + 1 + 1, [(wN.heap.size, [.int .i64 0, .int .i64 0, .string ⟨#[]⟩])], [(.slice (some ⟨wm.heap.size, 0, none⟩) 7 7, kindsL)]), Lib.hid (hc.out.next hw6), ?_⟩
              clear hw6 hc
              refine wpAnyH_takeI (i := 7) (d := some 16) rfl (by kernel_rfl) rfl rfl (by kernel_rfl) (by kernel_rfl) (by kernel_rfl) ⟨_, fun _ => by simp [go_sem]; rfl⟩ fun x7 => ?_
              refine wpAnyH_takeI (i := 8) (d := some 17) rfl (by kernel_rfl) rfl rfl (by kernel_rfl) (by kernel_rfl) (by kernel_rfl) ⟨_, fun _ => by simp [go_sem]; rfl⟩ fun x8 => ?_
              refine wpAnyH_special (i := 4) (d := some 13) rfl (by kernel_rfl) rfl rfl (by kernel_rfl) fun wq4 hc => ⟨.int .i64 (nth kindsL n2), wq4, (k + 1 + 1, [(wN.heap.size, [.int .i64 0, .int .i64 0, .string ⟨#[]⟩])], [(.slice (some ⟨wm.heap.size, 0, none⟩) 7 7, kindsL)]), .inl (by simp [go_sem, own_at (hc.out.dx.ls _ (.head _)) rfl (j := n2) (by omega)]), hc, ?_⟩
              clear hc
              generalize nth kindsL n2 = x4
              refine wpAnyH_takeI (i := 9) (d := some 18) rfl (by kernel_rfl) rfl rfl (by kernel_rfl) (by kernel_rfl) (by kernel_rfl) ⟨_, fun _ => by simp [go_sem]; rfl⟩ fun x9 => ?_
              refine wpAnyH_take (i := 10) (d := some 19) (.agg #[.int .i64 x9, .int .i64 0, .string ⟨#[]⟩]) rfl (by kernel_rfl) rfl rfl (by kernel_rfl) (by kernel_rfl) (by kernel_rfl) (fun _ => by kernel_rfl) ?_
              refine wpAnyH_special (i := 12) (d := none) rfl (by kernel_rfl) rfl rfl (by kernel_rfl) fun we he => ?_
              have kb := he.out.boxed
              have k0 := kb.cell 0; have f0 := kb.frozen 0
              have k1 := kb.cell 1; have f1 := kb.frozen 1
              have k2 := kb.cell 2; have f2 := kb.frozen 2
              simp at k0 k1 k2
              refine ⟨undef, (((we.setCell ⟨wN.heap.size, 0, none⟩ (.int .i64 x9)).setCell ⟨wN.heap.size, 1, none⟩ (.int .i64 0)).setCell ⟨wN.heap.size, 2, none⟩ (.string ⟨#[]⟩)), (k + 1 + 1, [(wN.heap.size, [.int .i64 x9, .int .i64 0, .string ⟨#[]⟩])], []), .inr ⟨by simp [go_sem, Act.put, k0, f0, k1, f1, k2, f2], rfl⟩, Lib.hid (((he.out.put 0 _).put 1 _).put 2 _).drop, ?_⟩
              clear he kb k0 f0 k1 f1 k2 f2
              exact ⟨by kernel_rfl, ⟨wm.heap.size, n2, v6, x7, x8, x9, wN.heap.size, x4⟩, rfl, by kernel_rfl⟩
        · skip
          refine hOp_special (d := some 5) rfl rfl rfl (by kernel_rfl) fun wN hc => ⟨.pointer (some ⟨wN.heap.size, 0, none⟩), wN.alloc (.cells #[.int .i64 0, .int .i64 0, .string ⟨#[]⟩] 87), (k, [(wN.heap.size, [.int .i64 0, .int .i64 0, .string ⟨#[]⟩])], [(.slice (some ⟨wm.heap.size, 0, none⟩) 7 7, kindsL)]), by kernel_rfl, Lib.hid (hc.out.box [.int .i64 0, .int .i64 0, .string ⟨#[]⟩]), ?_⟩
          clear hc
          refine wpAnyH_call (i := 2) (d := some 11) 55 #[.pointer (some ⟨R, 0, none⟩), .int .i64 7] rfl (by kernel_rfl) rfl rfl (by kernel_rfl) (fun _ => by kernel_rfl) fun wa2 hc => ?_
          refine (pick_any R (k) 7 wa2 hc.out.dx.rd (by omega)).mono ?_
          rintro e wb2 ⟨v2, rfl, lo2, hi2, m2, hw2⟩
          have hi2 := hi2 (by omega)
          obtain ⟨n2, rfl⟩ := Int.eq_ofNat_of_zero_le lo2
          refine ⟨_, rfl, (k + 1, [(wN.heap.size, [.int .i64 0, .int .i64 0, .string ⟨#[]⟩])], [(.slice (some ⟨wm.heap.size, 0, none⟩) 7 7, kindsL)]), Lib.hid (hc.out.next hw2), ?_⟩
          clear hw2 hc
          refine wpAnyH_take (i := 3) (d := some 12) (.pointer (some ⟨wm.heap.size, n2, none⟩)) rfl (by kernel_rfl) rfl rfl (by kernel_rfl) (by kernel_rfl) (by kernel_rfl) (fun _ => by simp [go_sem]; omega) ?_
          refine wpAnyH_two 4 6 (by kernel_rfl) ?_ ?_
          · skip
            refine hOp_special (d := some 13) rfl rfl rfl (by kernel_rfl) fun wq4 hc => ⟨.int .i64 (nth kindsL n2), wq4, (k + 1, [(wN.heap.size, [.int .i64 0, .int .i64 0, .string ⟨#[]⟩])], [(.slice (some ⟨wm.heap.size, 0, none⟩) 7 7, kindsL)]), by simp [go_sem, own_at (hc.out.dx.ls _ (.head _)) rfl (j := n2) (by omega)], hc, ?_⟩
            clear hc
            generalize nth kindsL n2 = x4
            refine wpAnyH_call (i := 6) (d := some 15) 55 #[.pointer (some ⟨R, 0, none⟩), .int .i64 60] rfl (by kernel_rfl) rfl rfl (by kernel_rfl) (fun _ => by kernel_rfl) fun wa6 hc => ?_
            refine (pick_any R (k + 1) 60 wa6 hc.out.dx.rd (by omega)).mono ?_
            rintro e wb6 ⟨v6, rfl, lo6, hi6, m6, hw6⟩
            have hi6 := hi6 (by omega)
            refine ⟨_, rfl, (k + 1 + 1, [(wN.heap.size, [.int .i64 0, .int .i64 0, .string ⟨#[]⟩])], [(.slice (some ⟨wm.heap.size, 0, none⟩) 7 7, kindsL)]), Lib.hid (hc.out.next hw6), ?_⟩
            clear hw6 hc
            refine wpAnyH_takeI (i := 7) (d := some 16) rfl (by kernel_rfl) rfl rfl (by kernel_rfl) (by kernel_rfl) (by kernel_rfl) ⟨_, fun _ => by simp [go_sem]; rfl⟩ fun x7 => ?_
            refine wpAnyH_takeI (i := 8) (d := some 17) rfl (by kernel_rfl) rfl rfl (by kernel_rfl) (by kernel_rfl) (by kernel_rfl) ⟨_, fun _ => by simp [go_sem]; rfl⟩ fun x8 => ?_
            refine wpAnyH_takeI (i := 9) (d := some 18) rfl (by kernel_rfl) rfl rfl (by kernel_rfl) (by kernel_rfl) (by kernel_rfl) ⟨_, fun _ => by simp [go_sem]; rfl⟩ fun x9 => ?_
            refine wpAnyH_take (i := 10) (d := some 19) (.agg #[.int .i64 x9, .int .i64 0, .string ⟨#[]⟩]) rfl (by kernel_rfl) rfl rfl (by kernel_rfl) (by kernel_rfl) (by kernel_rfl) (fun _ => by kernel_rfl) ?_
            refine wpAnyH_special (i := 12) (d := none) rfl (by kernel_rfl) rfl rfl (by kernel_rfl) fun we he => ?_
            have kb := he.out.boxed
            have k0 := kb.cell 0; have f0 := kb.frozen 0
            have k1 := kb.cell 1; have f1 := kb.frozen 1
            have k2 := kb.cell 2; have f2 := kb.frozen 2
            simp at k0 k1 k2
            refine ⟨undef, (((we.setCell ⟨wN.heap.size, 0, none⟩ (.int .i64 x9)).setCell ⟨wN.heap.size, 1, none⟩ (.int .i64 0)).setCell ⟨wN.heap.size, 2, none⟩ (.string ⟨#[]⟩)), (k + 1 + 1, [(wN.heap.size, [.int .i64 x9, .int .i64 0, .string ⟨#[]⟩])], []), .inr ⟨by simp [go_sem, Act.put, k0, f0, k1, f1, k2, f2], rfl⟩, Lib.hid (((he.out.put 0 _).put 1 _).put 2 _).drop, ?_⟩
            clear he kb k0 f0 k1 f1 k2 f2
            exact ⟨by kernel_rfl, ⟨wm.heap.size, n2, v6, x7, x8, x9, wN.heap.size, x4⟩, rfl, by kernel_rfl⟩
          · skip
            refine hOp_call 55 #[.pointer (some ⟨R, 0, none⟩), .int .i64 60] (d := some 15) rfl rfl rfl (by kernel_rfl) (fun _ => by kernel_rfl) fun wa6 hc => ?_
            refine (pick_any R (k + 1) 60 wa6 hc.out.dx.rd (by omega)).mono ?_
            rintro e wb6 ⟨v6, rfl, lo6, hi6, m6, hw6⟩
            have hi6 := hi6 (by omega)
            refine ⟨_, rfl, (k + 1 + 1, [(wN.heap.size, [.int .i64 0, .int .i64 0, .string ⟨#[]⟩])], [(.slice (some ⟨wm.heap.size, 0, none⟩) 7 7, kindsL)]), Lib.hid (hc.out.next hw6), ?_⟩
            clear hw6 hc
            refine wpAnyH_takeI (i := 7) (d := some 16) rfl (by kernel_rfl) rfl rfl (by kernel_rfl) (by kernel_rfl) (by kernel_rfl) ⟨_, fun _ => by simp [go_sem]; rfl⟩ fun x7 => ?_
            refine wpAnyH_takeI (i := 8) (d := some 17) rfl (by kernel_rfl) rfl rfl (by kernel_rfl) (by kernel_rfl) (by kernel_rfl) ⟨_, fun _ => by simp [go_sem]; rfl⟩ fun x8 => ?_
            refine wpAnyH_special (i := 4) (d := some 13) rfl (by kernel_rfl) rfl rfl (by kernel_rfl) fun wq4 hc => ⟨.int .i64 (nth kindsL n2), wq4, (k + 1 + 1, [(wN.heap.size, [.int .i64 0, .int .i64 0, .string ⟨#[]⟩])], [(.slice (some ⟨wm.heap.size, 0, none⟩) 7 7, kindsL)]), .inl (by simp [go_sem, own_at (hc.out.dx.ls _ (.head _)) rfl (j := n2) (by omega)]), hc, ?_⟩
            clear hc
            generalize nth kindsL n2 = x4
            refine wpAnyH_takeI (i := 9) (d := some 18) rfl (by kernel_rfl) rfl rfl (by kernel_rfl) (by kernel_rfl) (by kernel_rfl) ⟨_, fun _ => by simp [go_sem]; rfl⟩ fun x9 => ?_
            refine wpAnyH_take (i := 10) (d := some 19) (.agg #[.int .i64 x9, .int .i64 0, .string ⟨#[]⟩]) rfl (by kernel_rfl) rfl rfl (by kernel_rfl) (by kernel_rfl) (by kernel_rfl) (fun _ => by kernel_rfl) ?_
            refine wpAnyH_special (i := 12) (d := none) rfl (by kernel_rfl) rfl rfl (by kernel_rfl) fun we he => ?_
            have kb := he.out.boxed
            have k0 := kb.cell 0; have f0 := kb.frozen 0
            have k1 := kb.cell 1; have f1 := kb.frozen 1
            have k2 := kb.cell 2; have f2 := kb.frozen 2
            simp at k0 k1 k2
            refine ⟨undef, (((we.setCell ⟨wN.heap.size, 0, none⟩ (.int .i64 x9)).setCell ⟨wN.heap.size, 1, none⟩ (.int .i64 0)).setCell ⟨wN.heap.size, 2, none⟩ (.string ⟨#[]⟩)), (k + 1 + 1, [(wN.heap.size, [.int .i64 x9, .int .i64 0, .string ⟨#[]⟩])], []), .inr ⟨by simp [go_sem, Act.put, k0, f0, k1, f1, k2, f2], rfl⟩, Lib.hid (((he.out.put 0 _).put 1 _).put 2 _).drop, ?_⟩
            clear he kb k0 f0 k1 f1 k2 f2
            exact ⟨by kernel_rfl, ⟨wm.heap.size, n2, v6, x7, x8, x9, wN.heap.size, x4⟩, rfl, by kernel_rfl⟩
      · skip
        refine hOp_call 55 #[.pointer (some ⟨R, 0, none⟩), .int .i64 7] (d := some 11) rfl rfl rfl (by kernel_rfl) (fun _ => by kernel_rfl) fun wa2 hc => ?_
        refine (pick_any R (k) 7 wa2 hc.out.dx.rd (by omega)).mono ?_
        rintro e wb2 ⟨v2, rfl, lo2, hi2, m2, hw2⟩
        have hi2 := hi2 (by omega)
        obtain ⟨n2, rfl⟩ := Int.eq_ofNat_of_zero_le lo2
        refine ⟨_, rfl, (k + 1, [], []), Lib.hid (hc.out.next hw2), ?_⟩
        clear hw2 hc
        refine wpAnyH_three 0 6 11 (by kernel_rfl) ?_ ?_ ?_
        · skip
          refine hOp_special (d := some 9) rfl rfl rfl (by kernel_rfl) fun wm hc => ⟨.slice (some ⟨wm.heap.size, 0, none⟩) 7 7, wm.alloc (.cells #[.int .i64 0, .int .i64 0, .int .i64 1, .int .i64 1, .int .i64 1, .int .i64 1, .int .i64 2] 3), (k + 1, [], [(.slice (some ⟨wm.heap.size, 0, none⟩) 7 7, kindsL)]), by kernel_rfl, Lib.hid (hc.out.build kindsL (by decide)), ?_⟩
          clear hc
          refine wpAnyH_take (i := 3) (d := some 12) (.pointer (some ⟨wm.heap.size, n2, none⟩)) rfl (by kernel_rfl) rfl rfl (by kernel_rfl) (by kernel_rfl) (by kernel_rfl) (fun _ => by simp [go_sem]; omega) ?_
          refine wpAnyH_three 4 6 11 (by kernel_rfl) ?_ ?_ ?_
          · skip
            refine hOp_special (d := some 13) rfl rfl rfl (by kernel_rfl) fun wq4 hc => ⟨.int .i64 (nth kindsL n2), wq4, (k + 1, [], [(.slice (some ⟨wm.heap.size, 0, none⟩) 7 7, kindsL)]), by simp [go_sem, own_at (hc.out.dx.ls _ (.head _)) rfl (j := n2) (by omega)], hc, ?_⟩
            clear hc
            generalize nth kindsL n2 = x4
            refine wpAnyH_two 6 11 (by kernel_rfl) ?_ ?_
            · skip
              refine hOp_call 55 #[.pointer (some ⟨R, 0, none⟩), .int .i64 60] (d := some 15) rfl rfl rfl (by kernel_rfl) (fun _ => by kernel_rfl) fun wa6 hc => ?_
              refine (pick_any R (k + 1) 60 wa6 hc.out.dx.rd (by omega)).mono ?_
              rintro e wb6 ⟨v6, rfl, lo6, hi6, m6, hw6⟩
              have hi6 := hi6 (by omega)
              refine ⟨_, rfl, (k + 1 + 1, [], [(.slice (some ⟨wm.heap.size, 0, none⟩) 7 7, kindsL)]), Lib.hid (hc.out.next hw6), ?_⟩
              clear hw6 hc
              refine wpAnyH_takeI (i := 7) (d := some 16) rfl (by kernel_rfl) rfl rfl (by kernel_rfl) (by kernel_rfl) (by kernel_rfl) ⟨_, fun _ => by simp [go_sem]; rfl⟩ fun x7 => ?_
              refine wpAnyH_takeI (i := 8) (d := some 17) rfl (by kernel_rfl) rfl rfl (by kernel_rfl) (by kernel_rfl) (by kernel_rfl) ⟨_, fun _ => by simp [go_sem]; rfl⟩ fun x8 => ?_
              refine wpAnyH_takeI (i := 9) (d := some 18) rfl (by kernel_rfl) rfl rfl (by kernel_rfl) (by kernel_rfl) (by kernel_rfl) ⟨_, fun _ => by simp [go_sem]; rfl⟩ fun x9 => ?_
              refine wpAnyH_take (i := 10) (d := some 19) (.agg #[.int .i64 x9, .int .i64 0, .string ⟨#[]⟩]) rfl (by kernel_rfl) rfl rfl (by kernel_rfl) (by kernel_rfl) (by kernel_rfl) (fun _ => by kernel_rfl) ?_
              refine wpAnyH_special (i := 11) (d := some 5) rfl (by kernel_rfl) rfl rfl (by kernel_rfl) fun wN hc => ⟨.pointer (some ⟨wN.heap.size, 0, none⟩), wN.alloc (.cells #[.int .i64 0, .int .i64 0, .string ⟨#[]⟩] 87), (k + 1 + 1, [(wN.heap.size, [.int .i64 0, .int .i64 0, .string ⟨#[]⟩])], [(.slice (some ⟨wm.heap.size, 0, none⟩) 7 7, kindsL)]), .inl (by kernel_rfl), Lib.hid (hc.out.box [.int .i64 0, .int .i64 0, .string ⟨#[]⟩]), ?_⟩
              clear hc
              refine wpAnyH_special (i := 12) (d := none) rfl (by kernel_rfl) rfl rfl (by kernel_rfl) fun we he => ?_
              have kb := he.out.boxed
              have k0 := kb.cell 0; have f0 := kb.frozen 0
              have k1 := kb.cell 1; have f1 := kb.frozen 1
              have k2 := kb.cell 2; have f2 := kb.frozen 2
              simp at k0 k1 k2
              refine ⟨undef, (((we.setCell ⟨wN.heap.size, 0, none⟩ (.int .i64 x9)).setCell ⟨wN.heap.size, 1, none⟩ (.int .i64 0)).setCell ⟨wN.heap.size, 2, none⟩ (.string ⟨#[]⟩)), (k + 1 + 1, [(wN.heap.size, [.int .i64 x9, .int .i64 0, .string ⟨#[]⟩])], []), .inr ⟨by simp [go_sem, Act.put, k0, f0, k1, f1, k2, f2], rfl⟩, Lib.hid (((he.out.put 0 _).put 1 _).put 2 _).drop, ?_⟩
              clear he kb k0 f0 k1 f1 k2 f2
              exact ⟨by kernel_rfl, ⟨wm.heap.size, n2, v6, x7, x8, x9, wN.heap.size, x4⟩, rfl, by kernel_rfl⟩
            · skip
              refine hOp_special (d := some 5) rfl rfl rfl (by kernel_rfl) fun wN hc => ⟨.pointer (some ⟨wN.heap.size, 0, none⟩), wN.alloc (.cells #[.int .i64 0, .int .i64 0, .string ⟨#[]⟩] 87), (k + 1, [(wN.heap.size, [.int .i64 0, .int .i64 0, .string ⟨#[]⟩])], [(.slice (some ⟨wm.heap.size, 0, none⟩) 7 7, kindsL)]), by kernel_rfl, Lib.hid (hc.out.box [.int .i64 0, .int .i64 0, .string ⟨#[]⟩]), ?_⟩
              clear hc
              refine wpAnyH_call (i := 6) (d := some 15) 55 #[.pointer (some ⟨R, 0, none⟩), .int .i64 60] rfl (by kernel_rfl) rfl rfl (by kernel_rfl) (fun _ => by kernel_rfl) fun wa6 hc => ?_
              refine (pick_any R (k + 1) 60 wa6 hc.out.dx.rd (by omega)).mono ?_
              rintro e wb6 ⟨v6, rfl, lo6, hi6, m6, hw6⟩
              have hi6 := hi6 (by omega)
              refine ⟨_, rfl, (k + 1 + 1, [(wN.heap.size, [.int .i64 0, .int .i64 0, .string ⟨#[]⟩])], [(.slice (some ⟨wm.heap.size, 0, none⟩) 7 7, kindsL)]), Lib.hid (hc.out.next hw6), ?_⟩
              clear hw6 hc
              refine wpAnyH_takeI (i := 7) (d := some 16) rfl (by kernel_rfl) rfl rfl (by kernel_rfl) (by kernel_rfl) (by kernel_rfl) ⟨_, fun _ => by simp [go_sem]; rfl⟩ fun x7 => ?_
              refine wpAnyH_takeI (i := 8) (d := some 17) rfl (by kernel_rfl) rfl rfl (by kernel_rfl) (by kernel_rfl) (by kernel_rfl) ⟨_, fun _ => by simp [go_sem]; rfl⟩ fun x8 => ?_
              refine wpAnyH_takeI (i := 9) (d := some 18) rfl (by kernel_rfl) rfl rfl (by kernel_rfl) (by kernel_rfl) (by kernel_rfl) ⟨_, fun _ => by simp [go_sem]; rfl⟩ fun x9 => ?_
              refine wpAnyH_take (i := 10) (d := some 19) (.agg #[.int .i64 x9, .int .i64 0, .string ⟨#[]⟩]) rfl (by kernel_rfl) rfl rfl (by kernel_rfl) (by kernel_rfl) (by kernel_rfl) (fun _ => by kernel_rfl) ?_
              refine wpAnyH_special (i := 12) (d := none) rfl (by kernel_rfl) rfl rfl (by kernel_rfl) fun we he => ?_
              have kb := he.out.boxed
              have k0 := kb.cell 0; have f0 := kb.frozen 0
              have k1 := kb.cell 1; have f1 := kb.frozen 1
              have k2 := kb.cell 2; have f2 := kb.frozen 2
              simp at k0 k1 k2
              refine ⟨undef, (((we.setCell ⟨wN.heap.size, 0, none⟩ (.int .i64 x9)).setCell ⟨wN.heap.size, 1, none⟩ (.int .i64 0)).setCell ⟨wN.heap.size, 2, none⟩ (.string ⟨#[]⟩)), (k + 1 + 1, [(wN.heap.size, [.int .i64 x9, .int .i64 0, .string ⟨#[]⟩])], []), .inr ⟨by simp [go_sem, Act.put, k0, f0, k1, f1, k2, f2], rfl⟩, Lib.hid (((he.out.put 0 _).put 1 _).put 2 _).drop, ?_⟩
              clear he kb k0 f0 k1 f1 k2 f2
              exact ⟨by kernel_rfl, ⟨wm.heap.size, n2, v6, x7, x8, x9, wN.heap.size, x4⟩, rfl, by kernel_rfl⟩
          · skip
            refine hOp_call 55 #[.pointer (some ⟨R, 0, none⟩), .int .i64 60] (d := some 15) rfl rfl rfl (by kernel_rfl) (fun _ => by kernel_rfl) fun wa6 hc => ?_
            refine (pick_any R (k + 1) 60 wa6 hc.out.dx.rd (by omega)).mono ?_
            rintro e wb6 ⟨v6, rfl, lo6, hi6, m6, hw6⟩
            have hi6 := hi6 (by omega)
            refine ⟨_, rfl, (k + 1 + 1, [], [(.slice (some ⟨wm.heap.size, 0, none⟩) 7 7, kindsL)]), Lib.hid (hc.out.next hw6), ?_⟩
            clear hw6 hc
            refine wpAnyH_takeI (i := 7) (d := some 16) rfl (by kernel_rfl) rfl rfl (by kernel_rfl) (by kernel_rfl) (by kernel_rfl) ⟨_, fun _ => by simp [go_sem]; rfl⟩ fun x7 => ?_
            refine wpAnyH_takeI (i := 8) (d := some 17) rfl (by kernel_rfl) rfl rfl (by kernel_rfl) (by kernel_rfl) (by kernel_rfl) ⟨_, fun _ => by simp [go_sem]; rfl⟩ fun x8 => ?_
            refine wpAnyH_two 4 11 (by kernel_rfl) ?_ ?_
            · skip
              refine hOp_special (d := some 13) rfl rfl rfl (by kernel_rfl) fun wq4 hc => ⟨.int .i64 (nth kindsL n2), wq4, (k + 1 + 1, [], [(.slice (some ⟨wm.heap.size, 0, none⟩) 7 7, kindsL)]), by simp [go_sem, own_at (hc.out.dx.ls _ (.head _)) rfl (j := n2) (by omega)], hc, ?_⟩
              clear hc
              generalize nth kindsL n2 = x4
              refine wpAnyH_takeI (i := 9) (d := some 18) rfl (by kernel_rfl) rfl rfl (by kernel_rfl) (by kernel_rfl) (by kernel_rfl) ⟨_, fun _ => by simp [go_sem]; rfl⟩ fun x9 => ?_
              refine wpAnyH_take (i := 10) (d := some 19) (.agg #[.int .i64 x9, .int .i64 0, .string ⟨#[]⟩]) rfl (by kernel_rfl) rfl rfl (by kernel_rfl) (by kernel_rfl) (by kernel_rfl) (fun _ => by kernel_rfl) ?_
              refine wpAnyH_special (i := 11) (d := some 5) rfl (by kernel_rfl) rfl rfl (by kernel_rfl) fun wN hc => ⟨.pointer (some ⟨wN.heap.size, 0, none⟩), wN.alloc (.cells #[.int .i64 0, .int .i64 0, .string ⟨#[]⟩] 87), (k + 1 + 1, [(wN.heap.size, [.int .i64 0, .int .i64 0, .string ⟨#[]⟩])], [(.slice (some ⟨wm.heap.size, 0, none⟩) 7 7, kindsL)]), .inl (by kernel_rfl), Lib.hid (hc.out.box [.int .i64 0, .int .i64 0, .string ⟨#[]⟩]), ?_⟩
              clear hc
              refine wpAnyH_special (i := 12) (d := none) rfl (by kernel_rfl) rfl rfl (by kernel_rfl) fun we he => ?_
              have kb := he.out.boxed
              have k0 := kb.cell 0; have f0 := kb.frozen 0
              have k1 := kb.cell 1; have f1 := kb.frozen 1
              have k2 := kb.cell 2; have f2 := kb.frozen 2
              simp at k0 k1 k2
              refine ⟨undef, (((we.setCell ⟨wN.heap.size, 0, none⟩ (.int .i64 x9)).setCell ⟨wN.heap.size, 1, none⟩ (.int .i64 0)).setCell ⟨wN.heap.size, 2, none⟩ (.string ⟨#[]⟩)), (k + 1 + 1, [(wN.heap.size, [.int .i64 x9, .int .i64 0, .string ⟨#[]⟩])], []), .inr ⟨by simp [go_sem, Act.put, k0, f0, k1, f1, k2, f2], rfl⟩, Lib.hid (((he.out.put 0 _).put 1 _).put 2 _).drop, ?_⟩
              clear he kb k0 f0 k1 f1 k2 f2
              exact ⟨by kernel_rfl, ⟨wm.heap.size, n2, v6, x7, x8, x9, wN.heap.size, x4⟩, rfl, by kernel_rfl⟩
            · skip
              refine hOp_special (d := some 5) rfl rfl rfl (by kernel_rfl) fun wN hc => ⟨.pointer (some ⟨wN.heap.size, 0, none⟩), wN.alloc (.cells #[.int .i64 0, .int .i64 0, .string ⟨#[]⟩] 87), (k + 1 + 1, [(wN.heap.size, [.int .i64 0, .int .i64 0, .string ⟨#[]⟩])], [(.slice (some ⟨wm.heap.size, 0, none⟩) 7 7, kindsL)]), by kernel_rfl, Lib.hid (hc.out.box [.int .i64 0, .int .i64 0, .string ⟨#[]⟩]), ?_⟩
              clear hc
              refine wpAnyH_special (i := 4) (d := some 13) rfl (by kernel_rfl) rfl rfl (by kernel_rfl) fun wq4 hc => ⟨.int .i64 (nth kindsL n2), wq4, (k + 1 + 1, [(wN.heap.size, [.int .i64 0, .int .i64 0, .string ⟨#[]⟩])], [(.slice (some ⟨wm.heap.size, 0, none⟩) 7 7, kindsL)]), .inl (by simp [go_sem, own_at (hc.out.dx.ls _ (.head _)) rfl (j := n2) (by omega)]), hc, ?_⟩
              clear hc
              generalize nth kindsL n2 = x4
              refine wpAnyH_takeI (i := 9) (d := some 18) rfl (by kernel_rfl) rfl rfl (by kernel_rfl) (by kernel_rfl) (by kernel_rfl) ⟨_, fun _ => by simp [go_sem]; rfl⟩ fun x9 => ?_
              refine wpAnyH_take (i := 10) (d := some 19) (.agg #[.int .i64 x9, .int .i64 0, .string ⟨#[]⟩]) rfl (by kernel_rfl) rfl rfl (by kernel_rfl) (by kernel_rfl) (by kernel_rfl) (fun _ => by kernel_rfl) ?_
              refine wpAnyH_special (i := 12) (d := none) rfl (by kernel_rfl) rfl rfl (by kernel_rfl) fun we he => ?_
              have kb := he.out.boxed
              have k0 := kb.cell 0; have f0 := kb.frozen 0
              have k1 := kb.cell 1; have f1 := kb.frozen 1
              have k2 := kb.cell 2; have f2 := kb.frozen 2
              simp at k0 k1 k2
              refine ⟨undef, (((we.setCell ⟨wN.heap.size, 0, none⟩ (.int .i64 x9)).setCell ⟨wN.heap.size, 1, none⟩ (.int .i64 0)).setCell ⟨wN.heap.size, 2, none⟩ (.string ⟨#[]⟩)), (k + 1 + 1, [(wN.heap.size, [.int .i64 x9, .int .i64 0, .string ⟨#[]⟩])], []), .inr ⟨by simp [go_sem, Act.put, k0, f0, k1, f1, k2, f2], rfl⟩, Lib.hid (((he.out.put 0 _).put 1 _).put 2 _).drop, ?_⟩
              clear he kb k0 f0 k1 f1 k2 f2
              exact ⟨by kernel_rfl, ⟨wm.heap.size, n2, v6, x7, x8, x9, wN.heap.size, x4⟩, rfl, by kernel_rfl⟩
          · skip
            refine hOp_special (d := some 5) rfl rfl rfl (by kernel_rfl) fun wN hc => ⟨.pointer (some ⟨wN.heap.size, 0, none⟩), wN.alloc (.cells #[.int .i64 0, .int .i64 0, .string ⟨#[]⟩] 87), (k + 1, [(wN.heap.size, [.int .i64 0, .int .i64 0, .string ⟨#[]⟩])], [(.slice (some ⟨wm.heap.size, 0, none⟩) 7 7, kindsL)]), by kernel_rfl, Lib.hid (hc.out.box [.int .i64 0, .int .i64 0, .string ⟨#[]⟩]), ?_⟩
            clear hc
            refine wpAnyH_two 4 6 (by kernel_rfl) ?_ ?_
            · skip
              refine hOp_special (d := some 13) rfl rfl rfl (by kernel_rfl) fun wq4 hc => ⟨.int .i64 (nth kindsL n2), wq4, (k + 1, [(wN.heap.size, [.int .i64 0, .int .i64 0, .string ⟨#[]⟩])], [(.slice (some ⟨wm.heap.size, 0, none⟩) 7 7, kindsL)]), by simp [go_sem, own_at (hc.out.dx.ls _ (.head _)) rfl (j := n2) (by omega)], hc, ?_⟩
              clear hc
              generalize nth kindsL n2 = x4
              refine wpAnyH_call (i := 6) (d := some 15) 55 #[.pointer (some ⟨R, 0, none⟩), .int .i64 60] rfl (by kernel_rfl) rfl rfl (by kernel_rfl) (fun _ => by kernel_rfl) fun wa6 hc => ?_
              refine (pick_any R (k + 1) 60 wa6 hc.out.dx.rd (by omega)).mono ?_
              rintro e wb6 ⟨v6, rfl, lo6, hi6, m6, hw6⟩
              have hi6 := hi6 (by omega)
              refine ⟨_, rfl, (k + 1 + 1, [(wN.heap.size, [.int .i64 0, .int .i64 0, .string ⟨#[]⟩])], [(.slice (some ⟨wm.heap.size, 0, none⟩) 7 7, kindsL)]), Lib.hid (hc.out.next hw6), ?_⟩
              clear hw6 hc
              refine wpAnyH_takeI (i := 7) (d := some 16) rfl (by kernel_rfl) rfl rfl (by kernel_rfl) (by kernel_rfl) (by kernel_rfl) ⟨_, fun _ => by simp [go_sem]; rfl⟩ fun x7 => ?_
              refine wpAnyH_takeI (i := 8) (d := some 17) rfl (by kernel_rfl) rfl rfl (by kernel_rfl) (by kernel_rfl) (by kernel_rfl) ⟨_, fun _ => by simp [go_sem]; rfl⟩ fun x8 => ?_
              refine wpAnyH_takeI (i := 9) (d := some 18) rfl (by kernel_rfl) rfl rfl (by kernel_rfl) (by kernel_rfl) (by kernel_rfl) ⟨_, fun _ => by simp [go_sem]; rfl⟩ fun x9 => ?_
              refine wpAnyH_take (i := 10) (d := some 19) (.agg #[.int .i64 x9, .int .i64 0, .string ⟨#[]⟩]) rfl (by kernel_rfl) rfl rfl (by kernel_rfl) (by kernel_rfl) (by kernel_rfl) (fun _ => by kernel_rfl) ?_
              refine wpAnyH_special (i := 12) (d := none) rfl (by kernel_rfl) rfl rfl (by kernel_rfl) fun we he => ?_
              have kb := he.out.boxed
              have k0 := kb.cell 0; have f0 := kb.frozen 0
              have k1 := kb.cell 1; have f1 := kb.frozen 1
              have k2 := kb.cell 2; have f2 := kb.frozen 2
              simp at k0 k1 k2
              refine ⟨undef, (((we.setCell ⟨wN.heap.size, 0, none⟩ (.int .i64 x9)).setCell ⟨wN.heap.size, 1, none⟩ (.int .i64 0)).setCell ⟨wN.heap.size, 2, none⟩ (.string ⟨#[]⟩)), (k + 1 + 1, [(wN.heap.size, [.int .i64 x9, .int .i64 0, .string ⟨#[]⟩])], []), .inr ⟨by simp [go_sem, Act.put, k0, f0, k1, f1, k2, f2], rfl⟩, Lib.hid (((he.out.put 0 _).put 1 _).put 2 _).drop, ?_⟩
              clear he kb k0 f0 k1 f1 k2 f2
              exact ⟨by kernel_rfl, ⟨wm.heap.size, n2, v6, x7, x8, x9, wN.heap.size, x4⟩, rfl, by kernel_rfl⟩
            · skip
              refine hOp_call 55 #[.pointer (some ⟨R, 0, none⟩), .int .i64 60] (d := some 15) rfl rfl rfl (by kernel_rfl) (fun _ => by kernel_rfl) fun wa6 hc => ?_
              refine (pick_any R (k + 1) 60 wa6 hc.out.dx.rd (by omega)).mono ?_
              rintro e wb6 ⟨v6, rfl, lo6, hi6, m6, hw6⟩
              have hi6 := hi6 (by omega)
              refine ⟨_, rfl, (k + 1 + 1, [(wN.heap.size, [.int .i64 0, .int .i64 0, .string ⟨#[]⟩])], [(.slice (some ⟨wm.heap.size, 0, none⟩) 7 7, kindsL)]), Lib.hid (hc.out.next hw6), ?_⟩
              clear hw6 hc
              refine wpAnyH_takeI (i := 7) (d := some 16) rfl (by kernel_rfl) rfl rfl (by kernel_rfl) (by kernel_rfl) (by kernel_rfl) ⟨_, fun _ => by simp [go_sem]; rfl⟩ fun x7 => ?_
              refine wpAnyH_takeI (i := 8) (d := some 17) rfl (by kernel_rfl) rfl rfl (by kernel_rfl) (by kernel_rfl) (by kernel_rfl) ⟨_, fun _ => by simp [go_sem]; rfl⟩ fun x8 => ?_
              refine wpAnyH_special (i := 4) (d := some 13) rfl (by kernel_rfl) rfl rfl (by kernel_rfl) fun wq4 hc => ⟨.int .i64 (nth kindsL n2), wq4, (k + 1 + 1, [(wN.heap.size, [.int .i64 0, .int .i64 0, .string ⟨#[]⟩])], [(.slice (some ⟨wm.heap.size, 0, none⟩) 7 7, kindsL)]), .inl (by simp [go_sem, own_at (hc.out.dx.ls _ (.head _)) rfl (j := n2) (by omega)]), hc, ?_⟩
              clear hc
              generalize nth kindsL n2 = x4
              refine wpAnyH_takeI (i := 9) (d := some 18) rfl (by kernel_rfl) rfl rfl (by kernel_rfl) (by kernel_rfl) (by kernel_rfl) ⟨_, fun _ => by simp [go_sem]; rfl⟩ fun x9 => ?_
              refine wpAnyH_take (i := 10) (d := some 19) (.agg #[.int .i64 x9, .int .i64 0, .string ⟨#[]⟩]) rfl (by kernel_rfl) rfl rfl (by kernel_rfl) (by kernel_rfl) (by kernel_rfl) (fun _ => by kernel_rfl) ?_
              refine wpAnyH_special (i := 12) (d := none) rfl (by kernel_rfl) rfl rfl (by kernel_rfl) fun we he => ?_
              have kb := he.out.boxed
              have k0 := kb.cell 0; have f0 := kb.frozen 0
              have k1 := kb.cell 1; have f1 := kb.frozen 1
              have k2 := kb.cell 2; have f2 := kb.frozen 2
              simp at k0 k1 k2
              refine ⟨undef, (((we.setCell ⟨wN.heap.size, 0, none⟩ (.int .i64 x9)).setCell ⟨wN.heap.size, 1, none⟩ (.int .i64 0)).setCell ⟨wN.heap.size, 2, none⟩ (.string ⟨#[]⟩)), (k + 1 + 1, [(wN.heap.size, [.int .i64 x9, .int .i64 0, .string ⟨#[]⟩])], []), .inr ⟨by simp [go_sem, Act.put, k0, f0, k1, f1, k2, f2], rfl⟩, Lib.hid (((he.out.put 0 _).put 1 _).put 2 _).drop, ?_⟩
              clear he kb k0 f0 k1 f1 k2 f2
              exact ⟨by kernel_rfl, ⟨wm.heap.size, n2, v6, x7, x8, x9, wN.heap.size, x4⟩, rfl, by kernel_rfl⟩
        · skip
          refine hOp_call 55 #[.pointer (some ⟨R, 0, none⟩), .int .i64 60] (d := some 15) rfl rfl rfl (by kernel_rfl) (fun _ => by kernel_rfl) fun wa6 hc => ?_
          refine (pick_any R (k + 1) 60 wa6 hc.out.dx.rd (by omega)).mono ?_
          rintro e wb6 ⟨v6, rfl, lo6, hi6, m6, hw6⟩
          have hi6 := hi6 (by omega)
          refine ⟨_, rfl, (k + 1 + 1, [], []), Lib.hid (hc.out.next hw6), ?_⟩
          clear hw6 hc
          refine wpAnyH_takeI (i := 7) (d := some 16) rfl (by kernel_rfl) rfl rfl (by kernel_rfl) (by kernel_rfl) (by kernel_rfl) ⟨_, fun _ => by simp [go_sem]; rfl⟩ fun x7 => ?_
          refine wpAnyH_takeI (i := 8) (d := some 17) rfl (by kernel_rfl) rfl rfl (by kernel_rfl) (by kernel_rfl) (by kernel_rfl) ⟨_, fun _ => by simp [go_sem]; rfl⟩ fun x8 => ?_
          refine wpAnyH_two 0 11 (by kernel_rfl) ?_ ?_
          · skip
            refine hOp_special (d := some 9) rfl rfl rfl (by kernel_rfl) fun wm hc => ⟨.slice (some ⟨wm.heap.size, 0, none⟩) 7 7, wm.alloc (.cells #[.int .i64 0, .int .i64 0, .int .i64 1, .int .i64 1, .int .i64 1, .int .i64 1, .int .i64 2] 3), (k + 1 + 1, [], [(.slice (some ⟨wm.heap.size, 0, none⟩) 7 7, kindsL)]), by kernel_rfl, Lib.hid (hc.out.build kindsL (by decide)), ?_⟩
            clear hc
            refine wpAnyH_take (i := 3) (d := some 12) (.pointer (some ⟨wm.heap.size, n2, none⟩)) rfl (by kernel_rfl) rfl rfl (by kernel_rfl) (by kernel_rfl) (by kernel_rfl) (fun _ => by simp [go_sem]; omega) ?_
            refine wpAnyH_two 4 11 (by kernel_rfl) ?_ ?_
            · skip
              refine hOp_special (d := some 13) rfl rfl rfl (by kernel_rfl) fun wq4 hc => ⟨.int .i64 (nth kindsL n2), wq4, (k + 1 + 1, [], [(.slice (some ⟨wm.heap.size, 0, none⟩) 7 7, kindsL)]), by simp [go_sem, own_at (hc.out.dx.ls _ (.head _)) rfl (j := n2) (by omega)], hc, ?_⟩
              clear hc
              generalize nth kindsL n2 = x4
              refine wpAnyH_takeI (i := 9) (d := some 18) rfl (by kernel_rfl) rfl rfl (by kernel_rfl) (by kernel_rfl) (by kernel_rfl) ⟨_, fun _ => by simp [go_sem]; rfl⟩ fun x9 => ?_
              refine wpAnyH_take (i := 10) (d := some 19) (.agg #[.int .i64 x9, .int .i64 0, .string ⟨#[]⟩]) rfl (by kernel_rfl) rfl rfl (by kernel_rfl) (by kernel_rfl) (by kernel_rfl) (fun _ => by kernel_rfl) ?_
              refine wpAnyH_special (i := 11) (d := some 5) rfl (by kernel_rfl) rfl rfl (by kernel_rfl) fun wN hc => ⟨.pointer (some ⟨wN.heap.size, 0, none⟩), wN.alloc (.cells #[.int .i64 0, .int .i64 0, .string ⟨#[]⟩] 87), (k + 1 + 1, [(wN.heap.size, [.int .i64 0, .int .i64 0, .string ⟨#[]⟩])], [(.slice (some ⟨wm.heap.size, 0, none⟩) 7 7, kindsL)]), .inl (by kernel_rfl), Lib.hid (hc.out.box [.int .i64 0, .int .i64 0, .string ⟨#[]⟩]), ?_⟩
              clear hc
              refine wpAnyH_special (i := 12) (d := none) rfl (by kernel_rfl) rfl rfl (by kernel_rfl) fun we he => ?_
              have kb := he.out.boxed
              have k0 := kb.cell 0; have f0 := kb.frozen 0
              have k1 := kb.cell 1; have f1 := kb.frozen 1
              have k2 := kb.cell 2; have f2 := kb.frozen 2
              simp at k0 k1 k2
              refine ⟨undef, (((we.setCell ⟨wN.heap.size, 0, none⟩ (.int .i64 x9)).setCell ⟨wN.heap.size, 1, none⟩ (.int .i64 0)).setCell ⟨wN.heap.size, 2, none⟩ (.string ⟨#[]⟩)), (k + 1 + 1, [(wN.heap.size, [.int .i64 x9, .int .i64 0, .string ⟨#[]⟩])], []), .inr ⟨by simp [go_sem, Act.put, k0, f0, k1, f1, k2, f2], rfl⟩, Lib.hid (((he.out.put 0 _).put 1 _).put 2 _).drop, ?_⟩
              clear he kb k0 f0 k1 f1 k2 f2
              exact ⟨by kernel_rfl, ⟨wm.heap.size, n2, v6, x7, x8, x9, wN.heap.size, x4⟩, rfl, by kernel_rfl⟩
            · skip
              refine hOp_special (d := some 5) rfl rfl rfl (by kernel_rfl) fun wN hc => ⟨.pointer (some ⟨wN.heap.size, 0, none⟩), wN.alloc (.cells #[.int .i64 0, .int .i64 0, .string ⟨#[]⟩] 87), (k + 1 + 1, [(wN.heap.size, [.int .i64 0, .int .i64 0, .string ⟨#[]⟩])], [(.slice (some ⟨wm.heap.size, 0, none⟩) 7 7, kindsL)]), by kernel_rfl, Lib.hid (hc.out.box [.int .i64 0, .int .i64 0, .string ⟨#[]⟩]), ?_⟩
              clear hc
              refine wpAnyH_special (i := 4) (d := some 13) rfl (by kernel_rfl) rfl rfl (by kernel_rfl) fun wq4 hc => ⟨.int .i64 (nth kindsL n2), wq4, (k + 1 + 1, [(wN.heap.size, [.int .i64 0, .int .i64 0, .string ⟨#[]⟩])], [(.slice (some ⟨wm.heap.size, 0, none⟩) 7 7, kindsL)]), .inl (by simp [go_sem, own_at (hc.out.dx.ls _ (.head _)) rfl (j := n2) (by omega)]), hc, ?_⟩
              clear hc
              generalize nth kindsL n2 = x4
              refine wpAnyH_takeI (i := 9) (d := some 18) rfl (by kernel_rfl) rfl rfl (by kernel_rfl) (by kernel_rfl) (by kernel_rfl) ⟨_, fun _ => by simp [go_sem]; rfl⟩ fun x9 => ?_
              refine wpAnyH_take (i := 10) (d := some 19) (.agg #[.int .i64 x9, .int .i64 0, .string ⟨#[]⟩]) rfl (by kernel_rfl) rfl rfl (by kernel_rfl) (by kernel_rfl) (by kernel_rfl) (fun _ => by kernel_rfl) ?_
              refine wpAnyH_special (i := 12) (d := none) rfl (by kernel_rfl) rfl rfl (by kernel_rfl) fun we he => ?_
              have kb := he.out.boxed
              have k0 := kb.cell 0; have f0 := kb.frozen 0
              have k1 := kb.cell 1; have f1 := kb.frozen 1
              have k2 := kb.cell 2; have f2 := kb.frozen 2
              simp at k0 k1 k2
              refine ⟨undef, (((we.setCell ⟨wN.heap.size, 0, none⟩ (.int .i64 x9)).setCell ⟨wN.heap.size, 1, none⟩ (.int .i64 0)).setCell ⟨wN.heap.size, 2, none⟩ (.string ⟨#[]⟩)), (k + 1 + 1, [(wN.heap.size, [.int .i64 x9, .int .i64 0, .string ⟨#[]⟩])], []), .inr ⟨by simp [go_sem, Act.put, k0, f0, k1, f1, k2, f2], rfl⟩, Lib.hid (((he.out.put 0 _).put 1 _).put 2 _).drop, ?_⟩
              clear he kb k0 f0 k1 f1 k2 f2
              exact ⟨by kernel_rfl, ⟨wm.heap.size, n2, v6, x7, x8, x9, wN.heap.size, x4⟩, rfl, by kernel_rfl⟩
          · skip
            refine hOp_special (d := some 5) rfl rfl rfl (by kernel_rfl) fun wN hc => ⟨.pointer (some ⟨wN.heap.size, 0, none⟩), wN.alloc (.cells #[.int .i64 0, .int .i64 0, .string ⟨#[]⟩] 87), (k + 1 + 1, [(wN.heap.size, [.int .i64 0, .int .i64 0, .string ⟨#[]⟩])], []), by kernel_rfl, Lib.hid (hc.out.box [.int .i64 0, .int .i64 0, .string ⟨#[]⟩]), ?_⟩
            clear hc
            refine wpAnyH_special (i := 0) (d := some 9) rfl (by kernel_rfl) rfl rfl (by kernel_rfl) fun wm hc => ⟨.slice (some ⟨wm.heap.size, 0, none⟩) 7 7, wm.alloc (.cells #[.int .i64 0, .int .i64 0, .int .i64 1, .int .i64 1, .int .i64 1, .int .i64 1, .int .i64 2] 3), (k + 1 + 1, [(wN.heap.size, [.int .i64 0, .int .i64 0, .string ⟨#[]⟩])], [(.slice (some ⟨wm.heap.size, 0, none⟩) 7 7, kindsL)]), .inl (by kernel_rfl), Lib.hid (hc.out.build kindsL (by decide)), ?_⟩
            clear hc
            refine wpAnyH_take (i := 3) (d := some 12) (.pointer (some ⟨wm.heap.size, n2, none⟩)) rfl (by kernel_rfl) rfl rfl (by kernel_rfl) (by kernel_rfl) (by kernel_rfl) (fun _ => by simp [go_sem]; omega) ?_
            refine wpAnyH_special (i := 4) (d := some 13) rfl (by kernel_rfl) rfl rfl (by kernel_rfl) fun wq4 hc => ⟨.int .i64 (nth kindsL n2), wq4, (k + 1 + 1, [(wN.heap.size, [.int .i64 0, .int .i64 0, .string ⟨#[]⟩])], [(.slice (some ⟨wm.heap.size, 0, none⟩) 7 7, kindsL)]), .inl (by simp [go_sem, own_at (hc.out.dx.ls _ (.head _)) rfl (j := n2) (by omega)]), hc, ?_⟩
            clear hc
            generalize nth kindsL n2 = x4
            refine wpAnyH_takeI (i := 9) (d := some 18) rfl (by kernel_rfl) rfl rfl (by kernel_rfl) (by kernel_rfl) (by kernel_rfl) ⟨_, fun _ => by simp [go_sem]; rfl⟩ fun x9 => ?_
            refine wpAnyH_take (i := 10) (d := some 19) (.agg #[.int .i64 x9, .int .i64 0, .string ⟨#[]⟩]) rfl (by kernel_rfl) rfl rfl (by kernel_rfl) (by kernel_rfl) (by kernel_rfl) (fun _ => by kernel_rfl) ?_
            refine wpAnyH_special (i := 12) (d := none) rfl (by kernel_rfl) rfl rfl (by kernel_rfl) fun we he => ?_
            have kb := he.out.boxed
            have k0 := kb.cell 0; have f0 := kb.frozen 0
            have k1 := kb.cell 1; have f1 := kb.frozen 1
            have k2 := kb.cell 2; have f2 := kb.frozen 2
            simp at k0 k1 k2
            refine ⟨undef, (((we.setCell ⟨wN.heap.size, 0, none⟩ (.int .i64 x9)).setCell ⟨wN.heap.size, 1, none⟩ (.int .i64 0)).setCell ⟨wN.heap.size, 2, none⟩ (.string ⟨#[]⟩)), (k + 1 + 1, [(wN.heap.size, [.int .i64 x9, .int .i64 0, .string ⟨#[]⟩])], []), .inr ⟨by simp [go_sem, Act.put, k0, f0, k1, f1, k2, f2], rfl⟩, Lib.hid (((he.out.put 0 _).put 1 _).put 2 _).drop, ?_⟩
            clear he kb k0 f0 k1 f1 k2 f2
            exact ⟨by kernel_rfl, ⟨wm.heap.size, n2, v6, x7, x8, x9, wN.heap.size, x4⟩, rfl, by kernel_rfl⟩
        · skip
          refine hOp_special (d := some 5) rfl rfl rfl (by kernel_rfl) fun wN hc => ⟨.pointer (some ⟨wN.heap.size, 0, none⟩), wN.alloc (.cells #[.int .i64 0, .int .i64 0, .string ⟨#[]⟩] 87), (k + 1, [(wN.heap.size, [.int .i64 0, .int .i64 0, .string ⟨#[]⟩])], []), by kernel_rfl, Lib.hid (hc.out.box [.int .i64 0, .int .i64 0, .string ⟨#[]⟩]), ?_⟩
          clear hc
          refine wpAnyH_two 0 6 (by kernel_rfl) ?_ ?_
          · skip
            refine hOp_special (d := some 9) rfl rfl rfl (by kernel_rfl) fun wm hc => ⟨.slice (some ⟨wm.heap.size, 0, none⟩) 7 7, wm.alloc (.cells #[.int .i64 0, .int .i64 0, .int .i64 1, .int .i64 1, .int .i64 1, .int .i64 1, .int .i64 2] 3), (k + 1, [(wN.heap.size, [.int .i64 0, .int .i64 0, .string ⟨#[]⟩])], [(.slice (some ⟨wm.heap.size, 0, none⟩) 7 7, kindsL)]), by kernel_rfl, Lib.hid (hc.out.build kindsL (by decide)), ?_⟩
            clear hc
            refine wpAnyH_take (i := 3) (d := some 12) (.pointer (some ⟨wm.heap.size, n2, none⟩)) rfl (by kernel_rfl) rfl rfl (by kernel_rfl) (by kernel_rfl) (by kernel_rfl) (fun _ => by simp [go_sem]; omega) ?_
            refine wpAnyH_two 4 6 (by kernel_rfl) ?_ ?_
            · skip
              refine hOp_special (d := some 13) rfl rfl rfl (by kernel_rfl) fun wq4 hc => ⟨.int .i64 (nth kindsL n2), wq4, (k + 1, [(wN.heap.size, [.int .i64 0, .int .i64 0, .string ⟨#[]⟩])], [(.slice (some ⟨wm.heap.size, 0, none⟩) 7 7, kindsL)]), by simp [go_sem, own_at (hc.out.dx.ls _ (.head _)) rfl (j := n2) (by omega)], hc, ?_⟩
              clear hc
              generalize nth kindsL n2 = x4
              refine wpAnyH_call (i := 6) (d := some 15) 55 #[.pointer (some ⟨R, 0, none⟩), .int .i64 60] rfl (by kernel_rfl) rfl rfl (by kernel_rfl) (fun _ => by kernel_rfl) fun wa6 hc => ?_
              refine (pick_any R (k + 1) 60 wa6 hc.out.dx.rd (by omega)).mono ?_
              rintro e wb6 ⟨v6, rfl, lo6, hi6, m6, hw6⟩
              have hi6 := hi6 (by omega)
              refine ⟨_, rfl, (k + 1 + 1, [(wN.heap.size, [.int .i64 0, .int .i64 0, .string ⟨#[]⟩])], [(.slice (some ⟨wm.heap.size, 0, none⟩) 7 7, kindsL)]), Lib.hid (hc.out.next hw6), ?_⟩
              clear hw6 hc
              refine wpAnyH_takeI (i := 7) (d := some 16) rfl (by kernel_rfl) rfl rfl (by kernel_rfl) (by kernel_rfl) (by kernel_rfl) ⟨_, fun _ => by simp [go_sem]; rfl⟩ fun x7 => ?_
              refine wpAnyH_takeI (i := 8) (d := some 17) rfl (by kernel_rfl) rfl rfl (by kernel_rfl) (by kernel_rfl) (by kernel_rfl) ⟨_, fun _ => by simp [go_sem]; rfl⟩ fun x8 => ?_
              refine wpAnyH_takeI (i := 9) (d := some 18) rfl (by kernel_rfl) rfl rfl (by kernel_rfl) (by kernel_rfl) (by kernel_rfl) ⟨_, fun _ => by simp [go_sem]; rfl⟩ fun x9 => ?_
              refine wpAnyH_take (i := 10) (d := some 19) (.agg #[.int .i64 x9, .int .i64 0, .string ⟨#[]⟩]) rfl (by kernel_rfl) rfl rfl (by kernel_rfl) (by kernel_rfl) (by kernel_rfl) (fun _ => by kernel_rfl) ?_
              refine wpAnyH_special (i := 12) (d := none) rfl (by kernel_rfl) rfl rfl (by kernel_rfl) fun we he => ?_
              have kb := he.out.boxed
              have k0 := kb.cell 0; have f0 := kb.frozen 0
              have k1 := kb.cell 1; have f1 := kb.frozen 1
              have k2 := kb.cell 2; have f2 := kb.frozen 2
              simp at k0 k1 k2
              refine ⟨undef, (((we.setCell ⟨wN.heap.size, 0, none⟩ (.int .i64 x9)).setCell ⟨wN.heap.size, 1, none⟩ (.int .i64 0)).setCell ⟨wN.heap.size, 2, none⟩ (.string ⟨#[]⟩)), (k + 1 + 1, [(wN.heap.size, [.int .i64 x9, .int .i64 0, .string ⟨#[]⟩])], []), .inr ⟨by simp [go_sem, Act.put, k0, f0, k1, f1, k2, f2], rfl⟩, Lib.hid (((he.out.put 0 _).put 1 _).put 2 _).drop, ?_⟩
              clear he kb k0 f0 k1 f1 k2 f2
              exact ⟨by kernel_rfl, ⟨wm.heap.size, n2, v6, x7, x8, x9, wN.heap.size, x4⟩, rfl, by kernel_rfl⟩
            · skip
              refine hOp_call 55 #[.pointer (some ⟨R, 0, none⟩), .int .i64 60] (d := some 15) rfl rfl rfl (by kernel_rfl) (fun _ => by kernel_rfl) fun wa6 hc => ?_
              refine (pick_any R (k + 1) 60 wa6 hc.out.dx.rd (by omega)).mono ?_
              rintro e wb6 ⟨v6, rfl, lo6, hi6, m6, hw6⟩
              have hi6 := hi6 (by omega)
              refine ⟨_, rfl, (k + 1 + 1, [(wN.heap.size, [.int .i64 0, .int .i64 0, .string ⟨#[]⟩])], [(.slice (some ⟨wm.heap.size, 0, none⟩) 7 7, kindsL)]), Lib.hid (hc.out.next hw6), ?_⟩
              clear hw6 hc
              refine wpAnyH_takeI (i := 7) (d := some 16) rfl (by kernel_rfl) rfl rfl (by kernel_rfl) (by kernel_rfl) (by kernel_rfl) ⟨_, fun _ => by simp [go_sem]; rfl⟩ fun x7 => ?_
              refine wpAnyH_takeI (i := 8) (d := some 17) rfl (by kernel_rfl) rfl rfl (by kernel_rfl) (by kernel_rfl) (by kernel_rfl) ⟨_, fun _ => by simp [go_sem]; rfl⟩ fun x8 => ?_
              refine wpAnyH_special (i := 4) (d := some 13) rfl (by kernel_rfl) rfl rfl (by kernel_rfl) fun wq4 hc => ⟨.int .i64 (nth kindsL n2), wq4, (k + 1 + 1, [(wN.heap.size, [.int .i64 0, .int .i64 0, .string ⟨#[]⟩])], [(.slice (some ⟨wm.heap.size, 0, none⟩) 7 7, kindsL)]), .inl (by simp [go_sem, own_at (hc.out.dx.ls _ (.head _)) rfl (j := n2) (by omega)]), hc, ?_⟩
              clear hc
              generalize nth kindsL n2 = x4
              refine wpAnyH_takeI (i := 9) (d := some 18) rfl (by kernel_rfl) rfl rfl (by kernel_rfl) (by kernel_rfl) (by kernel_rfl) ⟨_, fun _ => by simp [go_sem]; rfl⟩ fun x9 => ?_
              refine wpAnyH_take (i := 10) (d := some 19) (.agg #[.int .i64 x9, .int .i64 0, .string ⟨#[]⟩]) rfl (by kernel_rfl) rfl rfl (by kernel_rfl) (by kernel_rfl) (by kernel_rfl) (fun _ => by kernel_rfl) ?_
              refine wpAnyH_special (i := 12) (d := none) rfl (by kernel_rfl) rfl rfl (by kernel_rfl) fun we he => ?_
              have kb := he.out.boxed
              have k0 := kb.cell 0; have f0 := kb.frozen 0
              have k1 := kb.cell 1; have f1 := kb.frozen 1
              have k2 := kb.cell 2; have f2 := kb.frozen 2
              simp at k0 k1 k2
              refine ⟨undef, (((we.setCell ⟨wN.heap.size, 0, none⟩ (.int .i64 x9)).setCell ⟨wN.heap.size, 1, none⟩ (.int .i64 0)).setCell ⟨wN.heap.size, 2, none⟩ (.string ⟨#[]⟩)), (k + 1 + 1, [(wN.heap.size, [.int .i64 x9, .int .i64 0, .string ⟨#[]⟩])], []), .inr ⟨by simp [go_sem, Act.put, k0, f0, k1, f1, k2, f2], rfl⟩, Lib.hid (((he.out.put 0 _).put 1 _).put 2 _).drop, ?_⟩
              clear he kb k0 f0 k1 f1 k2 f2
              exact ⟨by kernel_rfl, ⟨wm.heap.size, n2, v6, x7, x8, x9, wN.heap.size, x4⟩, rfl, by kernel_rfl⟩
          · skip
            refine hOp_call 55 #[.pointer (some ⟨R, 0, none⟩), .int .i64 60] (d := some 15) rfl rfl rfl (by kernel_rfl) (fun _ => by kernel_rfl) fun wa6 hc => ?_
            refine (pick_any R (k + 1) 60 wa6 hc.out.dx.rd (by omega)).mono ?_
            rintro e wb6 ⟨v6, rfl, lo6, hi6, m6, hw6⟩
            have hi6 := hi6 (by omega)
            refine ⟨_, rfl, (k + 1 + 1, [(wN.heap.size, [.int .i64 0, .int .i64 0, .string ⟨#[]⟩])], []), Lib.hid (hc.out.next hw6), ?_⟩
            clear hw6 hc
            refine wpAnyH_takeI (i := 7) (d := some 16) rfl (by kernel_rfl) rfl rfl (by kernel_rfl) (by kernel_rfl) (by kernel_rfl) ⟨_, fun _ => by simp [go_sem]; rfl⟩ fun x7 => ?_
            refine wpAnyH_takeI (i := 8) (d := some 17) rfl (by kernel_rfl) rfl rfl (by kernel_rfl) (by kernel_rfl) (by kernel_rfl) ⟨_, fun _ => by simp [go_sem]; rfl⟩ fun x8 => ?_
            refine wpAnyH_special (i := 0) (d := some 9) rfl (by kernel_rfl) rfl rfl (by kernel_rfl) fun wm hc => ⟨.slice (some ⟨wm.heap.size, 0, none⟩) 7 7, wm.alloc (.cells #[.int .i64 0, .int .i64 0, .int .i64 1, .int .i64 1, .int .i64 1, .int .i64 1, .int .i64 2] 3), (k + 1 + 1, [(wN.heap.size, [.int .i64 0, .int .i64 0, .string ⟨#[]⟩])], [(.slice (some ⟨wm.heap.size, 0, none⟩) 7 7, kindsL)]), .inl (by kernel_rfl), Lib.hid (hc.out.build kindsL (by decide)), ?_⟩
            clear hc
            refine wpAnyH_take (i := 3) (d := some 12) (.pointer (some ⟨wm.heap.size, n2, none⟩)) rfl (by kernel_rfl) rfl rfl (by kernel_rfl) (by kernel_rfl) (by kernel_rfl) (fun _ => by simp [go_sem]; omega) ?_
            refine wpAnyH_special (i := 4) (d := some 13) rfl (by kernel_rfl) rfl rfl (by kernel_rfl) fun wq4 hc => ⟨.int .i64 (nth kindsL n2), wq4, (k + 1 + 1, [(wN.heap.size, [.int .i64 0, .int .i64 0, .string ⟨#[]⟩])], [(.slice (some ⟨wm.heap.size, 0, none⟩) 7 7, kindsL)]), .inl (by simp [go_sem, own_at (hc.out.dx.ls _ (.head _)) rfl (j := n2) (by omega)]), hc, ?_⟩
            clear hc
            generalize nth kindsL n2 = x4
            refine wpAnyH_takeI (i := 9) (d := some 18) rfl (by kernel_rfl) rfl rfl (by kernel_rfl) (by kernel_rfl) (by kernel_rfl) ⟨_, fun _ => by simp [go_sem]; rfl⟩ fun x9 => ?_
            refine wpAnyH_take (i := 10) (d := some 19) (.agg #[.int .i64 x9, .int .i64 0, .string ⟨#[]⟩]) rfl (by kernel_rfl) rfl rfl (by kernel_rfl) (by kernel_rfl) (by kernel_rfl) (fun _ => by kernel_rfl) ?_
            refine wpAnyH_special (i := 12) (d := none) rfl (by kernel_rfl) rfl rfl (by kernel_rfl) fun we he => ?_
            have kb := he.out.boxed
            have k0 := kb.cell 0; have f0 := kb.frozen 0
            have k1 := kb.cell 1; have f1 := kb.frozen 1
            have k2 := kb.cell 2; have f2 := kb.frozen 2
            simp at k0 k1 k2
            refine ⟨undef, (((we.setCell ⟨wN.heap.size, 0, none⟩ (.int .i64 x9)).setCell ⟨wN.heap.size, 1, none⟩ (.int .i64 0)).setCell ⟨wN.heap.size, 2, none⟩ (.string ⟨#[]⟩)), (k + 1 + 1, [(wN.heap.size, [.int .i64 x9, .int .i64 0, .string ⟨#[]⟩])], []), .inr ⟨by simp [go_sem, Act.put, k0, f0, k1, f1, k2, f2], rfl⟩, Lib.hid (((he.out.put 0 _).put 1 _).put 2 _).drop, ?_⟩
            clear he kb k0 f0 k1 f1 k2 f2
            exact ⟨by kernel_rfl, ⟨wm.heap.size, n2, v6, x7, x8, x9, wN.heap.size, x4⟩, rfl, by kernel_rfl⟩
      · skip
        refine hOp_special (d := some 5) rfl rfl rfl (by kernel_rfl) fun wN hc => ⟨.pointer (some ⟨wN.heap.size, 0, none⟩), wN.alloc (.cells #[.int .i64 0, .int .i64 0, .string ⟨#[]⟩] 87), (k, [(wN.heap.size, [.int .i64 0, .int .i64 0, .string ⟨#[]⟩])], []), by kernel_rfl, Lib.hid (hc.out.box [.int .i64 0, .int .i64 0, .string ⟨#[]⟩]), ?_⟩
        clear hc
        refine wpAnyH_two 0 2 (by kernel_rfl) ?_ ?_
        · skip
          refine hOp_special (d := some 9) rfl rfl rfl (by kernel_rfl) fun wm hc => ⟨.slice (some ⟨wm.heap.size, 0, none⟩) 7 7, wm.alloc (.cells #[.int .i64 0, .int .i64 0, .int .i64 1, .int .i64 1, .int .i64 1, .int .i64 1, .int .i64 2] 3), (k, [(wN.heap.size, [.int .i64 0, .int .i64 0, .string ⟨#[]⟩])], [(.slice (some ⟨wm.heap.size, 0, none⟩) 7 7, kindsL)]), by kernel_rfl, Lib.hid (hc.out.build kindsL (by decide)), ?_⟩
          clear hc
          refine wpAnyH_call (i := 2) (d := some 11) 55 #[.pointer (some ⟨R, 0, none⟩), .int .i64 7] rfl (by kernel_rfl) rfl rfl (by kernel_rfl) (fun _ => by kernel_rfl) fun wa2 hc => ?_
          refine (pick_any R (k) 7 wa2 hc.out.dx.rd (by omega)).mono ?_
          rintro e wb2 ⟨v2, rfl, lo2, hi2, m2, hw2⟩
          have hi2 := hi2 (by omega)
          obtain ⟨n2, rfl⟩ := Int.eq_ofNat_of_zero_le lo2
          refine ⟨_, rfl, (k + 1, [(wN.heap.size, [.int .i64 0, .int .i64 0, .string ⟨#[]⟩])], [(.slice (some ⟨wm.heap.size, 0, none⟩) 7 7, kindsL)]), Lib.hid (hc.out.next hw2), ?_⟩
          clear hw2 hc
          refine wpAnyH_take (i := 3) (d := some 12) (.pointer (some ⟨wm.heap.size, n2, none⟩)) rfl (by kernel_rfl) rfl rfl (by kernel_rfl) (by kernel_rfl) (by kernel_rfl) (fun _ => by simp [go_sem]; omega) ?_
          refine wpAnyH_two 4 6 (by kernel_rfl) ?_ ?_
          · skip
            refine hOp_special (d := some 13) rfl rfl rfl (by kernel_rfl) fun wq4 hc => ⟨.int .i64 (nth kindsL n2), wq4, (k + 1, [(wN.heap.size, [.int .i64 0, .int .i64 0, .string ⟨#[]⟩])], [(.slice (some ⟨wm.heap.size, 0, none⟩) 7 7, kindsL)]), by simp [go_sem, own_at (hc.out.dx.ls _ (.head _)) rfl (j := n2) (by omega)], hc, ?_⟩
            clear hc
            generalize nth kindsL n2 = x4
            refine wpAnyH_call (i := 6) (d := some 15) 55 #[.pointer (some ⟨R, 0, none⟩), .int .i64 60] rfl (by kernel_rfl) rfl rfl (by kernel_rfl) (fun _ => by kernel_rfl) fun wa6 hc => ?_
            refine (pick_any R (k + 1) 60 wa6 hc.out.dx.rd (by omega)).mono ?_
            rintro e wb6 ⟨v6, rfl, lo6, hi6, m6, hw6⟩
            have hi6 := hi6 (by omega)
            refine ⟨_, rfl, (k + 1 + 1, [(wN.heap.size, [.int .i64 0, .int .i64 0, .string ⟨#[]⟩])], [(.slice (some ⟨wm.heap.size, 0, none⟩) 7 7, kindsL)]), Lib.hid (hc.out.next hw6), ?_⟩
            clear hw6 hc
            refine wpAnyH_takeI (i := 7) (d := some 16) rfl (by kernel_rfl) rfl rfl (by kernel_rfl) (by kernel_rfl) (by kernel_rfl) ⟨_, fun _ => by simp [go_sem]; rfl⟩ fun x7 => ?_
            refine wpAnyH_takeI (i := 8) (d := some 17) rfl (by kernel_rfl) rfl rfl (by kernel_rfl) (by kernel_rfl) (by kernel_rfl) ⟨_, fun _ => by simp [go_sem]; rfl⟩ fun x8 => ?_
            refine wpAnyH_takeI (i := 9) (d := some 18) rfl (by kernel_rfl) rfl rfl (by kernel_rfl) (by kernel_rfl) (by kernel_rfl) ⟨_, fun _ => by simp [go_sem]; rfl⟩ fun x9 => ?_
            refine wpAnyH_take (i := 10) (d := some 19) (.agg #[.int .i64 x9, .int .i64 0, .string ⟨#[]⟩]) rfl (by kernel_rfl) rfl rfl (by kernel_rfl) (by kernel_rfl) (by kernel_rfl) (fun _ => by kernel_rfl) ?_
            refine wpAnyH_special (i := 12) (d := none) rfl (by kernel_rfl) rfl rfl (by kernel_rfl) fun we he => ?_
            have kb := he.out.boxed
            have k0 := kb.cell 0; have f0 := kb.frozen 0
            have k1 := kb.cell 1; have f1 := kb.frozen 1
            have k2 := kb.cell 2; have f2 := kb.frozen 2
            simp at k0 k1 k2
            refine ⟨undef, (((we.setCell ⟨wN.heap.size, 0, none⟩ (.int .i64 x9)).setCell ⟨wN.heap.size, 1, none⟩ (.int .i64 0)).setCell ⟨wN.heap.size, 2, none⟩ (.string ⟨#[]⟩)), (k + 1 + 1, [(wN.heap.size, [.int .i64 x9, .int .i64 0, .string ⟨#[]⟩])], []), .inr ⟨by simp [go_sem, Act.put, k0, f0, k1, f1, k2, f2], rfl⟩, Lib.hid (((he.out.put 0 _).put 1 _).put 2 _).drop, ?_⟩
            clear he kb k0 f0 k1 f1 k2 f2
            exact ⟨by kernel_rfl, ⟨wm.heap.size, n2, v6, x7, x8, x9, wN.heap.size, x4⟩, rfl, by kernel_rfl⟩
          · skip
            refine hOp_call 55 #[.pointer (some ⟨R, 0, none⟩), .int .i64 60] (d := some 15) rfl rfl rfl (by kernel_rfl) (fun _ => by kernel_rfl) fun wa6 hc => ?_
            refine (pick_any R (k + 1) 60 wa6 hc.out.dx.rd (by omega)).mono ?_
            rintro e wb6 ⟨v6, rfl, lo6, hi6, m6, hw6⟩
            have hi6 := hi6 (by omega)
            refine ⟨_, rfl, (k + 1 + 1, [(wN.heap.size, [.int .i64 0, .int .i64 0, .string ⟨#[]⟩])], [(.slice (some ⟨wm.heap.size, 0, none⟩) 7 7, kindsL)]), Lib.hid (hc.out.next hw6), ?_⟩
            clear hw6 hc
            refine wpAnyH_takeI (i := 7) (d := some 16) rfl (by kernel_rfl) rfl rfl (by kernel_rfl) (by kernel_rfl) (by kernel_rfl) ⟨_, fun _ => by simp [go_sem]; rfl⟩ fun x7 => ?_
            refine wpAnyH_takeI (i := 8) (d := some 17) rfl (by kernel_rfl) rfl rfl (by kernel_rfl) (by kernel_rfl) (by kernel_rfl) ⟨_, fun _ => by simp [go_sem]; rfl⟩ fun x8 => ?_
            refine wpAnyH_special (i := 4) (d := some 13) rfl (by kernel_rfl) rfl rfl (by kernel_rfl) fun wq4 hc => ⟨.int .i64 (nth kindsL n2), wq4, (k + 1 + 1, [(wN.heap.size, [.int .i64 0, .int .i64 0, .string ⟨#[]⟩])], [(.slice (some ⟨wm.heap.size, 0, none⟩) 7 7, kindsL)]), .inl (by simp [go_sem, own_at (hc.out.dx.ls _ (.head _)) rfl (j := n2) (by omega)]), hc, ?_⟩
            clear hc
            generalize nth kindsL n2 = x4
            refine wpAnyH_takeI (i := 9) (d := some 18) rfl (by kernel_rfl) rfl rfl (by kernel_rfl) (by kernel_rfl) (by kernel_rfl) ⟨_, fun _ => by simp [go_sem]; rfl⟩ fun x9 => ?_
            refine wpAnyH_take (i := 10) (d := some 19) (.agg #[.int .i64 x9, .int .i64 0, .string ⟨#[]⟩]) rfl (by kernel_rfl) rfl rfl (by kernel_rfl) (by kernel_rfl) (by kernel_rfl) (fun _ => by kernel_rfl) ?_
            refine wpAnyH_special (i := 12) (d := none) rfl (by kernel_rfl) rfl rfl (by kernel_rfl) fun we he => ?_
            have kb := he.out.boxed
            have k0 := kb.cell 0; have f0 := kb.frozen 0
            have k1 := kb.cell 1; have f1 := kb.frozen 1
            have k2 := kb.cell 2; have f2 := kb.frozen 2
            simp at k0 k1 k2
            refine ⟨undef, (((we.setCell ⟨wN.heap.size, 0, none⟩ (.int .i64 x9)).setCell ⟨wN.heap.size, 1, none⟩ (.int .i64 0)).setCell ⟨wN.heap.size, 2, none⟩ (.string ⟨#[]⟩)), (k + 1 + 1, [(wN.heap.size, [.int .i64 x9, .int .i64 0, .string ⟨#[]⟩])], []), .inr ⟨by simp [go_sem, Act.put, k0, f0, k1, f1, k2, f2], rfl⟩, Lib.hid (((he.out.put 0 _).put 1 _).put 2 _).drop, ?_⟩
            clear he kb k0 f0 k1 f1 k2 f2
            exact ⟨by kernel_rfl, ⟨wm.heap.size, n2, v6, x7, x8, x9, wN.heap.size, x4⟩, rfl, by kernel_rfl⟩
        · skip
          refine hOp_call 55 #[.pointer (some ⟨R, 0, none⟩), .int .i64 7] (d := some 11) rfl rfl rfl (by kernel_rfl) (fun _ => by kernel_rfl) fun wa2 hc => ?_
          refine (pick_any R (k) 7 wa2 hc.out.dx.rd (by omega)).mono ?_
          rintro e wb2 ⟨v2, rfl, lo2, hi2, m2, hw2⟩
          have hi2 := hi2 (by omega)
          obtain ⟨n2, rfl⟩ := Int.eq_ofNat_of_zero_le lo2
          refine ⟨_, rfl, (k + 1, [(wN.heap.size, [.int .i64 0, .int .i64 0, .string ⟨#[]⟩])], []), Lib.hid (hc.out.next hw2), ?_⟩
          clear hw2 hc
          refine wpAnyH_two 0 6 (by kernel_rfl) ?_ ?_
          · skip
            refine hOp_special (d := some 9) rfl rfl rfl (by kernel_rfl) fun wm hc => ⟨.slice (some ⟨wm.heap.size, 0, none⟩) 7 7, wm.alloc (.cells #[.int .i64 0, .int .i64 0, .int .i64 1, .int .i64 1, .int .i64 1, .int .i64 1, .int .i64 2] 3), (k + 1, [(wN.heap.size, [.int .i64 0, .int .i64 0, .string ⟨#[]⟩])], [(.slice (some ⟨wm.heap.size, 0, none⟩) 7 7, kindsL)]), by kernel_rfl, Lib.hid (hc.out.build kindsL (by decide)), ?_⟩
            clear hc
            refine wpAnyH_take (i := 3) (d := some 12) (.pointer (some ⟨wm.heap.size, n2, none⟩)) rfl (by kernel_rfl) rfl rfl (by kernel_rfl) (by kernel_rfl) (by kernel_rfl) (fun _ => by simp [go_sem]; omega) ?_
            refine wpAnyH_two 4 6 (by kernel_rfl) ?_ ?_
            · skip
              refine hOp_special (d := some 13) rfl rfl rfl (by kernel_rfl) fun wq4 hc => ⟨.int .i64 (nth kindsL n2), wq4, (k + 1, [(wN.heap.size, [.int .i64 0, .int .i64 0, .string ⟨#[]⟩])], [(.slice (some ⟨wm.heap.size, 0, none⟩) 7 7, kindsL)]), by simp [go_sem, own_at (hc.out.dx.ls _ (.head _)) rfl (j := n2) (by omega)], hc, ?_⟩
              clear hc
              generalize nth kindsL n2 = x4
              refine wpAnyH_call (i := 6) (d := some 15) 55 #[.pointer (some ⟨R, 0, none⟩), .int .i64 60] rfl (by kernel_rfl) rfl rfl (by kernel_rfl) (fun _ => by kernel_rfl) fun wa6 hc => ?_
              refine (pick_any R (k + 1) 60 wa6 hc.out.dx.rd (by omega)).mono ?_
              rintro e wb6 ⟨v6, rfl, lo6, hi6, m6, hw6⟩
              have hi6 := hi6 (by omega)
              refine ⟨_, rfl, (k + 1 + 1, [(wN.heap.size, [.int .i64 0, .int .i64 0, .string ⟨#[]⟩])], [(.slice (some ⟨wm.heap.size, 0, none⟩) 7 7, kindsL)]), Lib.hid (hc.out.next hw6), ?_⟩
              clear hw6 hc
              refine wpAnyH_takeI (i := 7) (d := some 16) rfl (by kernel_rfl) rfl rfl (by kernel_rfl) (by kernel_rfl) (by kernel_rfl) ⟨_, fun _ => by simp [go_sem]; rfl⟩ fun x7 => ?_
              refine wpAnyH_takeI (i := 8) (d := some 17) rfl (by kernel_rfl) rfl rfl (by kernel_rfl) (by kernel_rfl) (by kernel_rfl) ⟨_, fun _ => by simp [go_sem]; rfl⟩ fun x8 => ?_
              refine wpAnyH_takeI (i := 9) (d := some 18) rfl (by kernel_rfl) rfl rfl (by kernel_rfl) (by kernel_rfl) (by kernel_rfl) ⟨_, fun _ => by simp [go_sem]; rfl⟩ fun x9 => ?_
              refine wpAnyH_take (i := 10) (d := some 19) (.agg #[.int .i64 x9, .int .i64 0, .string ⟨#[]⟩]) rfl (by kernel_rfl) rfl rfl (by kernel_rfl) (by kernel_rfl) (by kernel_rfl) (fun _ => by kernel_rfl) ?_
              refine wpAnyH_special (i := 12) (d := none) rfl (by kernel_rfl) rfl rfl (by kernel_rfl) fun we he => ?_
              have kb := he.out.boxed
              have k0 := kb.cell 0; have f0 := kb.frozen 0
              have k1 := kb.cell 1; have f1 := kb.frozen 1
              have k2 := kb.cell 2; have f2 := kb.frozen 2
              simp at k0 k1 k2
              refine ⟨undef, (((we.setCell ⟨wN.heap.size, 0, none⟩ (.int .i64 x9)).setCell ⟨wN.heap.size, 1, none⟩ (.int .i64 0)).setCell ⟨wN.heap.size, 2, none⟩ (.string ⟨#[]⟩)), (k + 1 + 1, [(wN.heap.size, [.int .i64 x9, .int .i64 0, .string ⟨#[]⟩])], []), .inr ⟨by simp [go_sem, Act.put, k0, f0, k1, f1, k2, f2], rfl⟩, Lib.hid (((he.out.put 0 _).put 1 _).put 2 _).drop, ?_⟩
              clear he kb k0 f0 k1 f1 k2 f2
              exact ⟨by kernel_rfl, ⟨wm.heap.size, n2, v6, x7, x8, x9, wN.heap.size, x4⟩, rfl, by kernel_rfl⟩
            · skip
              refine hOp_call 55 #[.pointer (some ⟨R, 0, none⟩), .int .i64 60] (d := some 15) rfl rfl rfl (by kernel_rfl) (fun _ => by kernel_rfl) fun wa6 hc => ?_
              refine (pick_any R (k + 1) 60 wa6 hc.out.dx.rd (by omega)).mono ?_
              rintro e wb6 ⟨v6, rfl, lo6, hi6, m6, hw6⟩
              have hi6 := hi6 (by omega)
              refine ⟨_, rfl, (k + 1 + 1, [(wN.heap.size, [.int .i64 0, .int .i64 0, .string ⟨#[]⟩])], [(.slice (some ⟨wm.heap.size, 0, none⟩) 7 7, kindsL)]), Lib.hid (hc.out.next hw6), ?_⟩
              clear hw6 hc
              refine wpAnyH_takeI (i := 7) (d := some 16) rfl (by kernel_rfl) rfl rfl (by kernel_rfl) (by kernel_rfl) (by kernel_rfl) ⟨_, fun _ => by simp [go_sem]; rfl⟩ fun x7 => ?_
              refine wpAnyH_takeI (i := 8) (d := some 17) rfl (by kernel_rfl) rfl rfl (by kernel_rfl) (by kernel_rfl) (by kernel_rfl) ⟨_, fun _ => by simp [go_sem]; rfl⟩ fun x8 => ?_
              refine wpAnyH_special (i := 4) (d := some 13) rfl (by kernel_rfl) rfl rfl (by kernel_rfl) fun wq4 hc => ⟨.int .i64 (nth kindsL n2), wq4, (k + 1 + 1, [(wN.heap.size, [.int .i64 0, .int .i64 0, .string ⟨#[]⟩])], [(.slice (some ⟨wm.heap.size, 0, none⟩) 7 7, kindsL)]), .inl (by simp [go_sem, own_at (hc.out.dx.ls _ (.head _)) rfl (j := n2) (by omega)]), hc, ?_⟩
              clear hc
              generalize nth kindsL n2 = x4
              refine wpAnyH_takeI (i := 9) (d := some 18) rfl (by kernel_rfl) rfl rfl (by kernel_rfl) (by kernel_rfl) (by kernel_rfl) ⟨_, fun _ => by simp [go_sem]; rfl⟩ fun x9 => ?_
              refine wpAnyH_take (i := 10) (d := some 19) (.agg #[.int .i64 x9, .int .i64 0, .string ⟨#[]⟩]) rfl (by kernel_rfl) rfl rfl (by kernel_rfl) (by kernel_rfl) (by kernel_rfl) (fun _ => by kernel_rfl) ?_
              refine wpAnyH_special (i := 12) (d := none) rfl (by kernel_rfl) rfl rfl (by kernel_rfl) fun we he => ?_
              have kb := he.out.boxed
              have k0 := kb.cell 0; have f0 := kb.frozen 0
              have k1 := kb.cell 1; have f1 := kb.frozen 1
              have k2 := kb.cell 2; have f2 := kb.frozen 2
              simp at k0 k1 k2
              refine ⟨undef, (((we.setCell ⟨wN.heap.size, 0, none⟩ (.int .i64 x9)).setCell ⟨wN.heap.size, 1, none⟩ (.int .i64 0)).setCell ⟨wN.heap.size, 2, none⟩ (.string ⟨#[]⟩)), (k + 1 + 1, [(wN.heap.size, [.int .i64 x9, .int .i64 0, .string ⟨#[]⟩])], []), .inr ⟨by simp [go_sem, Act.put, k0, f0, k1, f1, k2, f2], rfl⟩, Lib.hid (((he.out.put 0 _).put 1 _).put 2 _).drop, ?_⟩
              clear he kb k0 f0 k1 f1 k2 f2
              exact ⟨by kernel_rfl, ⟨wm.heap.size, n2, v6, x7, x8, x9, wN.heap.size, x4⟩, rfl, by kernel_rfl⟩
          · skip
            refine hOp_call 55 #[.pointer (some ⟨R, 0, none⟩), .int .i64 60] (d := some 15) rfl rfl rfl (by kernel_rfl) (fun _ => by kernel_rfl) fun wa6 hc => ?_
            refine (pick_any R (k + 1) 60 wa6 hc.out.dx.rd (by omega)).mono ?_
            rintro e wb6 ⟨v6, rfl, lo6, hi6, m6, hw6⟩
            have hi6 := hi6 (by omega)
            refine ⟨_, rfl, (k + 1 + 1, [(wN.heap.size, [.int .i64 0, .int .i64 0, .string ⟨#[]⟩])], []), Lib.hid (hc.out.next hw6), ?_⟩
            clear hw6 hc
            refine wpAnyH_takeI (i := 7) (d := some 16) rfl (by kernel_rfl) rfl rfl (by kernel_rfl) (by kernel_rfl) (by kernel_rfl) ⟨_, fun _ => by simp [go_sem]; rfl⟩ fun x7 => ?_
            refine wpAnyH_takeI (i := 8) (d := some 17) rfl (by kernel_rfl) rfl rfl (by kernel_rfl) (by kernel_rfl) (by kernel_rfl) ⟨_, fun _ => by simp [go_sem]; rfl⟩ fun x8 => ?_
            refine wpAnyH_special (i := 0) (d := some 9) rfl (by kernel_rfl) rfl rfl (by kernel_rfl) fun wm hc => ⟨.slice (some ⟨wm.heap.size, 0, none⟩) 7 7, wm.alloc (.cells #[.int .i64 0, .int .i64 0, .int .i64 1, .int .i64 1, .int .i64 1, .int .i64 1, .int .i64 2] 3), (k + 1 + 1, [(wN.heap.size, [.int .i64 0, .int .i64 0, .string ⟨#[]⟩])], [(.slice (some ⟨wm.heap.size, 0, none⟩) 7 7, kindsL)]), .inl (by kernel_rfl), Lib.hid (hc.out.build kindsL (by decide)), ?_⟩
            clear hc
            refine wpAnyH_take (i := 3) (d := some 12) (.pointer (some ⟨wm.heap.size, n2, none⟩)) rfl (by kernel_rfl) rfl rfl (by kernel_rfl) (by kernel_rfl) (by kernel_rfl) (fun _ => by simp [go_sem]; omega) ?_
            refine wpAnyH_special (i := 4) (d := some 13) rfl (by kernel_rfl) rfl rfl (by kernel_rfl) fun wq4 hc => ⟨.int .i64 (nth kindsL n2), wq4, (k + 1 + 1, [(wN.heap.size, [.int .i64 0, .int .i64 0, .string ⟨#[]⟩])], [(.slice (some ⟨wm.heap.size, 0, none⟩) 7 7, kindsL)]), .inl (by simp [go_sem, own_at (hc.out.dx.ls _ (.head _)) rfl (j := n2) (by omega)]), hc, ?_⟩
            clear hc
            generalize nth kindsL n2 = x4
            refine wpAnyH_takeI (i := 9) (d := some 18) rfl (by kernel_rfl) rfl rfl (by kernel_rfl) (by kernel_rfl) (by kernel_rfl) ⟨_, fun _ => by simp [go_sem]; rfl⟩ fun x9 => ?_
            refine wpAnyH_take (i := 10) (d := some 19) (.agg #[.int .i64 x9, .int .i64 0, .string ⟨#[]⟩]) rfl (by kernel_rfl) rfl rfl (by kernel_rfl) (by kernel_rfl) (by kernel_rfl) (fun _ => by kernel_rfl) ?_
            refine wpAnyH_special (i := 12) (d := none) rfl (by kernel_rfl) rfl rfl (by kernel_rfl) fun we he => ?_
            have kb := he.out.boxed
            have k0 := kb.cell 0; have f0 := kb.frozen 0
            have k1 := kb.cell 1; have f1 := kb.frozen 1
            have k2 := kb.cell 2; have f2 := kb.frozen 2
            simp at k0 k1 k2
            refine ⟨undef, (((we.setCell ⟨wN.heap.size, 0, none⟩ (.int .i64 x9)).setCell ⟨wN.heap.size, 1, none⟩ (.int .i64 0)).setCell ⟨wN.heap.size, 2, none⟩ (.string ⟨#[]⟩)), (k + 1 + 1, [(wN.heap.size, [.int .i64 x9, .int .i64 0, .string ⟨#[]⟩])], []), .inr ⟨by simp [go_sem, Act.put, k0, f0, k1, f1, k2, f2], rfl⟩, Lib.hid (((he.out.put 0 _).put 1 _).put 2 _).drop, ?_⟩
            clear he kb k0 f0 k1 f1 k2 f2
            exact ⟨by kernel_rfl, ⟨wm.heap.size, n2, v6, x7, x8, x9, wN.heap.size, x4⟩, rfl, by kernel_rfl⟩
    · rintro ⟨M, n2, v6, x7, x8, kd, N, x4⟩ w2 hz
      dsimp only at hz ⊢
      simp only [Act.put, List.setIfInBounds_toArray, List.set_cons_zero, List.set_cons_succ]
      have D2 := Lib.hid (show Dx w R ((N, [.int .i64 kd, .int .i64 0, .string ⟨#[]⟩]) :: [(w.heap.size + 1, [.int .i64 0, .int .i64 0, .string ⟨#[]⟩]), (w.heap.size, [.int .i64 g, .slice va ns.length vc])]) [] (k + 1 + 1) w2 from hz.out.dx)
      have HNW : Hid (w1.heap.size ≤ N) := Lib.hid (hz.out.nw _ (.head _))
      have HB0 : Hid (∀ b : Nat × List Value, b ∈ ([(w.heap.size + 1, [.int .i64 0, .int .i64 0, .string ⟨#[]⟩]), (w.heap.size, [.int .i64 g, .slice va ns.length vc])] : List (Nat × List Value)) → b.1 < w1.heap.size) := Lib.hid hz.out.lt
      have HD : Hid (∀ b : Nat × List Value, b ∈ ([(w.heap.size + 1, [.int .i64 0, .int .i64 0, .string ⟨#[]⟩]), (w.heap.size, [.int .i64 g, .slice va ns.length vc])] : List (Nat × List Value)) → b.1 ≠ N) := Lib.hid (fun b m => by have := HB0.out b m; have := HNW.out; omega)
      have HN2 := HB0.out _ (.head _)
      have HN3 := HNW.out
      simp only at HN2
      have HNE : Hid (w.heap.size + 1 < N) := Lib.hid (by omega)
      clear HN2 HN3
      have O2 : Hid (OwnN w2 (R + 1) (.slice va ns.length vc) ns) := Lib.hid (row5_heap HO.out fun q hq => D2.out.gr.block q (HO.out.lt q hq).2 (fun e => by have := (HO.out.lt q hq).1; cases e; omega))
      clear hz D1
      have q0 := (D2.out.bx _ (.tail _ (.tail _ (.head _)))).2.cell 0
      have q1 := (D2.out.bx _ (.tail _ (.tail _ (.head _)))).2.cell 1
      simp at q0 q1
      go_wp2_with fail
      refine (skeys_any g _ ns _ (Nts.of_own O2.out (by unfold maxLen; omega)) (by omega)).mono ?_
      rintro e w3 ⟨u, rfl, oo, hb⟩
      have D3 := Lib.hid (D2.out.made (grown_below R hb) (D2.out.rd.below hb) oo)
      obtain ⟨ua, uc, eu⟩ := Own.form oo
      subst eu
      obtain ⟨KS, hks⟩ : ∃ x, keysN ns = x := ⟨_, rfl⟩
      rw [hks] at D3 ⊢
      clear oo hb hks O2 D2 q0 q1
      have q0 := (D3.out.bx _ (.head _)).2.cell 0
      have q1 := (D3.out.bx _ (.head _)).2.cell 1
      have q2 := (D3.out.bx _ (.head _)).2.cell 2
      have fq0 := (D3.out.bx _ (.head _)).2.frozen 0
      have fq1 := (D3.out.bx _ (.head _)).2.frozen 1
      have fq2 := (D3.out.bx _ (.head _)).2.frozen 2
      simp at q0 q1 q2
      by_cases hk0 : kd = 0
      · skip
        subst hk0
        have r0 := (D3.out.bx _ (.tail _ (.tail _ (.head _)))).2.cell 0
        have r1 := (D3.out.bx _ (.tail _ (.tail _ (.head _)))).2.cell 1
        simp at r0 r1
        go_wp2_with fail
        refine (drawelem_any R (k + 1 + 1) g 9 _ D3.out.rd (by omega) (by omega) (by omega)).mono ?_
        rintro e w4 ⟨x, rfl, _, _, gg, K4, hK4, rr⟩
        have D4 := Lib.hid (D3.out.draw gg rr)
        clear gg rr D3 r0 r1 q0 q1 q2 fq0 fq1 fq2
        have q0 := (D4.out.bx _ (.head _)).2.cell 0
        have q1 := (D4.out.bx _ (.head _)).2.cell 1
        have q2 := (D4.out.bx _ (.head _)).2.cell 2
        have fq0 := (D4.out.bx _ (.head _)).2.frozen 0
        have fq1 := (D4.out.bx _ (.head _)).2.frozen 1
        have fq2 := (D4.out.bx _ (.head _)).2.frozen 2
        simp at q0 q1 q2
        obtain ⟨u1, hu1⟩ : ∃ z, z = w4.setCell ⟨N, 1, none⟩ (.int .i64 x) := ⟨_, rfl⟩
        have D5 := Lib.hid (show Dx w R ((N, [.int .i64 0, .int .i64 x, .string ⟨#[]⟩]) :: [(w.heap.size + 1, [.int .i64 0, .int .i64 0, .string ⟨#[]⟩]), (w.heap.size, [.int .i64 g, .slice va ns.length vc])]) [(.slice ua KS.length uc, KS)] K4 u1 by rw [hu1]; exact (D4.out.put HD.out 1 (.int .i64 x)))
        have HU1 := Lib.hid hu1
        clear hu1
        have HT : Hid ((⟨#[]⟩ : ByteArray).size ≤ 18) := Lib.hid (by decide)
        go_wp2_with fail
        rw [← HU1.out]
        refine (odd_any R (K4) 40 _ D5.out.rd (by omega) (by omega) (by omega)).mono ?_
        rintro e w2t ⟨b, rfl, mm, hw⟩
        have E2 := Lib.hid (D5.out.next hw)
        clear hw mm D5
        cases b
        · skip
          go_wp2_with fail
          refine (odd_any R (K4 + 1) 40 _ E2.out.rd (by omega) (by omega) (by omega)).mono ?_
          rintro e w3t ⟨b, rfl, mm, hw⟩
          have E3 := Lib.hid (E2.out.next hw)
          clear hw mm E2
          cases b
          · skip
            have q0 := (E3.out.bx _ (.head _)).2.cell 0
            have q1 := (E3.out.bx _ (.head _)).2.cell 1
            have q2 := (E3.out.bx _ (.head _)).2.cell 2
            simp at q0 q1 q2
            have r0 := (E3.out.bx _ (.tail _ (.head _))).2.cell 0
            have r1 := (E3.out.bx _ (.tail _ (.head _))).2.cell 1
            have r2 := (E3.out.bx _ (.tail _ (.head _))).2.cell 2
            have fr0 := (E3.out.bx _ (.tail _ (.head _))).2.frozen 0
            have fr1 := (E3.out.bx _ (.tail _ (.head _))).2.frozen 1
            have fr2 := (E3.out.bx _ (.tail _ (.head _))).2.frozen 2
            simp at r0 r1 r2
            go_wp2
            refine bodyPost_ret (v := .agg #[.int .i64 0, .int .i64 x, .string ⟨#[]⟩]) ?_ rfl ?_
            · simp [results, Tryd.results69, go_sem, r0, r1, r2]
            · have hd : ∀ b : Nat × List Value, b ∈ [(N, [.int .i64 0, .int .i64 x, .string ⟨#[]⟩])] ++ [(w.heap.size, [.int .i64 g, .slice va ns.length vc])] → b.1 ≠ w.heap.size + 1 := fun b m => by
                have := HNE.out
                simp at m
                rcases m with rfl | rfl
                · show N ≠ w.heap.size + 1; omega
                · show w.heap.size ≠ w.heap.size + 1; omega
              have DF := ((E3.out.putAtB (B1 := [(N, [.int .i64 0, .int .i64 x, .string ⟨#[]⟩])]) (B2 := [(w.heap.size, [.int .i64 g, .slice va ns.length vc])]) (N := w.heap.size + 1) hd 0 (.int .i64 0)).putAtB (B1 := [(N, [.int .i64 0, .int .i64 x, .string ⟨#[]⟩])]) (B2 := [(w.heap.size, [.int .i64 g, .slice va ns.length vc])]) (N := w.heap.size + 1) hd 1 (.int .i64 x)).putAtB (B1 := [(N, [.int .i64 0, .int .i64 x, .string ⟨#[]⟩])]) (B2 := [(w.heap.size, [.int .i64 g, .slice va ns.length vc])]) (N := w.heap.size + 1) hd 2 (.string ⟨#[]⟩)
              skip
              exact ⟨_, _, _, _, rfl, (by first | exact Nat.le_trans HT.out (by decide) | (rw [ByteArray.size_append]; exact Nat.le_trans (Nat.add_le_add_right HT.out 1) (by decide))), by omega, DF.gr, DF.rd⟩
          · skip
            have hts := HT.out
            have q0 := (E3.out.bx _ (.head _)).2.cell 0
            have q1 := (E3.out.bx _ (.head _)).2.cell 1
            have q2 := (E3.out.bx _ (.head _)).2.cell 2
            have fq0 := (E3.out.bx _ (.head _)).2.frozen 0
            have fq1 := (E3.out.bx _ (.head _)).2.frozen 1
            have fq2 := (E3.out.bx _ (.head _)).2.frozen 2
            simp at q0 q1 q2
            obtain ⟨u4, hu4⟩ : ∃ z, z = w3t.setCell ⟨N, 2, none⟩ (.string (⟨#[]⟩ ++ ⟨#[48]⟩)) := ⟨_, rfl⟩
            have F3 := Lib.hid (show Dx w R ((N, [.int .i64 0, .int .i64 x, .string (⟨#[]⟩ ++ ⟨#[48]⟩)]) :: [(w.heap.size + 1, [.int .i64 0, .int .i64 0, .string ⟨#[]⟩]), (w.heap.size, [.int .i64 g, .slice va ns.length vc])]) [(.slice ua KS.length uc, KS)] (K4 + 1 + 1) u4 by rw [hu4]; exact (E3.out.put HD.out 2 (.string (⟨#[]⟩ ++ ⟨#[48]⟩))))
            have HU4 := Lib.hid hu4
            clear hu4
            skip
            have q0 := (F3.out.bx _ (.head _)).2.cell 0
            have q1 := (F3.out.bx _ (.head _)).2.cell 1
            have q2 := (F3.out.bx _ (.head _)).2.cell 2
            simp at q0 q1 q2
            have r0 := (F3.out.bx _ (.tail _ (.head _))).2.cell 0
            have r1 := (F3.out.bx _ (.tail _ (.head _))).2.cell 1
            have r2 := (F3.out.bx _ (.tail _ (.head _))).2.cell 2
            have fr0 := (F3.out.bx _ (.tail _ (.head _))).2.frozen 0
            have fr1 := (F3.out.bx _ (.tail _ (.head _))).2.frozen 1
            have fr2 := (F3.out.bx _ (.tail _ (.head _))).2.frozen 2
            simp at r0 r1 r2
            rw [HU4.out] at q0 q1 q2 r0 r1 r2 fr0 fr1 fr2
            go_wp2
            refine bodyPost_ret (v := .agg #[.int .i64 0, .int .i64 x, .string (⟨#[]⟩ ++ ⟨#[48]⟩)]) ?_ rfl ?_
            · simp [results, Tryd.results69, go_sem, r0, r1, r2]
            · have hd : ∀ b : Nat × List Value, b ∈ [(N, [.int .i64 0, .int .i64 x, .string (⟨#[]⟩ ++ ⟨#[48]⟩)])] ++ [(w.heap.size, [.int .i64 g, .slice va ns.length vc])] → b.1 ≠ w.heap.size + 1 := fun b m => by
                have := HNE.out
                simp at m
                rcases m with rfl | rfl
                · show N ≠ w.heap.size + 1; omega
                · show w.heap.size ≠ w.heap.size + 1; omega
              have DF := ((F3.out.putAtB (B1 := [(N, [.int .i64 0, .int .i64 x, .string (⟨#[]⟩ ++ ⟨#[48]⟩)])]) (B2 := [(w.heap.size, [.int .i64 g, .slice va ns.length vc])]) (N := w.heap.size + 1) hd 0 (.int .i64 0)).putAtB (B1 := [(N, [.int .i64 0, .int .i64 x, .string (⟨#[]⟩ ++ ⟨#[48]⟩)])]) (B2 := [(w.heap.size, [.int .i64 g, .slice va ns.length vc])]) (N := w.heap.size + 1) hd 1 (.int .i64 x)).putAtB (B1 := [(N, [.int .i64 0, .int .i64 x, .string (⟨#[]⟩ ++ ⟨#[48]⟩)])]) (B2 := [(w.heap.size, [.int .i64 g, .slice va ns.length vc])]) (N := w.heap.size + 1) hd 2 (.string (⟨#[]⟩ ++ ⟨#[48]⟩))
              rw [HU4.out] at DF
              exact ⟨_, _, _, _, rfl, (by first | exact Nat.le_trans HT.out (by decide) | (rw [ByteArray.size_append]; exact Nat.le_trans (Nat.add_le_add_right HT.out 1) (by decide))), by omega, DF.gr, DF.rd⟩
        · skip
          go_wp2_with fail
          apply wp_region_H (Z := Nat × List (Nat × List Value) × List (Value × List Int)) (S := fun k => k == 1 || k == 3 || k == 7) (C := fun z w' => Hid (Dy w w1 R [(w.heap.size + 1, [.int .i64 0, .int .i64 0, .string ⟨#[]⟩]), (w.heap.size, [.int .i64 g, .slice va ns.length vc])] [(.slice ua KS.length uc, KS)] z w')) [0, 2] (K4 + 1, [(N, [.int .i64 0, .int .i64 x, .string ⟨#[]⟩])], [])
          · kernel_rfl
          · kernel_rfl
          · kernel_rfl
          · exact ⟨rfl, rfl, trivial⟩
          · rfl
          · decide
          · exact Lib.hid (Dy.from E2.out HNW.out HB0.out (Nat.le_trans HNW.out (Nat.le_of_lt (E2.out.bx _ (.head _)).2.lt)))
          · intro z
            dsimp only [pickL, nthO]
            go_big_quiet_want; go_big_quiet_op; first | go_big_quiet_on | (refine ⟨_, fun _ _ => rfl, ?_⟩; go_big_quiet_on)
            go_big_quiet_want; go_big_quiet_op; first | go_big_quiet_on | (refine ⟨_, fun _ _ => rfl, ?_⟩; go_big_quiet_on)
            exact wpQuiet_nil rfl
          · skip
            refine wpAnyH_key (D := Int × Int × Int) (fun d => (K4 + 1 + 1, [(N, [.int .i64 0, .int .i64 d.2.2, .string ⟨#[]⟩])], [])) (fun d a => ((((a.put (some 107) (.int .i64 x)).put (some 109) (.int .i64 d.1)).put (some 110) (.int .i64 d.2.1)).put (some 111) (.int .i64 d.2.2)).put (some 112) (.pointer (some ⟨N, 1, none⟩))) ?_ ?_
            · skip
              refine wpAnyH_two 1 3 (by kernel_rfl) ?_ ?_
              · skip
                refine hOp_special (d := some 107) rfl rfl rfl (by kernel_rfl) fun wq1 hc => ⟨.int .i64 x, wq1, (K4 + 1, [(N, [.int .i64 0, .int .i64 x, .string ⟨#[]⟩])], []), by have q9 := hc.out.boxed.cell 1; simp at q9; simp [go_sem, q9], hc, ?_⟩
                clear hc
                refine wpAnyH_call (i := 3) (d := some 109) 55 #[.pointer (some ⟨R, 0, none⟩), .int .i64 20] rfl (by kernel_rfl) rfl rfl (by kernel_rfl) (fun _ => by kernel_rfl) fun wa3 hc => ?_
                refine (pick_any R (K4 + 1) 20 wa3 hc.out.dx.rd (by omega)).mono ?_
                rintro e wb3 ⟨v3, rfl, lo3, hi3, m3, hw3⟩
                have hi3 := hi3 (by omega)
                refine ⟨_, rfl, (K4 + 1 + 1, [(N, [.int .i64 0, .int .i64 x, .string ⟨#[]⟩])], []), Lib.hid (hc.out.next hw3), ?_⟩
                clear hw3 hc
                refine wpAnyH_takeI (i := 4) (d := some 110) rfl (by kernel_rfl) rfl rfl (by kernel_rfl) (by kernel_rfl) (by kernel_rfl) ⟨_, fun _ => by simp [go_sem]; rfl⟩ fun x4 => ?_
                refine wpAnyH_takeI (i := 5) (d := some 111) rfl (by kernel_rfl) rfl rfl (by kernel_rfl) (by kernel_rfl) (by kernel_rfl) ⟨_, fun _ => by simp [go_sem]; rfl⟩ fun x5 => ?_
                refine wpAnyH_take (i := 6) (d := some 112) (.pointer (some ⟨N, 1, none⟩)) rfl (by kernel_rfl) rfl rfl (by kernel_rfl) (by kernel_rfl) (by kernel_rfl) (fun _ => by kernel_rfl) ?_
                refine wpAnyH_special (i := 7) (d := none) rfl (by kernel_rfl) rfl rfl (by kernel_rfl) fun we he => ?_
                have kb := he.out.boxed
                have k1 := kb.cell 1; have f1 := kb.frozen 1
                simp at k1
                refine ⟨undef, (we.setCell ⟨N, 1, none⟩ (.int .i64 x5)), (K4 + 1 + 1, [(N, [.int .i64 0, .int .i64 x5, .string ⟨#[]⟩])], []), .inr ⟨by simp [go_sem, Act.put, k1, f1], rfl⟩, Lib.hid (he.out.put 1 _), ?_⟩
                clear he kb k1 f1
                exact ⟨by kernel_rfl, ⟨v3, x4, x5⟩, rfl, by kernel_rfl⟩
              · skip
                refine hOp_call 55 #[.pointer (some ⟨R, 0, none⟩), .int .i64 20] (d := some 109) rfl rfl rfl (by kernel_rfl) (fun _ => by kernel_rfl) fun wa3 hc => ?_
                refine (pick_any R (K4 + 1) 20 wa3 hc.out.dx.rd (by omega)).mono ?_
                rintro e wb3 ⟨v3, rfl, lo3, hi3, m3, hw3⟩
                have hi3 := hi3 (by omega)
                refine ⟨_, rfl, (K4 + 1 + 1, [(N, [.int .i64 0, .int .i64 x, .string ⟨#[]⟩])], []), Lib.hid (hc.out.next hw3), ?_⟩
                clear hw3 hc
                refine wpAnyH_special (i := 1) (d := some 107) rfl (by kernel_rfl) rfl rfl (by kernel_rfl) fun wq1 hc => ⟨.int .i64 x, wq1, (K4 + 1 + 1, [(N, [.int .i64 0, .int .i64 x, .string ⟨#[]⟩])], []), .inl (by have q9 := hc.out.boxed.cell 1; simp at q9; simp [go_sem, q9]), hc, ?_⟩
                clear hc
                refine wpAnyH_takeI (i := 4) (d := some 110) rfl (by kernel_rfl) rfl rfl (by kernel_rfl) (by kernel_rfl) (by kernel_rfl) ⟨_, fun _ => by simp [go_sem]; rfl⟩ fun x4 => ?_
                refine wpAnyH_takeI (i := 5) (d := some 111) rfl (by kernel_rfl) rfl rfl (by kernel_rfl) (by kernel_rfl) (by kernel_rfl) ⟨_, fun _ => by simp [go_sem]; rfl⟩ fun x5 => ?_
                refine wpAnyH_take (i := 6) (d := some 112) (.pointer (some ⟨N, 1, none⟩)) rfl (by kernel_rfl) rfl rfl (by kernel_rfl) (by kernel_rfl) (by kernel_rfl) (fun _ => by kernel_rfl) ?_
                refine wpAnyH_special (i := 7) (d := none) rfl (by kernel_rfl) rfl rfl (by kernel_rfl) fun we he => ?_
                have kb := he.out.boxed
                have k1 := kb.cell 1; have f1 := kb.frozen 1
                simp at k1
                refine ⟨undef, (we.setCell ⟨N, 1, none⟩ (.int .i64 x5)), (K4 + 1 + 1, [(N, [.int .i64 0, .int .i64 x5, .string ⟨#[]⟩])], []), .inr ⟨by simp [go_sem, Act.put, k1, f1], rfl⟩, Lib.hid (he.out.put 1 _), ?_⟩
                clear he kb k1 f1
                exact ⟨by kernel_rfl, ⟨v3, x4, x5⟩, rfl, by kernel_rfl⟩
            · rintro ⟨v3, x4, x5⟩ w2s hz
              dsimp only at hz ⊢
              simp only [Act.put, List.setIfInBounds_toArray, List.set_cons_zero, List.set_cons_succ]
              have G2 := Lib.hid (show Dx w R ((N, [.int .i64 0, .int .i64 x5, .string ⟨#[]⟩]) :: [(w.heap.size + 1, [.int .i64 0, .int .i64 0, .string ⟨#[]⟩]), (w.heap.size, [.int .i64 g, .slice va ns.length vc])]) [(.slice ua KS.length uc, KS)] (K4 + 1 + 1) w2s from hz.out.dx)
              clear hz E2
              go_wp2_with fail
              refine (odd_any R (K4 + 1 + 1) 40 _ G2.out.rd (by omega) (by omega) (by omega)).mono ?_
              rintro e w5t ⟨b, rfl, mm, hw⟩
              have E5 := Lib.hid (G2.out.next hw)
              clear hw mm G2
              cases b
              · skip
                have q0 := (E5.out.bx _ (.head _)).2.cell 0
                have q1 := (E5.out.bx _ (.head _)).2.cell 1
                have q2 := (E5.out.bx _ (.head _)).2.cell 2
                simp at q0 q1 q2
                have r0 := (E5.out.bx _ (.tail _ (.head _))).2.cell 0
                have r1 := (E5.out.bx _ (.tail _ (.head _))).2.cell 1
                have r2 := (E5.out.bx _ (.tail _ (.head _))).2.cell 2
                have fr0 := (E5.out.bx _ (.tail _ (.head _))).2.frozen 0
                have fr1 := (E5.out.bx _ (.tail _ (.head _))).2.frozen 1
                have fr2 := (E5.out.bx _ (.tail _ (.head _))).2.frozen 2
                simp at r0 r1 r2
                go_wp2
                refine bodyPost_ret (v := .agg #[.int .i64 0, .int .i64 x5, .string ⟨#[]⟩]) ?_ rfl ?_
                · simp [results, Tryd.results69, go_sem, r0, r1, r2]
                · have hd : ∀ b : Nat × List Value, b ∈ [(N, [.int .i64 0, .int .i64 x5, .string ⟨#[]⟩])] ++ [(w.heap.size, [.int .i64 g, .slice va ns.length vc])] → b.1 ≠ w.heap.size + 1 := fun b m => by
                    have := HNE.out
                    simp at m
                    rcases m with rfl | rfl
                    · show N ≠ w.heap.size + 1; omega
                    · show w.heap.size ≠ w.heap.size + 1; omega
                  have DF := ((E5.out.putAtB (B1 := [(N, [.int .i64 0, .int .i64 x5, .string ⟨#[]⟩])]) (B2 := [(w.heap.size, [.int .i64 g, .slice va ns.length vc])]) (N := w.heap.size + 1) hd 0 (.int .i64 0)).putAtB (B1 := [(N, [.int .i64 0, .int .i64 x5, .string ⟨#[]⟩])]) (B2 := [(w.heap.size, [.int .i64 g, .slice va ns.length vc])]) (N := w.heap.size + 1) hd 1 (.int .i64 x5)).putAtB (B1 := [(N, [.int .i64 0, .int .i64 x5, .string ⟨#[]⟩])]) (B2 := [(w.heap.size, [.int .i64 g, .slice va ns.length vc])]) (N := w.heap.size + 1) hd 2 (.string ⟨#[]⟩)
                  skip
                  exact ⟨_, _, _, _, rfl, (by first | exact Nat.le_trans HT.out (by decide) | (rw [ByteArray.size_append]; exact Nat.le_trans (Nat.add_le_add_right HT.out 1) (by decide))), by omega, DF.gr, DF.rd⟩
              · skip
                have hts := HT.out
                have q0 := (E5.out.bx _ (.head _)).2.cell 0
                have q1 := (E5.out.bx _ (.head _)).2.cell 1
                have q2 := (E5.out.bx _ (.head _)).2.cell 2
                have fq0 := (E5.out.bx _ (.head _)).2.frozen 0
                have fq1 := (E5.out.bx _ (.head _)).2.frozen 1
                have fq2 := (E5.out.bx _ (.head _)).2.frozen 2
                simp at q0 q1 q2
                obtain ⟨u6, hu6⟩ : ∃ z, z = w5t.setCell ⟨N, 2, none⟩ (.string (⟨#[]⟩ ++ ⟨#[48]⟩)) := ⟨_, rfl⟩
                have F5 := Lib.hid (show Dx w R ((N, [.int .i64 0, .int .i64 x5, .string (⟨#[]⟩ ++ ⟨#[48]⟩)]) :: [(w.heap.size + 1, [.int .i64 0, .int .i64 0, .string ⟨#[]⟩]), (w.heap.size, [.int .i64 g, .slice va ns.length vc])]) [(.slice ua KS.length uc, KS)] (K4 + 1 + 1 + 1) u6 by rw [hu6]; exact (E5.out.put HD.out 2 (.string (⟨#[]⟩ ++ ⟨#[48]⟩))))
                have HU6 := Lib.hid hu6
                clear hu6
                skip
                have q0 := (F5.out.bx _ (.head _)).2.cell 0
                have q1 := (F5.out.bx _ (.head _)).2.cell 1
                have q2 := (F5.out.bx _ (.head _)).2.cell 2
                simp at q0 q1 q2
                have r0 := (F5.out.bx _ (.tail _ (.head _))).2.cell 0
                have r1 := (F5.out.bx _ (.tail _ (.head _))).2.cell 1
                have r2 := (F5.out.bx _ (.tail _ (.head _))).2.cell 2
                have fr0 := (F5.out.bx _ (.tail _ (.head _))).2.frozen 0
                have fr1 := (F5.out.bx _ (.tail _ (.head _))).2.frozen 1
                have fr2 := (F5.out.bx _ (.tail _ (.head _))).2.frozen 2
                simp at r0 r1 r2
                rw [HU6.out] at q0 q1 q2 r0 r1 r2 fr0 fr1 fr2
                go_wp2
                refine bodyPost_ret (v := .agg #[.int .i64 0, .int .i64 x5, .string (⟨#[]⟩ ++ ⟨#[48]⟩)]) ?_ rfl ?_
                · simp [results, Tryd.results69, go_sem, r0, r1, r2]
                · have hd : ∀ b : Nat × List Value, b ∈ [(N, [.int .i64 0, .int .i64 x5, .string (⟨#[]⟩ ++ ⟨#[48]⟩)])] ++ [(w.heap.size, [.int .i64 g, .slice va ns.length vc])] → b.1 ≠ w.heap.size + 1 := fun b m => by
                    have := HNE.out
                    simp at m
                    rcases m with rfl | rfl
                    · show N ≠ w.heap.size + 1; omega
                    · show w.heap.size ≠ w.heap.size + 1; omega
                  have DF := ((F5.out.putAtB (B1 := [(N, [.int .i64 0, .int .i64 x5, .string (⟨#[]⟩ ++ ⟨#[48]⟩)])]) (B2 := [(w.heap.size, [.int .i64 g, .slice va ns.length vc])]) (N := w.heap.size + 1) hd 0 (.int .i64 0)).putAtB (B1 := [(N, [.int .i64 0, .int .i64 x5, .string (⟨#[]⟩ ++ ⟨#[48]⟩)])]) (B2 := [(w.heap.size, [.int .i64 g, .slice va ns.length vc])]) (N := w.heap.size + 1) hd 1 (.int .i64 x5)).putAtB (B1 := [(N, [.int .i64 0, .int .i64 x5, .string (⟨#[]⟩ ++ ⟨#[48]⟩)])]) (B2 := [(w.heap.size, [.int .i64 g, .slice va ns.length vc])]) (N := w.heap.size + 1) hd 2 (.string (⟨#[]⟩ ++ ⟨#[48]⟩))
                  rw [HU6.out] at DF
                  exact ⟨_, _, _, _, rfl, (by first | exact Nat.le_trans HT.out (by decide) | (rw [ByteArray.size_append]; exact Nat.le_trans (Nat.add_le_add_right HT.out 1) (by decide))), by omega, DF.gr, DF.rd⟩
      by_cases hk1 : kd = 1
      · by_cases hke : 0 < KS.length
        · skip
          subst hk1
          obtain ⟨kl, hkl⟩ : ∃ n, KS.length = n := ⟨_, rfl⟩
          rw [hkl] at D3 hke ⊢
          have hkl1 : (0 : Int) < (kl : Int) := by omega
          have HKL := Lib.hid hkl
          clear hkl
          go_wp2_with fail
          refine (pick_any R (k + 1 + 1) kl _ D3.out.rd (by omega)).mono ?_
          rintro e w4 ⟨vn, rfl, n0, n1, mm, hw⟩
          have n1 := n1 (by omega)
          obtain ⟨nn, rfl⟩ := Int.eq_ofNat_of_zero_le n0
          have D4 := Lib.hid (D3.out.next hw)
          clear hw mm D3 q0 q1 q2 fq0 fq1 fq2 n0
          have q0 := (D4.out.bx _ (.head _)).2.cell 0
          have q1 := (D4.out.bx _ (.head _)).2.cell 1
          have q2 := (D4.out.bx _ (.head _)).2.cell 2
          have fq0 := (D4.out.bx _ (.head _)).2.frozen 0
          have fq1 := (D4.out.bx _ (.head _)).2.frozen 1
          have fq2 := (D4.out.bx _ (.head _)).2.frozen 2
          simp at q0 q1 q2
          obtain ⟨u7, hu7⟩ : ∃ z, z = w4.setCell ⟨N, 1, none⟩ (.int .i64 (nn : Int)) := ⟨_, rfl⟩
          have D5 := Lib.hid (show Dx w R ((N, [.int .i64 1, .int .i64 (nn : Int), .string ⟨#[]⟩]) :: [(w.heap.size + 1, [.int .i64 0, .int .i64 0, .string ⟨#[]⟩]), (w.heap.size, [.int .i64 g, .slice va ns.length vc])]) [(.slice ua kl uc, KS)] (k + 1 + 1 + 1) u7 by rw [hu7]; exact (D4.out.put HD.out 1 (.int .i64 (nn : Int))))
          have HU7 := Lib.hid hu7
          clear hu7
          have hsome : ∃ X, ua = some ⟨X, 0, none⟩ := by
            have ho := D5.out.ls _ (.head _)
            rcases id ho.2 with ⟨e9, h9⟩ | ⟨g9, cap9, cur9, e9, _⟩
            · cases e9; have := HKL.out; omega
            · injection e9 with e1 e2 e3; exact ⟨_, e1⟩
          obtain ⟨X, rfl⟩ := hsome
          go_wp2_with fail
          rw [← HU7.out]
          clear q0 q1 q2 fq0 fq1 fq2 D4
          apply wp_region_H (Z := Nat × List (Nat × List Value) × List (Value × List Int)) (S := fun k => k == 10 || k == 12 || k == 16 || k == 18 || k == 19 || k == 23 || k == 24) (C := fun z w' => Hid (Dy w u7 R ((N, [.int .i64 1, .int .i64 (nn : Int), .string ⟨#[]⟩]) :: [(w.heap.size + 1, [.int .i64 0, .int .i64 0, .string ⟨#[]⟩]), (w.heap.size, [.int .i64 g, .slice va ns.length vc])]) [(.slice (some ⟨X, 0, none⟩) kl uc, KS)] z w')) [0, 1, 2, 3, 4, 5, 6, 7, 8, 9, 13, 14, 15] (k + 1 + 1 + 1, [], [])
          · kernel_rfl
          · kernel_rfl
          · kernel_rfl
          · exact ⟨rfl, rfl, rfl, rfl, rfl, rfl, rfl, rfl, rfl, rfl, rfl, rfl, rfl, trivial⟩
          · rfl
          · decide
          · exact Lib.hid (Dy.start D5.out)
          · intro z
            dsimp only [pickL, nthO]
            go_big_quiet_want; go_big_quiet_op; first | go_big_quiet_on | (refine ⟨_, fun _ _ => rfl, ?_⟩; go_big_quiet_on)
            go_big_quiet_want
            go_big_quiet_op
            refine ⟨.int .i64 g, fun w' hw' => ?_, ?_⟩
            · have q9 := (hw'.out.old (.tail _ (.tail _ (.head _)))).cell 0
              simp at q9
              simp [go_sem, q9]
            go_big_quiet_on
            go_big_quiet_want; go_big_quiet_op; first | go_big_quiet_on | (refine ⟨_, fun _ _ => rfl, ?_⟩; go_big_quiet_on)
            go_big_quiet_want; go_big_quiet_op; first | go_big_quiet_on | (refine ⟨_, fun _ _ => rfl, ?_⟩; go_big_quiet_on)
            go_big_quiet_want
            go_big_quiet_op
            refine ⟨.int .i64 (nn : Int), fun w' hw' => ?_, ?_⟩
            · have q9 := (hw'.out.old (.head _)).cell 1
              simp at q9
              simp [go_sem, q9]
            go_big_quiet_on
            go_big_quiet_want
            go_big_quiet_op
            refine ⟨.pointer (some ⟨X, nn, none⟩), fun w' hw' => ?_, ?_⟩
            · simp [go_sem]
            go_big_quiet_on
            go_big_quiet_want
            go_big_quiet_op
            refine ⟨.int .i64 (nth KS nn), fun w' hw' => ?_, ?_⟩
            · have q9 := own_at (hw'.out.list (.head _)) HKL.out (j := nn) (by omega)
              simp [go_sem, q9]
            go_big_quiet_on
            go_big_quiet_want; go_big_quiet_op; first | go_big_quiet_on | (refine ⟨_, fun _ _ => rfl, ?_⟩; go_big_quiet_on)
            go_big_quiet_want; go_big_quiet_op; first | go_big_quiet_on | (refine ⟨_, fun _ _ => rfl, ?_⟩; go_big_quiet_on)
            go_big_quiet_want
            go_big_quiet_op
            refine ⟨.int .i64 g, fun w' hw' => ?_, ?_⟩
            · have q9 := (hw'.out.old (.tail _ (.tail _ (.head _)))).cell 0
              simp at q9
              simp [go_sem, q9]
            go_big_quiet_on
            go_big_quiet_want; go_big_quiet_op; first | go_big_quiet_on | (refine ⟨_, fun _ _ => rfl, ?_⟩; go_big_quiet_on)
            go_big_quiet_want; go_big_quiet_op; first | go_big_quiet_on | (refine ⟨_, fun _ _ => rfl, ?_⟩; go_big_quiet_on)
            go_big_quiet_want
            go_big_quiet_op
            refine ⟨.int .i64 g, fun w' hw' => ?_, ?_⟩
            · have q9 := (hw'.out.old (.tail _ (.tail _ (.head _)))).cell 0
              simp at q9
              simp [go_sem, q9]
            go_big_quiet_on
            exact wpQuiet_nil rfl
          · skip
            refine wpAnyH_key (D := Int × Int × Int × Int × Int × Int × Int × Bool × Nat) (fun d => (k + 1 + 1 + 1 + 1 + 1, [(d.2.2.2.2.2.2.2.2, [.int .i64 d.2.2.2.2.1, .int .i64 d.2.2.2.2.2.1, .int .i64 d.2.2.2.2.2.2.1])], [])) (fun d a => ((((((((((((a.put (some 56) (.int .i64 (ord g))).put (some 57) (.int .i64 d.1)).put (some 58) (.int .i64 d.2.1)).put (some 62) (.int .i64 (ord g))).put (some 63) (.int .i64 d.2.2.1)).put (some 64) (.int .i64 d.2.2.2.1)).put (some 65) (.tuple #[.agg #[.int .i64 d.2.2.2.2.1, .int .i64 d.2.2.2.2.2.1, .int .i64 d.2.2.2.2.2.2.1], .bool d.2.2.2.2.2.2.2.1])).put (some 45) (.tuple #[.agg #[.int .i64 d.2.2.2.2.1, .int .i64 d.2.2.2.2.2.1, .int .i64 d.2.2.2.2.2.2.1], .bool d.2.2.2.2.2.2.2.1])).put (some 66) (.agg #[.int .i64 d.2.2.2.2.1, .int .i64 d.2.2.2.2.2.1, .int .i64 d.2.2.2.2.2.2.1])).put (some 67) (.bool d.2.2.2.2.2.2.2.1)).put (some 7) (.pointer (some ⟨d.2.2.2.2.2.2.2.2, 0, none⟩))).put (some 8) (.bool d.2.2.2.2.2.2.2.1))) ?_ ?_
            · skip
              refine wpAnyH_two 10 23 (by kernel_rfl) ?_ ?_
              · skip
                refine hOp_call 63 #[.int .i64 g] (d := some 56) rfl rfl rfl (by kernel_rfl) (fun _ => by kernel_rfl) fun wa10 hc => ?_
                refine (sord_any g wa10).mono ?_
                rintro e wb10 ⟨rfl, hb⟩
                refine ⟨_, rfl, (k + 1 + 1 + 1, [], []), Lib.hid (hc.out.on hb), ?_⟩
                clear hb hc
                refine wpAnyH_takeI (i := 11) (d := some 57) rfl (by kernel_rfl) rfl rfl (by kernel_rfl) (by kernel_rfl) (by kernel_rfl) ⟨_, fun _ => by simp [go_sem]; rfl⟩ fun x11 => ?_
                refine wpAnyH_two 12 23 (by kernel_rfl) ?_ ?_
                · skip
                  refine hOp_call 55 #[.pointer (some ⟨R, 0, none⟩), .int .i64 x11] (d := some 58) rfl rfl rfl (by kernel_rfl) (fun _ => by kernel_rfl) fun wa12 hc => ?_
                  refine (pick_any R (k + 1 + 1 + 1) x11 wa12 hc.out.dx.rd (by omega)).mono ?_
                  rintro e wb12 ⟨v12, rfl, lo12, hi12, m12, hw12⟩
                  refine ⟨_, rfl, (k + 1 + 1 + 1 + 1, [], []), Lib.hid (hc.out.next hw12), ?_⟩
                  clear hw12 hc
                  refine wpAnyH_two 16 23 (by kernel_rfl) ?_ ?_
                  · skip
                    refine hOp_call 63 #[.int .i64 g] (d := some 62) rfl rfl rfl (by kernel_rfl) (fun _ => by kernel_rfl) fun wa16 hc => ?_
                    refine (sord_any g wa16).mono ?_
                    rintro e wb16 ⟨rfl, hb⟩
                    refine ⟨_, rfl, (k + 1 + 1 + 1 + 1, [], []), Lib.hid (hc.out.on hb), ?_⟩
                    clear hb hc
                    refine wpAnyH_takeI (i := 17) (d := some 63) rfl (by kernel_rfl) rfl rfl (by kernel_rfl) (by kernel_rfl) (by kernel_rfl) ⟨_, fun _ => by simp [go_sem]; rfl⟩ fun x17 => ?_
                    refine wpAnyH_two 18 23 (by kernel_rfl) ?_ ?_
                    · skip
                      refine hOp_call 55 #[.pointer (some ⟨R, 0, none⟩), .int .i64 x17] (d := some 64) rfl rfl rfl (by kernel_rfl) (fun _ => by kernel_rfl) fun wa18 hc => ?_
                      refine (pick_any R (k + 1 + 1 + 1 + 1) x17 wa18 hc.out.dx.rd (by omega)).mono ?_
                      rintro e wb18 ⟨v18, rfl, lo18, hi18, m18, hw18⟩
                      refine ⟨_, rfl, (k + 1 + 1 + 1 + 1 + 1, [], []), Lib.hid (hc.out.next hw18), ?_⟩
                      clear hw18 hc
                      refine wpAnyH_two 19 23 (by kernel_rfl) ?_ ?_
                      · skip
                        refine hOp_call 86 #[.int .i64 g, .int .i64 (nth KS nn), .int .i64 v12, .int .i64 v18] (d := some 65) rfl rfl rfl (by kernel_rfl) (fun _ => by kernel_rfl) fun wa19 hc => ?_
                        refine (smade_some g (nth KS nn) v12 v18 wa19).mono ?_
                        rintro e wb19 ⟨s, a, t, b, rfl, hb⟩
                        refine ⟨_, rfl, (k + 1 + 1 + 1 + 1 + 1, [], []), Lib.hid (hc.out.on hb), ?_⟩
                        clear hb hc
                        refine wpAnyH_take (i := 20) (d := some 45) (.tuple #[.agg #[.int .i64 s, .int .i64 a, .int .i64 t], .bool b]) rfl (by kernel_rfl) rfl rfl (by kernel_rfl) (by kernel_rfl) (by kernel_rfl) (fun _ => by kernel_rfl) ?_
                        refine wpAnyH_take (i := 21) (d := some 66) (.agg #[.int .i64 s, .int .i64 a, .int .i64 t]) rfl (by kernel_rfl) rfl rfl (by kernel_rfl) (by kernel_rfl) (by kernel_rfl) (fun _ => by kernel_rfl) ?_
                        refine wpAnyH_take (i := 22) (d := some 67) (.bool b) rfl (by kernel_rfl) rfl rfl (by kernel_rfl) (by kernel_rfl) (by kernel_rfl) (fun _ => by kernel_rfl) ?_
                        refine wpAnyH_special (i := 23) (d := some 7) rfl (by kernel_rfl) rfl rfl (by kernel_rfl) fun wN hc => ⟨.pointer (some ⟨wN.heap.size, 0, none⟩), wN.alloc (.cells #[.int .i64 0, .int .i64 0, .int .i64 0] 45), (k + 1 + 1 + 1 + 1 + 1, [(wN.heap.size, [.int .i64 0, .int .i64 0, .int .i64 0])], []), .inl (by kernel_rfl), Lib.hid (hc.out.box [.int .i64 0, .int .i64 0, .int .i64 0]), ?_⟩
                        clear hc
                        refine wpAnyH_special (i := 24) (d := none) rfl (by kernel_rfl) rfl rfl (by kernel_rfl) fun we he => ?_
                        have kb := he.out.boxed
                        have k0 := kb.cell 0; have f0 := kb.frozen 0
                        have k1 := kb.cell 1; have f1 := kb.frozen 1
                        have k2 := kb.cell 2; have f2 := kb.frozen 2
                        simp at k0 k1 k2
                        refine ⟨undef, (((we.setCell ⟨wN.heap.size, 0, none⟩ (.int .i64 s)).setCell ⟨wN.heap.size, 1, none⟩ (.int .i64 a)).setCell ⟨wN.heap.size, 2, none⟩ (.int .i64 t)), (k + 1 + 1 + 1 + 1 + 1, [(wN.heap.size, [.int .i64 s, .int .i64 a, .int .i64 t])], []), .inr ⟨by simp [go_sem, Act.put, k0, f0, k1, f1, k2, f2], rfl⟩, Lib.hid (((he.out.put 0 _).put 1 _).put 2 _), ?_⟩
                        clear he kb k0 f0 k1 f1 k2 f2
                        refine wpAnyH_take (i := 25) (d := some 8) (.bool b) rfl (by kernel_rfl) rfl rfl (by kernel_rfl) (by kernel_rfl) (by kernel_rfl) (fun _ => by kernel_rfl) ?_
                        exact ⟨by kernel_rfl, ⟨x11, v12, x17, v18, s, a, t, b, wN.heap.size⟩, rfl, by kernel_rfl⟩
                      · skip
                        refine hOp_special (d := some 7) rfl rfl rfl (by kernel_rfl) fun wN hc => ⟨.pointer (some ⟨wN.heap.size, 0, none⟩), wN.alloc (.cells #[.int .i64 0, .int .i64 0, .int .i64 0] 45), (k + 1 + 1 + 1 + 1 + 1, [(wN.heap.size, [.int .i64 0, .int .i64 0, .int .i64 0])], []), by kernel_rfl, Lib.hid (hc.out.box [.int .i64 0, .int .i64 0, .int .i64 0]), ?_⟩
                        clear hc
                        refine wpAnyH_call (i := 19) (d := some 65) 86 #[.int .i64 g, .int .i64 (nth KS nn), .int .i64 v12, .int .i64 v18] rfl (by kernel_rfl) rfl rfl (by kernel_rfl) (fun _ => by kernel_rfl) fun wa19 hc => ?_
                        refine (smade_some g (nth KS nn) v12 v18 wa19).mono ?_
                        rintro e wb19 ⟨s, a, t, b, rfl, hb⟩
                        refine ⟨_, rfl, (k + 1 + 1 + 1 + 1 + 1, [(wN.heap.size, [.int .i64 0, .int .i64 0, .int .i64 0])], []), Lib.hid (hc.out.on hb), ?_⟩
                        clear hb hc
                        refine wpAnyH_take (i := 20) (d := some 45) (.tuple #[.agg #[.int .i64 s, .int .i64 a, .int .i64 t], .bool b]) rfl (by kernel_rfl) rfl rfl (by kernel_rfl) (by kernel_rfl) (by kernel_rfl) (fun _ => by kernel_rfl) ?_
                        refine wpAnyH_take (i := 21) (d := some 66) (.agg #[.int .i64 s, .int .i64 a, .int .i64 t]) rfl (by kernel_rfl) rfl rfl (by kernel_rfl) (by kernel_rfl) (by kernel_rfl) (fun _ => by kernel_rfl) ?_
                        refine wpAnyH_take (i := 22) (d := some 67) (.bool b) rfl (by kernel_rfl) rfl rfl (by kernel_rfl) (by kernel_rfl) (by kernel_rfl) (fun _ => by kernel_rfl) ?_
                        refine wpAnyH_special (i := 24) (d := none) rfl (by kernel_rfl) rfl rfl (by kernel_rfl) fun we he => ?_
                        have kb := he.out.boxed
                        have k0 := kb.cell 0; have f0 := kb.frozen 0
                        have k1 := kb.cell 1; have f1 := kb.frozen 1
                        have k2 := kb.cell 2; have f2 := kb.frozen 2
                        simp at k0 k1 k2
                        refine ⟨undef, (((we.setCell ⟨wN.heap.size, 0, none⟩ (.int .i64 s)).setCell ⟨wN.heap.size, 1, none⟩ (.int .i64 a)).setCell ⟨wN.heap.size, 2, none⟩ (.int .i64 t)), (k + 1 + 1 + 1 + 1 + 1, [(wN.heap.size, [.int .i64 s, .int .i64 a, .int .i64 t])], []), .inr ⟨by simp [go_sem, Act.put, k0, f0, k1, f1, k2, f2], rfl⟩, Lib.hid (((he.out.put 0 _).put 1 _).put 2 _), ?_⟩
                        clear he kb k0 f0 k1 f1 k2 f2
                        refine wpAnyH_take (i := 25) (d := some 8) (.bool b) rfl (by kernel_rfl) rfl rfl (by kernel_rfl) (by kernel_rfl) (by kernel_rfl) (fun _ => by kernel_rfl) ?_
                        exact ⟨by kernel_rfl, ⟨x11, v12, x17, v18, s, a, t, b, wN.heap.size⟩, rfl, by kernel_rfl⟩
                    · skip
                      refine hOp_special (d := some 7) rfl rfl rfl (by kernel_rfl) fun wN hc => ⟨.pointer (some ⟨wN.heap.size, 0, none⟩), wN.alloc (.cells #[.int .i64 0, .int .i64 0, .int .i64 0] 45), (k + 1 + 1 + 1 + 1, [(wN.heap.size, [.int .i64 0, .int .i64 0, .int .i64 0])], []), by kernel_rfl, Lib.hid (hc.out.box [.int .i64 0, .int .i64 0, .int .i64 0]), ?_⟩
                      clear hc
                      refine wpAnyH_call (i := 18) (d := some 64) 55 #[.pointer (some ⟨R, 0, none⟩), .int .i64 x17] rfl (by kernel_rfl) rfl rfl (by kernel_rfl) (fun _ => by kernel_rfl) fun wa18 hc => ?_
                      refine (pick_any R (k + 1 + 1 + 1 + 1) x17 wa18 hc.out.dx.rd (by omega)).mono ?_
                      rintro e wb18 ⟨v18, rfl, lo18, hi18, m18, hw18⟩
                      refine ⟨_, rfl, (k + 1 + 1 + 1 + 1 + 1, [(wN.heap.size, [.int .i64 0, .int .i64 0, .int .i64 0])], []), Lib.hid (hc.out.next hw18), ?_⟩
                      clear hw18 hc
                      refine wpAnyH_call (i := 19) (d := some 65) 86 #[.int .i64 g, .int .i64 (nth KS nn), .int .i64 v12, .int .i64 v18] rfl (by kernel_rfl) rfl rfl (by kernel_rfl) (fun _ => by kernel_rfl) fun wa19 hc => ?_
                      refine (smade_some g (nth KS nn) v12 v18 wa19).mono ?_
                      rintro e wb19 ⟨s, a, t, b, rfl, hb⟩
                      refine ⟨_, rfl, (k + 1 + 1 + 1 + 1 + 1, [(wN.heap.size, [.int .i64 0, .int .i64 0, .int .i64 0])], []), Lib.hid (hc.out.on hb), ?_⟩
                      clear hb hc
                      refine wpAnyH_take (i := 20) (d := some 45) (.tuple #[.agg #[.int .i64 s, .int .i64 a, .int .i64 t], .bool b]) rfl (by kernel_rfl) rfl rfl (by kernel_rfl) (by kernel_rfl) (by kernel_rfl) (fun _ => by kernel_rfl) ?_
                      refine wpAnyH_take (i := 21) (d := some 66) (.agg #[.int .i64 s, .int .i64 a, .int .i64 t]) rfl (by kernel_rfl) rfl rfl (by kernel_rfl) (by kernel_rfl) (by kernel_rfl) (fun _ => by kernel_rfl) ?_
                      refine wpAnyH_take (i := 22) (d := some 67) (.bool b) rfl (by kernel_rfl) rfl rfl (by kernel_rfl) (by kernel_rfl) (by kernel_rfl) (fun _ => by kernel_rfl) ?_
                      refine wpAnyH_special (i := 24) (d := none) rfl (by kernel_rfl) rfl rfl (by kernel_rfl) fun we he => ?_
                      have kb := he.out.boxed
                      have k0 := kb.cell 0; have f0 := kb.frozen 0
                      have k1 := kb.cell 1; have f1 := kb.frozen 1
                      have k2 := kb.cell 2; have f2 := kb.frozen 2
                      simp at k0 k1 k2
                      refine ⟨undef, (((we.setCell ⟨wN.heap.size, 0, none⟩ (.int .i64 s)).setCell ⟨wN.heap.size, 1, none⟩ (.int .i64 a)).setCell ⟨wN.heap.size, 2, none⟩ (.int .i64 t)), (k + 1 + 1 + 1 + 1 + 1, [(wN.heap.size, [.int .i64 s, .int .i64 a, .int .i64 t])], []), .inr ⟨by simp [go_sem, Act.put, k0, f0, k1, f1, k2, f2], rfl⟩, Lib.hid (((he.out.put 0 _).put 1 _).put 2 _), ?_⟩
                      clear he kb k0 f0 k1 f1 k2 f2
                      refine wpAnyH_take (i := 25) (d := some 8) (.bool b) rfl (by kernel_rfl) rfl rfl (by kernel_rfl) (by kernel_rfl) (by kernel_rfl) (fun _ => by kernel_rfl) ?_
                      exact ⟨by kernel_rfl, ⟨x11, v12, x17, v18, s, a, t, b, wN.heap.size⟩, rfl, by kernel_rfl⟩
                  · skip
                    refine hOp_special (d := some 7) rfl rfl rfl (by kernel_rfl) fun wN hc => ⟨.pointer (some ⟨wN.heap.size, 0, none⟩), wN.alloc (.cells #[.int .i64 0, .int .i64 0, .int .i64 0] 45), (k + 1 + 1 + 1 + 1, [(wN.heap.size, [.int .i64 0, .int .i64 0, .int .i64 0])], []), by kernel_rfl, Lib.hid (hc.out.box [.int .i64 0, .int .i64 0, .int .i64 0]), ?_⟩
                    clear hc
                    refine wpAnyH_call (i := 16) (d := some 62) 63 #[.int .i64 g] rfl (by kernel_rfl) rfl rfl (by kernel_rfl) (fun _ => by kernel_rfl) fun wa16 hc => ?_
                    refine (sord_any g wa16).mono ?_
                    rintro e wb16 ⟨rfl, hb⟩
                    refine ⟨_, rfl, (k + 1 + 1 + 1 + 1, [(wN.heap.size, [.int .i64 0, .int .i64 0, .int .i64 0])], []), Lib.hid (hc.out.on hb), ?_⟩
                    clear hb hc
                    refine wpAnyH_takeI (i := 17) (d := some 63) rfl (by kernel_rfl) rfl rfl (by kernel_rfl) (by kernel_rfl) (by kernel_rfl) ⟨_, fun _ => by simp [go_sem]; rfl⟩ fun x17 => ?_
                    refine wpAnyH_call (i := 18) (d := some 64) 55 #[.pointer (some ⟨R, 0, none⟩), .int .i64 x17] rfl (by kernel_rfl) rfl rfl (by kernel_rfl) (fun _ => by kernel_rfl) fun wa18 hc => ?_
                    refine (pick_any R (k + 1 + 1 + 1 + 1) x17 wa18 hc.out.dx.rd (by omega)).mono ?_
                    rintro e wb18 ⟨v18, rfl, lo18, hi18, m18, hw18⟩
                    refine ⟨_, rfl, (k + 1 + 1 + 1 + 1 + 1, [(wN.heap.size, [.int .i64 0, .int .i64 0, .int .i64 0])], []), Lib.hid (hc.out.next hw18), ?_⟩
                    clear hw18 hc
                    refine wpAnyH_call (i := 19) (d := some 65) 86 #[.int .i64 g, .int .i64 (nth KS nn), .int .i64 v12, .int .i64 v18] rfl (by kernel_rfl) rfl rfl (by kernel_rfl) (fun _ => by kernel_rfl) fun wa19 hc => ?_
                    refine (smade_some g (nth KS nn) v12 v18 wa19).mono ?_
                    rintro e wb19 ⟨s, a, t, b, rfl, hb⟩
                    refine ⟨_, rfl, (k + 1 + 1 + 1 + 1 + 1, [(wN.heap.size, [.int .i64 0, .int .i64 0, .int .i64 0])], []), Lib.hid (hc.out.on hb), ?_⟩
                    clear hb hc
                    refine wpAnyH_take (i := 20) (d := some 45) (.tuple #[.agg #[.int .i64 s, .int .i64 a, .int .i64 t], .bool b]) rfl (by kernel_rfl) rfl rfl (by kernel_rfl) (by kernel_rfl) (by kernel_rfl) (fun _ => by kernel_rfl) ?_
                    refine wpAnyH_take (i := 21) (d := some 66) (.agg #[.int .i64 s, .int .i64 a, .int .i64 t]) rfl (by kernel_rfl) rfl rfl (by kernel_rfl) (by kernel_rfl) (by kernel_rfl) (fun _ => by kernel_rfl) ?_
                    refine wpAnyH_take (i := 22) (d := some 67) (.bool b) rfl (by kernel_rfl) rfl rfl (by kernel_rfl) (by kernel_rfl) (by kernel_rfl) (fun _ => by kernel_rfl) ?_
                    refine wpAnyH_special (i := 24) (d := none) rfl (by kernel_rfl) rfl rfl (by kernel_rfl) fun we he => ?_
                    have kb := he.out.boxed
                    have k0 := kb.cell 0; have f0 := kb.frozen 0
                    have k1 := kb.cell 1; have f1 := kb.frozen 1
                    have k2 := kb.cell 2; have f2 := kb.frozen 2
                    simp at k0 k1 k2
                    refine ⟨undef, (((we.setCell ⟨wN.heap.size, 0, none⟩ (.int .i64 s)).setCell ⟨wN.heap.size, 1, none⟩ (.int .i64 a)).setCell ⟨wN.heap.size, 2, none⟩ (.int .i64 t)), (k + 1 + 1 + 1 + 1 + 1, [(wN.heap.size, [.int .i64 s, .int .i64 a, .int .i64 t])], []), .inr ⟨by simp [go_sem, Act.put, k0, f0, k1, f1, k2, f2], rfl⟩, Lib.hid (((he.out.put 0 _).put 1 _).put 2 _), ?_⟩
                    clear he kb k0 f0 k1 f1 k2 f2
                    refine wpAnyH_take (i := 25) (d := some 8) (.bool b) rfl (by kernel_rfl) rfl rfl (by kernel_rfl) (by kernel_rfl) (by kernel_rfl) (fun _ => by kernel_rfl) ?_
                    exact ⟨by kernel_rfl, ⟨x11, v12, x17, v18, s, a, t, b, wN.heap.size⟩, rfl, by kernel_rfl⟩
                · skip
                  refine hOp_special (d := some 7) rfl rfl rfl (by kernel_rfl) fun wN hc => ⟨.pointer (some ⟨wN.heap.size, 0, none⟩), wN.alloc (.cells #[.int .i64 0, .int .i64 0, .int .i64 0] 45), (k + 1 + 1 + 1, [(wN.heap.size, [.int .i64 0, .int .i64 0, .int .i64 0])], []), by kernel_rfl, Lib.hid (hc.out.box [.int .i64 0, .int .i64 0, .int .i64 0]), ?_⟩
                  clear hc
                  refine wpAnyH_call (i := 12) (d := some 58) 55 #[.pointer (some ⟨R, 0, none⟩), .int .i64 x11] rfl (by kernel_rfl) rfl rfl (by kernel_rfl) (fun _ => by kernel_rfl) fun wa12 hc => ?_
                  refine (pick_any R (k + 1 + 1 + 1) x11 wa12 hc.out.dx.rd (by omega)).mono ?_
                  rintro e wb12 ⟨v12, rfl, lo12, hi12, m12, hw12⟩
                  refine ⟨_, rfl, (k + 1 + 1 + 1 + 1, [(wN.heap.size, [.int .i64 0, .int .i64 0, .int .i64 0])], []), Lib.hid (hc.out.next hw12), ?_⟩
                  clear hw12 hc
                  refine wpAnyH_call (i := 16) (d := some 62) 63 #[.int .i64 g] rfl (by kernel_rfl) rfl rfl (by kernel_rfl) (fun _ => by kernel_rfl) fun wa16 hc => ?_
                  refine (sord_any g wa16).mono ?_
                  rintro e wb16 ⟨rfl, hb⟩
                  refine ⟨_, rfl, (k + 1 + 1 + 1 + 1, [(wN.heap.size, [.int .i64 0, .int .i64 0, .int .i64 0])], []), Lib.hid (hc.out.on hb), ?_⟩
                  clear hb hc
                  refine wpAnyH_takeI (i := 17) (d := some 63) rfl (by kernel_rfl) rfl rfl (by kernel_rfl) (by kernel_rfl) (by kernel_rfl) ⟨_, fun _ => by simp [go_sem]; rfl⟩ fun x17 => ?_
                  refine wpAnyH_call (i := 18) (d := some 64) 55 #[.pointer (some ⟨R, 0, none⟩), .int .i64 x17] rfl (by kernel_rfl) rfl rfl (by kernel_rfl) (fun _ => by kernel_rfl) fun wa18 hc => ?_
                  refine (pick_any R (k + 1 + 1 + 1 + 1) x17 wa18 hc.out.dx.rd (by omega)).mono ?_
                  rintro e wb18 ⟨v18, rfl, lo18, hi18, m18, hw18⟩
                  refine ⟨_, rfl, (k + 1 + 1 + 1 + 1 + 1, [(wN.heap.size, [.int .i64 0, .int .i64 0, .int .i64 0])], []), Lib.hid (hc.out.next hw18), ?_⟩
                  clear hw18 hc
                  refine wpAnyH_call (i := 19) (d := some 65) 86 #[.int .i64 g, .int .i64 (nth KS nn), .int .i64 v12, .int .i64 v18] rfl (by kernel_rfl) rfl rfl (by kernel_rfl) (fun _ => by kernel_rfl) fun wa19 hc => ?_
                  refine (smade_some g (nth KS nn) v12 v18 wa19).mono ?_
                  rintro e wb19 ⟨s, a, t, b, rfl, hb⟩
                  refine ⟨_, rfl, (k + 1 + 1 + 1 + 1 + 1, [(wN.heap.size, [.int .i64 0, .int .i64 0, .int .i64 0])], []), Lib.hid (hc.out.on hb), ?_⟩
                  clear hb hc
                  refine wpAnyH_take (i := 20) (d := some 45) (.tuple #[.agg #[.int .i64 s, .int .i64 a, .int .i64 t], .bool b]) rfl (by kernel_rfl) rfl rfl (by kernel_rfl) (by kernel_rfl) (by kernel_rfl) (fun _ => by kernel_rfl) ?_
                  refine wpAnyH_take (i := 21) (d := some 66) (.agg #[.int .i64 s, .int .i64 a, .int .i64 t]) rfl (by kernel_rfl) rfl rfl (by kernel_rfl) (by kernel_rfl) (by kernel_rfl) (fun _ => by kernel_rfl) ?_
                  refine wpAnyH_take (i := 22) (d := some 67) (.bool b) rfl (by kernel_rfl) rfl rfl (by kernel_rfl) (by kernel_rfl) (by kernel_rfl) (fun _ => by kernel_rfl) ?_
                  refine wpAnyH_special (i := 24) (d := none) rfl (by kernel_rfl) rfl rfl (by kernel_rfl) fun we he => ?_
                  have kb := he.out.boxed
                  have k0 := kb.cell 0; have f0 := kb.frozen 0
                  have k1 := kb.cell 1; have f1 := kb.frozen 1
                  have k2 := kb.cell 2; have f2 := kb.frozen 2
                  simp at k0 k1 k2
                  refine ⟨undef, (((we.setCell ⟨wN.heap.size, 0, none⟩ (.int .i64 s)).setCell ⟨wN.heap.size, 1, none⟩ (.int .i64 a)).setCell ⟨wN.heap.size, 2, none⟩ (.int .i64 t)), (k + 1 + 1 + 1 + 1 + 1, [(wN.heap.size, [.int .i64 s, .int .i64 a, .int .i64 t])], []), .inr ⟨by simp [go_sem, Act.put, k0, f0, k1, f1, k2, f2], rfl⟩, Lib.hid (((he.out.put 0 _).put 1 _).put 2 _), ?_⟩
                  clear he kb k0 f0 k1 f1 k2 f2
                  refine wpAnyH_take (i := 25) (d := some 8) (.bool b) rfl (by kernel_rfl) rfl rfl (by kernel_rfl) (by kernel_rfl) (by kernel_rfl) (fun _ => by kernel_rfl) ?_
                  exact ⟨by kernel_rfl, ⟨x11, v12, x17, v18, s, a, t, b, wN.heap.size⟩, rfl, by kernel_rfl⟩
              · skip
                refine hOp_special (d := some 7) rfl rfl rfl (by kernel_rfl) fun wN hc => ⟨.pointer (some ⟨wN.heap.size, 0, none⟩), wN.alloc (.cells #[.int .i64 0, .int .i64 0, .int .i64 0] 45), (k + 1 + 1 + 1, [(wN.heap.size, [.int .i64 0, .int .i64 0, .int .i64 0])], []), by kernel_rfl, Lib.hid (hc.out.box [.int .i64 0, .int .i64 0, .int .i64 0]), ?_⟩
                clear hc
                refine wpAnyH_call (i := 10) (d := some 56) 63 #[.int .i64 g] rfl (by kernel_rfl) rfl rfl (by kernel_rfl) (fun _ => by kernel_rfl) fun wa10 hc => ?_
                refine (sord_any g wa10).mono ?_
                rintro e wb10 ⟨rfl, hb⟩
                refine ⟨_, rfl, (k + 1 + 1 + 1, [(wN.heap.size, [.int .i64 0, .int .i64 0, .int .i64 0])], []), Lib.hid (hc.out.on hb), ?_⟩
                clear hb hc
                refine wpAnyH_takeI (i := 11) (d := some 57) rfl (by kernel_rfl) rfl rfl (by kernel_rfl) (by kernel_rfl) (by kernel_rfl) ⟨_, fun _ => by simp [go_sem]; rfl⟩ fun x11 => ?_
                refine wpAnyH_call (i := 12) (d := some 58) 55 #[.pointer (some ⟨R, 0, none⟩), .int .i64 x11] rfl (by kernel_rfl) rfl rfl (by kernel_rfl) (fun _ => by kernel_rfl) fun wa12 hc => ?_
                refine (pick_any R (k + 1 + 1 + 1) x11 wa12 hc.out.dx.rd (by omega)).mono ?_
                rintro e wb12 ⟨v12, rfl, lo12, hi12, m12, hw12⟩
                refine ⟨_, rfl, (k + 1 + 1 + 1 + 1, [(wN.heap.size, [.int .i64 0, .int .i64 0, .int .i64 0])], []), Lib.hid (hc.out.next hw12), ?_⟩
                clear hw12 hc
                refine wpAnyH_call (i := 16) (d := some 62) 63 #[.int .i64 g] rfl (by kernel_rfl) rfl rfl (by kernel_rfl) (fun _ => by kernel_rfl) fun wa16 hc => ?_
                refine (sord_any g wa16).mono ?_
                rintro e wb16 ⟨rfl, hb⟩
                refine ⟨_, rfl, (k + 1 + 1 + 1 + 1, [(wN.heap.size, [.int .i64 0, .int .i64 0, .int .i64 0])], []), Lib.hid (hc.out.on hb), ?_⟩
                clear hb hc
                refine wpAnyH_takeI (i := 17) (d := some 63) rfl (by kernel_rfl) rfl rfl (by kernel_rfl) (by kernel_rfl) (by kernel_rfl) ⟨_, fun _ => by simp [go_sem]; rfl⟩ fun x17 => ?_
                refine wpAnyH_call (i := 18) (d := some 64) 55 #[.pointer (some ⟨R, 0, none⟩), .int .i64 x17] rfl (by kernel_rfl) rfl rfl (by kernel_rfl) (fun _ => by kernel_rfl) fun wa18 hc => ?_
                refine (pick_any R (k + 1 + 1 + 1 + 1) x17 wa18 hc.out.dx.rd (by omega)).mono ?_
                rintro e wb18 ⟨v18, rfl, lo18, hi18, m18, hw18⟩
                refine ⟨_, rfl, (k + 1 + 1 + 1 + 1 + 1, [(wN.heap.size, [.int .i64 0, .int .i64 0, .int .i64 0])], []), Lib.hid (hc.out.next hw18), ?_⟩
                clear hw18 hc
                refine wpAnyH_call (i := 19) (d := some 65) 86 #[.int .i64 g, .int .i64 (nth KS nn), .int .i64 v12, .int .i64 v18] rfl (by kernel_rfl) rfl rfl (by kernel_rfl) (fun _ => by kernel_rfl) fun wa19 hc => ?_
                refine (smade_some g (nth KS nn) v12 v18 wa19).mono ?_
                rintro e wb19 ⟨s, a, t, b, rfl, hb⟩
                refine ⟨_, rfl, (k + 1 + 1 + 1 + 1 + 1, [(wN.heap.size, [.int .i64 0, .int .i64 0, .int .i64 0])], []), Lib.hid (hc.out.on hb), ?_⟩
                clear hb hc
                refine wpAnyH_take (i := 20) (d := some 45) (.tuple #[.agg #[.int .i64 s, .int .i64 a, .int .i64 t], .bool b]) rfl (by kernel_rfl) rfl rfl (by kernel_rfl) (by kernel_rfl) (by kernel_rfl) (fun _ => by kernel_rfl) ?_
                refine wpAnyH_take (i := 21) (d := some 66) (.agg #[.int .i64 s, .int .i64 a, .int .i64 t]) rfl (by kernel_rfl) rfl rfl (by kernel_rfl) (by kernel_rfl) (by kernel_rfl) (fun _ => by kernel_rfl) ?_
                refine wpAnyH_take (i := 22) (d := some 67) (.bool b) rfl (by kernel_rfl) rfl rfl (by kernel_rfl) (by kernel_rfl) (by kernel_rfl) (fun _ => by kernel_rfl) ?_
                refine wpAnyH_special (i := 24) (d := none) rfl (by kernel_rfl) rfl rfl (by kernel_rfl) fun we he => ?_
                have kb := he.out.boxed
                have k0 := kb.cell 0; have f0 := kb.frozen 0
                have k1 := kb.cell 1; have f1 := kb.frozen 1
                have k2 := kb.cell 2; have f2 := kb.frozen 2
                simp at k0 k1 k2
                refine ⟨undef, (((we.setCell ⟨wN.heap.size, 0, none⟩ (.int .i64 s)).setCell ⟨wN.heap.size, 1, none⟩ (.int .i64 a)).setCell ⟨wN.heap.size, 2, none⟩ (.int .i64 t)), (k + 1 + 1 + 1 + 1 + 1, [(wN.heap.size, [.int .i64 s, .int .i64 a, .int .i64 t])], []), .inr ⟨by simp [go_sem, Act.put, k0, f0, k1, f1, k2, f2], rfl⟩, Lib.hid (((he.out.put 0 _).put 1 _).put 2 _), ?_⟩
                clear he kb k0 f0 k1 f1 k2 f2
                refine wpAnyH_take (i := 25) (d := some 8) (.bool b) rfl (by kernel_rfl) rfl rfl (by kernel_rfl) (by kernel_rfl) (by kernel_rfl) (fun _ => by kernel_rfl) ?_
                exact ⟨by kernel_rfl, ⟨x11, v12, x17, v18, s, a, t, b, wN.heap.size⟩, rfl, by kernel_rfl⟩
            · rintro ⟨x11, v12, x17, v18, s, a, t, b, N7⟩ w7 hz
              dsimp only at hz ⊢
              simp only [Act.put, List.setIfInBounds_toArray, List.set_cons_zero, List.set_cons_succ]
              have D7 := Lib.hid (show Dx w R ((N7, [.int .i64 s, .int .i64 a, .int .i64 t]) :: ((N, [.int .i64 1, .int .i64 (nn : Int), .string ⟨#[]⟩]) :: [(w.heap.size + 1, [.int .i64 0, .int .i64 0, .string ⟨#[]⟩]), (w.heap.size, [.int .i64 g, .slice va ns.length vc])])) [(.slice (some ⟨X, 0, none⟩) kl uc, KS)] (k + 1 + 1 + 1 + 1 + 1) w7 from hz.out.dx)
              have HN7 : Hid (u7.heap.size ≤ N7) := Lib.hid (hz.out.nw _ (.head _))
              have HB7 : Hid (∀ b : Nat × List Value, b ∈ ((N, [.int .i64 1, .int .i64 (nn : Int), .string ⟨#[]⟩]) :: [(w.heap.size + 1, [.int .i64 0, .int .i64 0, .string ⟨#[]⟩]), (w.heap.size, [.int .i64 g, .slice va ns.length vc])]) → b.1 < u7.heap.size) := Lib.hid hz.out.lt
              clear hz D5
              go_wp2_with fail
              refine (pick_any R (k + 1 + 1 + 1 + 1 + 1) 2 _ D7.out.rd (by omega)).mono ?_
              rintro e w8 ⟨v8, rfl, _, _, mm, hw⟩
              have D8 := Lib.hid (D7.out.next hw)
              clear hw mm D7
              by_cases h8 : v8 = 0
              · skip
                subst h8
                go_wp2_with fail
                apply wp_region_H (Z := Nat × List (Nat × List Value) × List (Value × List Int)) (S := fun k => k == 6 || k == 12 || k == 16 || k == 18 || k == 19 || k == 23) (C := fun z w' => Hid (Dy w u7 R ((N, [.int .i64 1, .int .i64 (nn : Int), .string ⟨#[]⟩]) :: [(w.heap.size + 1, [.int .i64 0, .int .i64 0, .string ⟨#[]⟩]), (w.heap.size, [.int .i64 g, .slice va ns.length vc])]) [(.slice (some ⟨X, 0, none⟩) kl uc, KS)] z w')) [0, 1, 2, 3, 4, 5, 7, 8, 9, 10, 11, 13, 14, 15] (k + 1 + 1 + 1 + 1 + 1 + 1, [(N7, [.int .i64 s, .int .i64 a, .int .i64 t])], [])
                · kernel_rfl
                · kernel_rfl
                · kernel_rfl
                · exact ⟨rfl, rfl, rfl, rfl, rfl, rfl, rfl, rfl, rfl, rfl, rfl, rfl, rfl, rfl, trivial⟩
                · rfl
                · decide
                · exact Lib.hid (Dy.from D8.out HN7.out HB7.out (Nat.le_trans HN7.out (Nat.le_of_lt (D8.out.bx _ (.head _)).2.lt)))
                · intro z
                  dsimp only [pickL, nthO]
                  go_big_quiet_want; go_big_quiet_op; first | go_big_quiet_on | (refine ⟨_, fun _ _ => rfl, ?_⟩; go_big_quiet_on)
                  go_big_quiet_want
                  go_big_quiet_op
                  refine ⟨.int .i64 g, fun w' hw' => ?_, ?_⟩
                  · have q9 := (hw'.out.old (.tail _ (.tail _ (.head _)))).cell 0
                    simp at q9
                    simp [go_sem, q9]
                  go_big_quiet_on
                  go_big_quiet_want; go_big_quiet_op; first | go_big_quiet_on | (refine ⟨_, fun _ _ => rfl, ?_⟩; go_big_quiet_on)
                  go_big_quiet_want
                  go_big_quiet_op
                  refine ⟨.int .i64 g, fun w' hw' => ?_, ?_⟩
                  · have q9 := (hw'.out.old (.tail _ (.tail _ (.head _)))).cell 0
                    simp at q9
                    simp [go_sem, q9]
                  go_big_quiet_on
                  go_big_quiet_want; go_big_quiet_op; first | go_big_quiet_on | (refine ⟨_, fun _ _ => rfl, ?_⟩; go_big_quiet_on)
                  go_big_quiet_want
                  go_big_quiet_op
                  refine ⟨.int .i64 g, fun w' hw' => ?_, ?_⟩
                  · have q9 := (hw'.out.old (.tail _ (.tail _ (.head _)))).cell 0
                    simp at q9
                    simp [go_sem, q9]
                  go_big_quiet_on
                  go_big_quiet_want; go_big_quiet_op; first | go_big_quiet_on | (refine ⟨_, fun _ _ => rfl, ?_⟩; go_big_quiet_on)
                  go_big_quiet_want; go_big_quiet_op; first | go_big_quiet_on | (refine ⟨_, fun _ _ => rfl, ?_⟩; go_big_quiet_on)
                  go_big_quiet_want
                  go_big_quiet_op
                  refine ⟨.int .i64 (nn : Int), fun w' hw' => ?_, ?_⟩
                  · have q9 := (hw'.out.old (.head _)).cell 1
                    simp at q9
                    simp [go_sem, q9]
                  go_big_quiet_on
                  go_big_quiet_want
                  go_big_quiet_op
                  refine ⟨.pointer (some ⟨X, nn, none⟩), fun w' hw' => ?_, ?_⟩
                  · simp [go_sem]
                  go_big_quiet_on
                  go_big_quiet_want
                  go_big_quiet_op
                  refine ⟨.int .i64 (nth KS nn), fun w' hw' => ?_, ?_⟩
                  · have q9 := own_at (hw'.out.list (.head _)) HKL.out (j := nn) (by omega)
                    simp [go_sem, q9]
                  go_big_quiet_on
                  go_big_quiet_want; go_big_quiet_op; first | go_big_quiet_on | (refine ⟨_, fun _ _ => rfl, ?_⟩; go_big_quiet_on)
                  go_big_quiet_want; go_big_quiet_op; first | go_big_quiet_on | (refine ⟨_, fun _ _ => rfl, ?_⟩; go_big_quiet_on)
                  go_big_quiet_want
                  go_big_quiet_op
                  refine ⟨.int .i64 g, fun w' hw' => ?_, ?_⟩
                  · have q9 := (hw'.out.old (.tail _ (.tail _ (.head _)))).cell 0
                    simp at q9
                    simp [go_sem, q9]
                  go_big_quiet_on
                  exact wpQuiet_nil rfl
                · skip
                  refine wpAnyH_key (D := Int × Int × Int × Int × Int × Bool) (fun d => (k + 1 + 1 + 1 + 1 + 1 + 1 + 1, [(N7, [.int .i64 d.2.2.1, .int .i64 d.2.2.2.1, .int .i64 d.2.2.2.2.1])], [])) (fun d a => (((((((((a.put (some 78) (.int .i64 (bas g))).put (some 84) (.int .i64 (glog g (bas g) (nth KS nn)))).put (some 88) (.int .i64 (ord g))).put (some 89) (.int .i64 d.1)).put (some 90) (.int .i64 d.2.1)).put (some 91) (.tuple #[.agg #[.int .i64 d.2.2.1, .int .i64 d.2.2.2.1, .int .i64 d.2.2.2.2.1], .bool d.2.2.2.2.2])).put (some 71) (.tuple #[.agg #[.int .i64 d.2.2.1, .int .i64 d.2.2.2.1, .int .i64 d.2.2.2.2.1], .bool d.2.2.2.2.2])).put (some 92) (.agg #[.int .i64 d.2.2.1, .int .i64 d.2.2.2.1, .int .i64 d.2.2.2.2.1])).put (some 93) (.bool d.2.2.2.2.2))) ?_ ?_
                  · skip
                    refine wpAnyH_call (i := 6) (d := some 78) 77 #[.int .i64 g] rfl (by kernel_rfl) rfl rfl (by kernel_rfl) (fun _ => by kernel_rfl) fun wa6 hc => ?_
                    refine (sbas_any g wa6).mono ?_
                    rintro e wb6 ⟨rfl, hb⟩
                    refine ⟨_, rfl, (k + 1 + 1 + 1 + 1 + 1 + 1, [(N7, [.int .i64 s, .int .i64 a, .int .i64 t])], []), Lib.hid (hc.out.on hb), ?_⟩
                    clear hb hc
                    refine wpAnyH_call (i := 12) (d := some 84) 88 #[.int .i64 g, .int .i64 (bas g), .int .i64 (nth KS nn)] rfl (by kernel_rfl) rfl rfl (by kernel_rfl) (fun _ => by kernel_rfl) fun wa12 hc => ?_
                    refine (slog_any g (bas g) (nth KS nn) wa12).mono ?_
                    rintro e wb12 ⟨rfl, hb⟩
                    refine ⟨_, rfl, (k + 1 + 1 + 1 + 1 + 1 + 1, [(N7, [.int .i64 s, .int .i64 a, .int .i64 t])], []), Lib.hid (hc.out.on hb), ?_⟩
                    clear hb hc
                    refine wpAnyH_call (i := 16) (d := some 88) 63 #[.int .i64 g] rfl (by kernel_rfl) rfl rfl (by kernel_rfl) (fun _ => by kernel_rfl) fun wa16 hc => ?_
                    refine (sord_any g wa16).mono ?_
                    rintro e wb16 ⟨rfl, hb⟩
                    refine ⟨_, rfl, (k + 1 + 1 + 1 + 1 + 1 + 1, [(N7, [.int .i64 s, .int .i64 a, .int .i64 t])], []), Lib.hid (hc.out.on hb), ?_⟩
                    clear hb hc
                    refine wpAnyH_takeI (i := 17) (d := some 89) rfl (by kernel_rfl) rfl rfl (by kernel_rfl) (by kernel_rfl) (by kernel_rfl) ⟨_, fun _ => by simp [go_sem]; rfl⟩ fun x17 => ?_
                    refine wpAnyH_call (i := 18) (d := some 90) 55 #[.pointer (some ⟨R, 0, none⟩), .int .i64 x17] rfl (by kernel_rfl) rfl rfl (by kernel_rfl) (fun _ => by kernel_rfl) fun wa18 hc => ?_
                    refine (pick_any R (k + 1 + 1 + 1 + 1 + 1 + 1) x17 wa18 hc.out.dx.rd (by omega)).mono ?_
                    rintro e wb18 ⟨v18, rfl, lo18, hi18, m18, hw18⟩
                    refine ⟨_, rfl, (k + 1 + 1 + 1 + 1 + 1 + 1 + 1, [(N7, [.int .i64 s, .int .i64 a, .int .i64 t])], []), Lib.hid (hc.out.next hw18), ?_⟩
                    clear hw18 hc
                    refine wpAnyH_call (i := 19) (d := some 91) 87 #[.int .i64 g, .int .i64 (glog g (bas g) (nth KS nn)), .int .i64 1, .int .i64 v18] rfl (by kernel_rfl) rfl rfl (by kernel_rfl) (fun _ => by kernel_rfl) fun wa19 hc => ?_
                    refine (stalk_some g (glog g (bas g) (nth KS nn)) 1 v18 wa19).mono ?_
                    rintro e wb19 ⟨s2, a2, t2, b2, rfl, _, _, _, hb⟩
                    refine ⟨_, rfl, (k + 1 + 1 + 1 + 1 + 1 + 1 + 1, [(N7, [.int .i64 s, .int .i64 a, .int .i64 t])], []), Lib.hid (hc.out.on hb), ?_⟩
                    clear hb hc
                    refine wpAnyH_take (i := 20) (d := some 71) (.tuple #[.agg #[.int .i64 s2, .int .i64 a2, .int .i64 t2], .bool b2]) rfl (by kernel_rfl) rfl rfl (by kernel_rfl) (by kernel_rfl) (by kernel_rfl) (fun _ => by kernel_rfl) ?_
                    refine wpAnyH_take (i := 21) (d := some 92) (.agg #[.int .i64 s2, .int .i64 a2, .int .i64 t2]) rfl (by kernel_rfl) rfl rfl (by kernel_rfl) (by kernel_rfl) (by kernel_rfl) (fun _ => by kernel_rfl) ?_
                    refine wpAnyH_take (i := 22) (d := some 93) (.bool b2) rfl (by kernel_rfl) rfl rfl (by kernel_rfl) (by kernel_rfl) (by kernel_rfl) (fun _ => by kernel_rfl) ?_
                    refine wpAnyH_special (i := 23) (d := none) rfl (by kernel_rfl) rfl rfl (by kernel_rfl) fun we he => ?_
                    have kb := he.out.boxed
                    have k0 := kb.cell 0; have f0 := kb.frozen 0
                    have k1 := kb.cell 1; have f1 := kb.frozen 1
                    have k2 := kb.cell 2; have f2 := kb.frozen 2
                    simp at k0 k1 k2
                    refine ⟨undef, (((we.setCell ⟨N7, 0, none⟩ (.int .i64 s2)).setCell ⟨N7, 1, none⟩ (.int .i64 a2)).setCell ⟨N7, 2, none⟩ (.int .i64 t2)), (k + 1 + 1 + 1 + 1 + 1 + 1 + 1, [(N7, [.int .i64 s2, .int .i64 a2, .int .i64 t2])], []), .inr ⟨by simp [go_sem, Act.put, k0, f0, k1, f1, k2, f2], rfl⟩, Lib.hid (((he.out.put 0 _).put 1 _).put 2 _), ?_⟩
                    clear he kb k0 f0 k1 f1 k2 f2
                    exact ⟨by kernel_rfl, ⟨x17, v18, s2, a2, t2, b2⟩, rfl, by kernel_rfl⟩
                  · rintro ⟨x17, v18, s2, a2, t2, b2⟩ w11 hz
                    dsimp only at hz ⊢
                    simp only [Act.put, List.setIfInBounds_toArray, List.set_cons_zero, List.set_cons_succ]
                    have D11 := Lib.hid (show Dx w R ((N7, [.int .i64 s2, .int .i64 a2, .int .i64 t2]) :: ((N, [.int .i64 1, .int .i64 (nn : Int), .string ⟨#[]⟩]) :: [(w.heap.size + 1, [.int .i64 0, .int .i64 0, .string ⟨#[]⟩]), (w.heap.size, [.int .i64 g, .slice va ns.length vc])])) [(.slice (some ⟨X, 0, none⟩) kl uc, KS)] (k + 1 + 1 + 1 + 1 + 1 + 1 + 1) w11 from hz.out.dx)
                    clear hz D8
                    have r0 := (D11.out.bx _ (.head _)).2.cell 0
                    have r1 := (D11.out.bx _ (.head _)).2.cell 1
                    have r2 := (D11.out.bx _ (.head _)).2.cell 2
                    simp at r0 r1 r2
                    have q0 := (D11.out.bx _ (.tail _ (.tail _ (.tail _ (.head _))))).2.cell 0
                    have q1 := (D11.out.bx _ (.tail _ (.tail _ (.tail _ (.head _))))).2.cell 1
                    simp at q0 q1
                    go_wp2_with fail
                    refine (stext_any g s2 a2 t2 _).mono ?_
                    rintro e w9 ⟨rfl, hb⟩
                    have TL := text_leB g s2 a2 t2
                    obtain ⟨TX, hTX⟩ : ∃ x, textOf g s2 a2 t2 = x := ⟨_, rfl⟩
                    rw [hTX] at TL ⊢
                    have HT : Hid (TX.size ≤ 18) := Lib.hid (Nat.le_trans TL (by decide))
                    have D9 := Lib.hid (((D11.out.on hb).sub (Bs' := ((N, [.int .i64 1, .int .i64 (nn : Int), .string ⟨#[]⟩]) :: [(w.heap.size + 1, [.int .i64 0, .int .i64 0, .string ⟨#[]⟩]), (w.heap.size, [.int .i64 g, .slice va ns.length vc])])) (fun _ m => .tail _ m) (fun _ m => m)))
                    clear hb hTX TL D11 r0 r1 r2 q0 q1
                    have q0 := (D9.out.bx _ (.head _)).2.cell 0
                    have q1 := (D9.out.bx _ (.head _)).2.cell 1
                    have q2 := (D9.out.bx _ (.head _)).2.cell 2
                    have fq0 := (D9.out.bx _ (.head _)).2.frozen 0
                    have fq1 := (D9.out.bx _ (.head _)).2.frozen 1
                    have fq2 := (D9.out.bx _ (.head _)).2.frozen 2
                    simp at q0 q1 q2
                    obtain ⟨u8, hu8⟩ : ∃ z, z = w9.setCell ⟨N, 2, none⟩ (.string TX) := ⟨_, rfl⟩
                    have D10 := Lib.hid (show Dx w R ((N, [.int .i64 1, .int .i64 (nn : Int), .string TX]) :: [(w.heap.size + 1, [.int .i64 0, .int .i64 0, .string ⟨#[]⟩]), (w.heap.size, [.int .i64 g, .slice va ns.length vc])]) [(.slice (some ⟨X, 0, none⟩) kl uc, KS)] (k + 1 + 1 + 1 + 1 + 1 + 1 + 1) u8 by rw [hu8]; exact (D9.out.put HD.out 2 (.string TX)))
                    have HU8 := Lib.hid hu8
                    clear hu8
                    go_wp2_with fail
                    rw [← HU8.out]
                    refine (odd_any R (k + 1 + 1 + 1 + 1 + 1 + 1 + 1) 40 _ D10.out.rd (by omega) (by omega) (by omega)).mono ?_
                    rintro e w9t ⟨b, rfl, mm, hw⟩
                    have E9 := Lib.hid (D10.out.next hw)
                    clear hw mm D10
                    cases b
                    · skip
                      go_wp2_with fail
                      refine (odd_any R (k + 1 + 1 + 1 + 1 + 1 + 1 + 1 + 1) 40 _ E9.out.rd (by omega) (by omega) (by omega)).mono ?_
                      rintro e w10t ⟨b, rfl, mm, hw⟩
                      have E10 := Lib.hid (E9.out.next hw)
                      clear hw mm E9
                      cases b
                      · skip
                        have q0 := (E10.out.bx _ (.head _)).2.cell 0
                        have q1 := (E10.out.bx _ (.head _)).2.cell 1
                        have q2 := (E10.out.bx _ (.head _)).2.cell 2
                        simp at q0 q1 q2
                        have r0 := (E10.out.bx _ (.tail _ (.head _))).2.cell 0
                        have r1 := (E10.out.bx _ (.tail _ (.head _))).2.cell 1
                        have r2 := (E10.out.bx _ (.tail _ (.head _))).2.cell 2
                        have fr0 := (E10.out.bx _ (.tail _ (.head _))).2.frozen 0
                        have fr1 := (E10.out.bx _ (.tail _ (.head _))).2.frozen 1
                        have fr2 := (E10.out.bx _ (.tail _ (.head _))).2.frozen 2
                        simp at r0 r1 r2
                        go_wp2
                        refine bodyPost_ret (v := .agg #[.int .i64 1, .int .i64 (nn : Int), .string TX]) ?_ rfl ?_
                        · simp [results, Tryd.results69, go_sem, r0, r1, r2]
                        · have hd : ∀ b : Nat × List Value, b ∈ [(N, [.int .i64 1, .int .i64 (nn : Int), .string TX])] ++ [(w.heap.size, [.int .i64 g, .slice va ns.length vc])] → b.1 ≠ w.heap.size + 1 := fun b m => by
                            have := HNE.out
                            simp at m
                            rcases m with rfl | rfl
                            · show N ≠ w.heap.size + 1; omega
                            · show w.heap.size ≠ w.heap.size + 1; omega
                          have DF := ((E10.out.putAtB (B1 := [(N, [.int .i64 1, .int .i64 (nn : Int), .string TX])]) (B2 := [(w.heap.size, [.int .i64 g, .slice va ns.length vc])]) (N := w.heap.size + 1) hd 0 (.int .i64 1)).putAtB (B1 := [(N, [.int .i64 1, .int .i64 (nn : Int), .string TX])]) (B2 := [(w.heap.size, [.int .i64 g, .slice va ns.length vc])]) (N := w.heap.size + 1) hd 1 (.int .i64 (nn : Int))).putAtB (B1 := [(N, [.int .i64 1, .int .i64 (nn : Int), .string TX])]) (B2 := [(w.heap.size, [.int .i64 g, .slice va ns.length vc])]) (N := w.heap.size + 1) hd 2 (.string TX)
                          skip
                          exact ⟨_, _, _, _, rfl, (by first | exact Nat.le_trans HT.out (by decide) | (rw [ByteArray.size_append]; exact Nat.le_trans (Nat.add_le_add_right HT.out 1) (by decide))), by omega, DF.gr, DF.rd⟩
                      · skip
                        have hts := HT.out
                        have q0 := (E10.out.bx _ (.head _)).2.cell 0
                        have q1 := (E10.out.bx _ (.head _)).2.cell 1
                        have q2 := (E10.out.bx _ (.head _)).2.cell 2
                        have fq0 := (E10.out.bx _ (.head _)).2.frozen 0
                        have fq1 := (E10.out.bx _ (.head _)).2.frozen 1
                        have fq2 := (E10.out.bx _ (.head _)).2.frozen 2
                        simp at q0 q1 q2
                        obtain ⟨u11, hu11⟩ : ∃ z, z = w10t.setCell ⟨N, 2, none⟩ (.string (TX ++ ⟨#[48]⟩)) := ⟨_, rfl⟩
                        have F10 := Lib.hid (show Dx w R ((N, [.int .i64 1, .int .i64 (nn : Int), .string (TX ++ ⟨#[48]⟩)]) :: [(w.heap.size + 1, [.int .i64 0, .int .i64 0, .string ⟨#[]⟩]), (w.heap.size, [.int .i64 g, .slice va ns.length vc])]) [(.slice (some ⟨X, 0, none⟩) kl uc, KS)] (k + 1 + 1 + 1 + 1 + 1 + 1 + 1 + 1 + 1) u11 by rw [hu11]; exact (E10.out.put HD.out 2 (.string (TX ++ ⟨#[48]⟩))))
                        have HU11 := Lib.hid hu11
                        clear hu11
                        skip
                        have q0 := (F10.out.bx _ (.head _)).2.cell 0
                        have q1 := (F10.out.bx _ (.head _)).2.cell 1
                        have q2 := (F10.out.bx _ (.head _)).2.cell 2
                        simp at q0 q1 q2
                        have r0 := (F10.out.bx _ (.tail _ (.head _))).2.cell 0
                        have r1 := (F10.out.bx _ (.tail _ (.head _))).2.cell 1
                        have r2 := (F10.out.bx _ (.tail _ (.head _))).2.cell 2
                        have fr0 := (F10.out.bx _ (.tail _ (.head _))).2.frozen 0
                        have fr1 := (F10.out.bx _ (.tail _ (.head _))).2.frozen 1
                        have fr2 := (F10.out.bx _ (.tail _ (.head _))).2.frozen 2
                        simp at r0 r1 r2
                        rw [HU11.out] at q0 q1 q2 r0 r1 r2 fr0 fr1 fr2
                        go_wp2
                        refine bodyPost_ret (v := .agg #[.int .i64 1, .int .i64 (nn : Int), .string (TX ++ ⟨#[48]⟩)]) ?_ rfl ?_
                        · simp [results, Tryd.results69, go_sem, r0, r1, r2]
                        · have hd : ∀ b : Nat × List Value, b ∈ [(N, [.int .i64 1, .int .i64 (nn : Int), .string (TX ++ ⟨#[48]⟩)])] ++ [(w.heap.size, [.int .i64 g, .slice va ns.length vc])] → b.1 ≠ w.heap.size + 1 := fun b m => by
                            have := HNE.out
                            simp at m
                            rcases m with rfl | rfl
                            · show N ≠ w.heap.size + 1; omega
                            · show w.heap.size ≠ w.heap.size + 1; omega
                          have DF := ((F10.out.putAtB (B1 := [(N, [.int .i64 1, .int .i64 (nn : Int), .string (TX ++ ⟨#[48]⟩)])]) (B2 := [(w.heap.size, [.int .i64 g, .slice va ns.length vc])]) (N := w.heap.size + 1) hd 0 (.int .i64 1)).putAtB (B1 := [(N, [.int .i64 1, .int .i64 (nn : Int), .string (TX ++ ⟨#[48]⟩)])]) (B2 := [(w.heap.size, [.int .i64 g, .slice va ns.length vc])]) (N := w.heap.size + 1) hd 1 (.int .i64 (nn : Int))).putAtB (B1 := [(N, [.int .i64 1, .int .i64 (nn : Int), .string (TX ++ ⟨#[48]⟩)])]) (B2 := [(w.heap.size, [.int .i64 g, .slice va ns.length vc])]) (N := w.heap.size + 1) hd 2 (.string (TX ++ ⟨#[48]⟩))
                          rw [HU11.out] at DF
                          exact ⟨_, _, _, _, rfl, (by first | exact Nat.le_trans HT.out (by decide) | (rw [ByteArray.size_append]; exact Nat.le_trans (Nat.add_le_add_right HT.out 1) (by decide))), by omega, DF.gr, DF.rd⟩
                    · skip
                      go_wp2_with fail
                      apply wp_region_H (Z := Nat × List (Nat × List Value) × List (Value × List Int)) (S := fun k => k == 1 || k == 3 || k == 7) (C := fun z w' => Hid (Dy w w1 R [(w.heap.size + 1, [.int .i64 0, .int .i64 0, .string ⟨#[]⟩]), (w.heap.size, [.int .i64 g, .slice va ns.length vc])] [(.slice (some ⟨X, 0, none⟩) kl uc, KS)] z w')) [0, 2] (k + 1 + 1 + 1 + 1 + 1 + 1 + 1 + 1, [(N, [.int .i64 1, .int .i64 (nn : Int), .string TX])], [])
                      · kernel_rfl
                      · kernel_rfl
                      · kernel_rfl
                      · exact ⟨rfl, rfl, trivial⟩
                      · rfl
                      · decide
                      · exact Lib.hid (Dy.from E9.out HNW.out HB0.out (Nat.le_trans HNW.out (Nat.le_of_lt (E9.out.bx _ (.head _)).2.lt)))
                      · intro z
                        dsimp only [pickL, nthO]
                        go_big_quiet_want; go_big_quiet_op; first | go_big_quiet_on | (refine ⟨_, fun _ _ => rfl, ?_⟩; go_big_quiet_on)
                        go_big_quiet_want; go_big_quiet_op; first | go_big_quiet_on | (refine ⟨_, fun _ _ => rfl, ?_⟩; go_big_quiet_on)
                        exact wpQuiet_nil rfl
                      · skip
                        refine wpAnyH_key (D := Int × Int × Int) (fun d => (k + 1 + 1 + 1 + 1 + 1 + 1 + 1 + 1 + 1, [(N, [.int .i64 1, .int .i64 d.2.2, .string TX])], [])) (fun d a => ((((a.put (some 107) (.int .i64 (nn : Int))).put (some 109) (.int .i64 d.1)).put (some 110) (.int .i64 d.2.1)).put (some 111) (.int .i64 d.2.2)).put (some 112) (.pointer (some ⟨N, 1, none⟩))) ?_ ?_
                        · skip
                          refine wpAnyH_two 1 3 (by kernel_rfl) ?_ ?_
                          · skip
                            refine hOp_special (d := some 107) rfl rfl rfl (by kernel_rfl) fun wq1 hc => ⟨.int .i64 (nn : Int), wq1, (k + 1 + 1 + 1 + 1 + 1 + 1 + 1 + 1, [(N, [.int .i64 1, .int .i64 (nn : Int), .string TX])], []), by have q9 := hc.out.boxed.cell 1; simp at q9; simp [go_sem, q9], hc, ?_⟩
                            clear hc
                            refine wpAnyH_call (i := 3) (d := some 109) 55 #[.pointer (some ⟨R, 0, none⟩), .int .i64 20] rfl (by kernel_rfl) rfl rfl (by kernel_rfl) (fun _ => by kernel_rfl) fun wa3 hc => ?_
                            refine (pick_any R (k + 1 + 1 + 1 + 1 + 1 + 1 + 1 + 1) 20 wa3 hc.out.dx.rd (by omega)).mono ?_
                            rintro e wb3 ⟨v3, rfl, lo3, hi3, m3, hw3⟩
                            have hi3 := hi3 (by omega)
                            refine ⟨_, rfl, (k + 1 + 1 + 1 + 1 + 1 + 1 + 1 + 1 + 1, [(N, [.int .i64 1, .int .i64 (nn : Int), .string TX])], []), Lib.hid (hc.out.next hw3), ?_⟩
                            clear hw3 hc
                            refine wpAnyH_takeI (i := 4) (d := some 110) rfl (by kernel_rfl) rfl rfl (by kernel_rfl) (by kernel_rfl) (by kernel_rfl) ⟨_, fun _ => by simp [go_sem]; rfl⟩ fun x4 => ?_
                            refine wpAnyH_takeI (i := 5) (d := some 111) rfl (by kernel_rfl) rfl rfl (by kernel_rfl) (by kernel_rfl) (by kernel_rfl) ⟨_, fun _ => by simp [go_sem]; rfl⟩ fun x5 => ?_
                            refine wpAnyH_take (i := 6) (d := some 112) (.pointer (some ⟨N, 1, none⟩)) rfl (by kernel_rfl) rfl rfl (by kernel_rfl) (by kernel_rfl) (by kernel_rfl) (fun _ => by kernel_rfl) ?_
                            refine wpAnyH_special (i := 7) (d := none) rfl (by kernel_rfl) rfl rfl (by kernel_rfl) fun we he => ?_
                            have kb := he.out.boxed
                            have k1 := kb.cell 1; have f1 := kb.frozen 1
                            simp at k1
                            refine ⟨undef, (we.setCell ⟨N, 1, none⟩ (.int .i64 x5)), (k + 1 + 1 + 1 + 1 + 1 + 1 + 1 + 1 + 1, [(N, [.int .i64 1, .int .i64 x5, .string TX])], []), .inr ⟨by simp [go_sem, Act.put, k1, f1], rfl⟩, Lib.hid (he.out.put 1 _), ?_⟩
                            clear he kb k1 f1
                            exact ⟨by kernel_rfl, ⟨v3, x4, x5⟩, rfl, by kernel_rfl⟩
                          · skip
                            refine hOp_call 55 #[.pointer (some ⟨R, 0, none⟩), .int .i64 20] (d := some 109) rfl rfl rfl (by kernel_rfl) (fun _ => by kernel_rfl) fun wa3 hc => ?_
                            refine (pick_any R (k + 1 + 1 + 1 + 1 + 1 + 1 + 1 + 1) 20 wa3 hc.out.dx.rd (by omega)).mono ?_
                            rintro e wb3 ⟨v3, rfl, lo3, hi3, m3, hw3⟩
                            have hi3 := hi3 (by omega)
                            refine ⟨_, rfl, (k + 1 + 1 + 1 + 1 + 1 + 1 + 1 + 1 + 1, [(N, [.int .i64 1, .int .i64 (nn : Int), .string TX])], []), Lib.hid (hc.out.next hw3), ?_⟩
                            clear hw3 hc
                            refine wpAnyH_special (i := 1) (d := some 107) rfl (by kernel_rfl) rfl rfl (by kernel_rfl) fun wq1 hc => ⟨.int .i64 (nn : Int), wq1, (k + 1 + 1 + 1 + 1 + 1 + 1 + 1 + 1 + 1, [(N, [.int .i64 1, .int .i64 (nn : Int), .string TX])], []), .inl (by have q9 := hc.out.boxed.cell 1; simp at q9; simp [go_sem, q9]), hc, ?_⟩
                            clear hc
                            refine wpAnyH_takeI (i := 4) (d := some 110) rfl (by kernel_rfl) rfl rfl (by kernel_rfl) (by kernel_rfl) (by kernel_rfl) ⟨_, fun _ => by simp [go_sem]; rfl⟩ fun x4 => ?_
                            refine wpAnyH_takeI (i := 5) (d := some 111) rfl (by kernel_rfl) rfl rfl (by kernel_rfl) (by kernel_rfl) (by kernel_rfl) ⟨_, fun _ => by simp [go_sem]; rfl⟩ fun x5 => ?_
                            refine wpAnyH_take (i := 6) (d := some 112) (.pointer (some ⟨N, 1, none⟩)) rfl (by kernel_rfl) rfl rfl (by kernel_rfl) (by kernel_rfl) (by kernel_rfl) (fun _ => by kernel_rfl) ?_
                            refine wpAnyH_special (i := 7) (d := none) rfl (by kernel_rfl) rfl rfl (by kernel_rfl) fun we he => ?_
                            have kb := he.out.boxed
                            have k1 := kb.cell 1; have f1 := kb.frozen 1
                            simp at k1
                            refine ⟨undef, (we.setCell ⟨N, 1, none⟩ (.int .i64 x5)), (k + 1 + 1 + 1 + 1 + 1 + 1 + 1 + 1 + 1, [(N, [.int .i64 1, .int .i64 x5, .string TX])], []), .inr ⟨by simp [go_sem, Act.put, k1, f1], rfl⟩, Lib.hid (he.out.put 1 _), ?_⟩
                            clear he kb k1 f1
                            exact ⟨by kernel_rfl, ⟨v3, x4, x5⟩, rfl, by kernel_rfl⟩
                        · rintro ⟨v3, x4, x5⟩ w9s hz
                          dsimp only at hz ⊢
                          simp only [Act.put, List.setIfInBounds_toArray, List.set_cons_zero, List.set_cons_succ]
                          have G9 := Lib.hid (show Dx w R ((N, [.int .i64 1, .int .i64 x5, .string TX]) :: [(w.heap.size + 1, [.int .i64 0, .int .i64 0, .string ⟨#[]⟩]), (w.heap.size, [.int .i64 g, .slice va ns.length vc])]) [(.slice (some ⟨X, 0, none⟩) kl uc, KS)] (k + 1 + 1 + 1 + 1 + 1 + 1 + 1 + 1 + 1) w9s from hz.out.dx)
                          clear hz E9
                          go_wp2_with fail
                          refine (odd_any R (k + 1 + 1 + 1 + 1 + 1 + 1 + 1 + 1 + 1) 40 _ G9.out.rd (by omega) (by omega) (by omega)).mono ?_
                          rintro e w12t ⟨b, rfl, mm, hw⟩
                          have E12 := Lib.hid (G9.out.next hw)
                          clear hw mm G9
                          cases b
                          · skip
                            have q0 := (E12.out.bx _ (.head _)).2.cell 0
                            have q1 := (E12.out.bx _ (.head _)).2.cell 1
                            have q2 := (E12.out.bx _ (.head _)).2.cell 2
                            simp at q0 q1 q2
                            have r0 := (E12.out.bx _ (.tail _ (.head _))).2.cell 0
                            have r1 := (E12.out.bx _ (.tail _ (.head _))).2.cell 1
                            have r2 := (E12.out.bx _ (.tail _ (.head _))).2.cell 2
                            have fr0 := (E12.out.bx _ (.tail _ (.head _))).2.frozen 0
                            have fr1 := (E12.out.bx _ (.tail _ (.head _))).2.frozen 1
                            have fr2 := (E12.out.bx _ (.tail _ (.head _))).2.frozen 2
                            simp at r0 r1 r2
                            go_wp2
                            refine bodyPost_ret (v := .agg #[.int .i64 1, .int .i64 x5, .string TX]) ?_ rfl ?_
                            · simp [results, Tryd.results69, go_sem, r0, r1, r2]
                            · have hd : ∀ b : Nat × List Value, b ∈ [(N, [.int .i64 1, .int .i64 x5, .string TX])] ++ [(w.heap.size, [.int .i64 g, .slice va ns.length vc])] → b.1 ≠ w.heap.size + 1 := fun b m => by
                                have := HNE.out
                                simp at m
                                rcases m with rfl | rfl
                                · show N ≠ w.heap.size + 1; omega
                                · show w.heap.size ≠ w.heap.size + 1; omega
                              have DF := ((E12.out.putAtB (B1 := [(N, [.int .i64 1, .int .i64 x5, .string TX])]) (B2 := [(w.heap.size, [.int .i64 g, .slice va ns.length vc])]) (N := w.heap.size + 1) hd 0 (.int .i64 1)).putAtB (B1 := [(N, [.int .i64 1, .int .i64 x5, .string TX])]) (B2 := [(w.heap.size, [.int .i64 g, .slice va ns.length vc])]) (N := w.heap.size + 1) hd 1 (.int .i64 x5)).putAtB (B1 := [(N, [.int .i64 1, .int .i64 x5, .string TX])]) (B2 := [(w.heap.size, [.int .i64 g, .slice va ns.length vc])]) (N := w.heap.size + 1) hd 2 (.string TX)
                              skip
                              exact ⟨_, _, _, _, rfl, (by first | exact Nat.le_trans HT.out (by decide) | (rw [ByteArray.size_append]; exact Nat.le_trans (Nat.add_le_add_right HT.out 1) (by decide))), by omega, DF.gr, DF.rd⟩
                          · skip
                            have hts := HT.out
                            have q0 := (E12.out.bx _ (.head _)).2.cell 0
                            have q1 := (E12.out.bx _ (.head _)).2.cell 1
                            have q2 := (E12.out.bx _ (.head _)).2.cell 2
                            have fq0 := (E12.out.bx _ (.head _)).2.frozen 0
                            have fq1 := (E12.out.bx _ (.head _)).2.frozen 1
                            have fq2 := (E12.out.bx _ (.head _)).2.frozen 2
                            simp at q0 q1 q2
                            obtain ⟨u13, hu13⟩ : ∃ z, z = w12t.setCell ⟨N, 2, none⟩ (.string (TX ++ ⟨#[48]⟩)) := ⟨_, rfl⟩
                            have F12 := Lib.hid (show Dx w R ((N, [.int .i64 1, .int .i64 x5, .string (TX ++ ⟨#[48]⟩)]) :: [(w.heap.size + 1, [.int .i64 0, .int .i64 0, .string ⟨#[]⟩]), (w.heap.size, [.int .i64 g, .slice va ns.length vc])]) [(.slice (some ⟨X, 0, none⟩) kl uc, KS)] (k + 1 + 1 + 1 + 1 + 1 + 1 + 1 + 1 + 1 + 1) u13 by rw [hu13]; exact (E12.out.put HD.out 2 (.string (TX ++ ⟨#[48]⟩))))
                            have HU13 := Lib.hid hu13
                            clear hu13
                            skip
                            have q0 := (F12.out.bx _ (.head _)).2.cell 0
                            have q1 := (F12.out.bx _ (.head _)).2.cell 1
                            have q2 := (F12.out.bx _ (.head _)).2.cell 2
                            simp at q0 q1 q2
                            have r0 := (F12.out.bx _ (.tail _ (.head _))).2.cell 0
                            have r1 := (F12.out.bx _ (.tail _ (.head _))).2.cell 1
                            have r2 := (F12.out.bx _ (.tail _ (.head _))).2.cell 2
                            have fr0 := (F12.out.bx _ (.tail _ (.head _))).2.frozen 0
                            have fr1 := (F12.out.bx _ (.tail _ (.head _))).2.frozen 1
                            have fr2 := (F12.out.bx _ (.tail _ (.head _))).2.frozen 2
                            simp at r0 r1 r2
                            rw [HU13.out] at q0 q1 q2 r0 r1 r2 fr0 fr1 fr2
                            go_wp2
                            refine bodyPost_ret (v := .agg #[.int .i64 1, .int .i64 x5, .string (TX ++ ⟨#[48]⟩)]) ?_ rfl ?_
                            · simp [results, Tryd.results69, go_sem, r0, r1, r2]
                            · have hd : ∀ b : Nat × List Value, b ∈ [(N, [.int .i64 1, .int .i64 x5, .string (TX ++ ⟨#[48]⟩)])] ++ [(w.heap.size, [.int .i64 g, .slice va ns.length vc])] → b.1 ≠ w.heap.size + 1 := fun b m => by
                                have := HNE.out
                                simp at m
                                rcases m with rfl | rfl
                                · show N ≠ w.heap.size + 1; omega
                                · show w.heap.size ≠ w.heap.size + 1; omega
                              have DF := ((F12.out.putAtB (B1 := [(N, [.int .i64 1, .int .i64 x5, .string (TX ++ ⟨#[48]⟩)])]) (B2 := [(w.heap.size, [.int .i64 g, .slice va ns.length vc])]) (N := w.heap.size + 1) hd 0 (.int .i64 1)).putAtB (B1 := [(N, [.int .i64 1, .int .i64 x5, .string (TX ++ ⟨#[48]⟩)])]) (B2 := [(w.heap.size, [.int .i64 g, .slice va ns.length vc])]) (N := w.heap.size + 1) hd 1 (.int .i64 x5)).putAtB (B1 := [(N, [.int .i64 1, .int .i64 x5, .string (TX ++ ⟨#[48]⟩)])]) (B2 := [(w.heap.size, [.int .i64 g, .slice va ns.length vc])]) (N := w.heap.size + 1) hd 2 (.string (TX ++ ⟨#[48]⟩))
                              rw [HU13.out] at DF
                              exact ⟨_, _, _, _, rfl, (by first | exact Nat.le_trans HT.out (by decide) | (rw [ByteArray.size_append]; exact Nat.le_trans (Nat.add_le_add_right HT.out 1) (by decide))), by omega, DF.gr, DF.rd⟩
              · skip
                have r0 := (D8.out.bx _ (.head _)).2.cell 0
                have r1 := (D8.out.bx _ (.head _)).2.cell 1
                have r2 := (D8.out.bx _ (.head _)).2.cell 2
                simp at r0 r1 r2
                have q0 := (D8.out.bx _ (.tail _ (.tail _ (.tail _ (.head _))))).2.cell 0
                have q1 := (D8.out.bx _ (.tail _ (.tail _ (.tail _ (.head _))))).2.cell 1
                simp at q0 q1
                go_wp2_with fail
                refine (stext_any g s a t _).mono ?_
                rintro e w9 ⟨rfl, hb⟩
                have TL := text_leB g s a t
                obtain ⟨TX, hTX⟩ : ∃ x, textOf g s a t = x := ⟨_, rfl⟩
                rw [hTX] at TL ⊢
                have HT : Hid (TX.size ≤ 18) := Lib.hid (Nat.le_trans TL (by decide))
                have D9 := Lib.hid (((D8.out.on hb).sub (Bs' := ((N, [.int .i64 1, .int .i64 (nn : Int), .string ⟨#[]⟩]) :: [(w.heap.size + 1, [.int .i64 0, .int .i64 0, .string ⟨#[]⟩]), (w.heap.size, [.int .i64 g, .slice va ns.length vc])])) (fun _ m => .tail _ m) (fun _ m => m)))
                clear hb hTX TL D8 r0 r1 r2 q0 q1
                have q0 := (D9.out.bx _ (.head _)).2.cell 0
                have q1 := (D9.out.bx _ (.head _)).2.cell 1
                have q2 := (D9.out.bx _ (.head _)).2.cell 2
                have fq0 := (D9.out.bx _ (.head _)).2.frozen 0
                have fq1 := (D9.out.bx _ (.head _)).2.frozen 1
                have fq2 := (D9.out.bx _ (.head _)).2.frozen 2
                simp at q0 q1 q2
                obtain ⟨u14, hu14⟩ : ∃ z, z = w9.setCell ⟨N, 2, none⟩ (.string TX) := ⟨_, rfl⟩
                have D10 := Lib.hid (show Dx w R ((N, [.int .i64 1, .int .i64 (nn : Int), .string TX]) :: [(w.heap.size + 1, [.int .i64 0, .int .i64 0, .string ⟨#[]⟩]), (w.heap.size, [.int .i64 g, .slice va ns.length vc])]) [(.slice (some ⟨X, 0, none⟩) kl uc, KS)] (k + 1 + 1 + 1 + 1 + 1 + 1) u14 by rw [hu14]; exact (D9.out.put HD.out 2 (.string TX)))
                have HU14 := Lib.hid hu14
                clear hu14
                go_wp2_with fail
                rw [← HU14.out]
                refine (odd_any R (k + 1 + 1 + 1 + 1 + 1 + 1) 40 _ D10.out.rd (by omega) (by omega) (by omega)).mono ?_
                rintro e w15t ⟨b, rfl, mm, hw⟩
                have E15 := Lib.hid (D10.out.next hw)
                clear hw mm D10
                cases b
                · skip
                  go_wp2_with fail
                  refine (odd_any R (k + 1 + 1 + 1 + 1 + 1 + 1 + 1) 40 _ E15.out.rd (by omega) (by omega) (by omega)).mono ?_
                  rintro e w16t ⟨b, rfl, mm, hw⟩
                  have E16 := Lib.hid (E15.out.next hw)
                  clear hw mm E15
                  cases b
                  · skip
                    have q0 := (E16.out.bx _ (.head _)).2.cell 0
                    have q1 := (E16.out.bx _ (.head _)).2.cell 1
                    have q2 := (E16.out.bx _ (.head _)).2.cell 2
                    simp at q0 q1 q2
                    have r0 := (E16.out.bx _ (.tail _ (.head _))).2.cell 0
                    have r1 := (E16.out.bx _ (.tail _ (.head _))).2.cell 1
                    have r2 := (E16.out.bx _ (.tail _ (.head _))).2.cell 2
                    have fr0 := (E16.out.bx _ (.tail _ (.head _))).2.frozen 0
                    have fr1 := (E16.out.bx _ (.tail _ (.head _))).2.frozen 1
                    have fr2 := (E16.out.bx _ (.tail _ (.head _))).2.frozen 2
                    simp at r0 r1 r2
                    go_wp2
                    refine bodyPost_ret (v := .agg #[.int .i64 1, .int .i64 (nn : Int), .string TX]) ?_ rfl ?_
                    · simp [results, Tryd.results69, go_sem, r0, r1, r2]
                    · have hd : ∀ b : Nat × List Value, b ∈ [(N, [.int .i64 1, .int .i64 (nn : Int), .string TX])] ++ [(w.heap.size, [.int .i64 g, .slice va ns.length vc])] → b.1 ≠ w.heap.size + 1 := fun b m => by
                        have := HNE.out
                        simp at m
                        rcases m with rfl | rfl
                        · show N ≠ w.heap.size + 1; omega
                        · show w.heap.size ≠ w.heap.size + 1; omega
                      have DF := ((E16.out.putAtB (B1 := [(N, [.int .i64 1, .int .i64 (nn : Int), .string TX])]) (B2 := [(w.heap.size, [.int .i64 g, .slice va ns.length vc])]) (N := w.heap.size + 1) hd 0 (.int .i64 1)).putAtB (B1 := [(N, [.int .i64 1, .int .i64 (nn : Int), .string TX])]) (B2 := [(w.heap.size, [.int .i64 g, .slice va ns.length vc])]) (N := w.heap.size + 1) hd 1 (.int .i64 (nn : Int))).putAtB (B1 := [(N, [.int .i64 1, .int .i64 (nn : Int), .string TX])]) (B2 := [(w.heap.size, [.int .i64 g, .slice va ns.length vc])]) (N := w.heap.size + 1) hd 2 (.string TX)
                      skip
                      exact ⟨_, _, _, _, rfl, (by first | exact Nat.le_trans HT.out (by decide) | (rw [ByteArray.size_append]; exact Nat.le_trans (Nat.add_le_add_right HT.out 1) (by decide))), by omega, DF.gr, DF.rd⟩
                  · skip
                    have hts := HT.out
                    have q0 := (E16.out.bx _ (.head _)).2.cell 0
                    have q1 := (E16.out.bx _ (.head _)).2.cell 1
                    have q2 := (E16.out.bx _ (.head _)).2.cell 2
                    have fq0 := (E16.out.bx _ (.head _)).2.frozen 0
                    have fq1 := (E16.out.bx _ (.head _)).2.frozen 1
                    have fq2 := (E16.out.bx _ (.head _)).2.frozen 2
                    simp at q0 q1 q2
                    obtain ⟨u17, hu17⟩ : ∃ z, z = w16t.setCell ⟨N, 2, none⟩ (.string (TX ++ ⟨#[48]⟩)) := ⟨_, rfl⟩
                    have F16 := Lib.hid (show Dx w R ((N, [.int .i64 1, .int .i64 (nn : Int), .string (TX ++ ⟨#[48]⟩)]) :: [(w.heap.size + 1, [.int .i64 0, .int .i64 0, .string ⟨#[]⟩]), (w.heap.size, [.int .i64 g, .slice va ns.length vc])]) [(.slice (some ⟨X, 0, none⟩) kl uc, KS)] (k + 1 + 1 + 1 + 1 + 1 + 1 + 1 + 1) u17 by rw [hu17]; exact (E16.out.put HD.out 2 (.string (TX ++ ⟨#[48]⟩))))
                    have HU17 := Lib.hid hu17
                    clear hu17
                    skip
                    have q0 := (F16.out.bx _ (.head _)).2.cell 0
                    have q1 := (F16.out.bx _ (.head _)).2.cell 1
                    have q2 := (F16.out.bx _ (.head _)).2.cell 2
                    simp at q0 q1 q2
                    have r0 := (F16.out.bx _ (.tail _ (.head _))).2.cell 0
                    have r1 := (F16.out.bx _ (.tail _ (.head _))).2.cell 1
                    have r2 := (F16.out.bx _ (.tail _ (.head _))).2.cell 2
                    have fr0 := (F16.out.bx _ (.tail _ (.head _))).2.frozen 0
                    have fr1 := (F16.out.bx _ (.tail _ (.head _))).2.frozen 1
                    have fr2 := (F16.out.bx _ (.tail _ (.head _))).2.frozen 2
                    simp at r0 r1 r2
                    rw [HU17.out] at q0 q1 q2 r0 r1 r2 fr0 fr1 fr2
                    go_wp2
                    refine bodyPost_ret (v := .agg #[.int .i64 1, .int .i64 (nn : Int), .string (TX ++ ⟨#[48]⟩)]) ?_ rfl ?_
                    · simp [results, Tryd.results69, go_sem, r0, r1, r2]
                    · have hd : ∀ b : Nat × List Value, b ∈ [(N, [.int .i64 1, .int .i64 (nn : Int), .string (TX ++ ⟨#[48]⟩)])] ++ [(w.heap.size, [.int .i64 g, .slice va ns.length vc])] → b.1 ≠ w.heap.size + 1 := fun b m => by
                        have := HNE.out
                        simp at m
                        rcases m with rfl | rfl
                        · show N ≠ w.heap.size + 1; omega
                        · show w.heap.size ≠ w.heap.size + 1; omega
                      have DF := ((F16.out.putAtB (B1 := [(N, [.int .i64 1, .int .i64 (nn : Int), .string (TX ++ ⟨#[48]⟩)])]) (B2 := [(w.heap.size, [.int .i64 g, .slice va ns.length vc])]) (N := w.heap.size + 1) hd 0 (.int .i64 1)).putAtB (B1 := [(N, [.int .i64 1, .int .i64 (nn : Int), .string (TX ++ ⟨#[48]⟩)])]) (B2 := [(w.heap.size, [.int .i64 g, .slice va ns.length vc])]) (N := w.heap.size + 1) hd 1 (.int .i64 (nn : Int))).putAtB (B1 := [(N, [.int .i64 1, .int .i64 (nn : Int), .string (TX ++ ⟨#[48]⟩)])]) (B2 := [(w.heap.size, [.int .i64 g, .slice va ns.length vc])]) (N := w.heap.size + 1) hd 2 (.string (TX ++ ⟨#[48]⟩))
                      rw [HU17.out] at DF
                      exact ⟨_, _, _, _, rfl, (by first | exact Nat.le_trans HT.out (by decide) | (rw [ByteArray.size_append]; exact Nat.le_trans (Nat.add_le_add_right HT.out 1) (by decide))), by omega, DF.gr, DF.rd⟩
                · skip
                  go_wp2_with fail
                  apply wp_region_H (Z := Nat × List (Nat × List Value) × List (Value × List Int)) (S := fun k => k == 1 || k == 3 || k == 7) (C := fun z w' => Hid (Dy w w1 R [(w.heap.size + 1, [.int .i64 0, .int .i64 0, .string ⟨#[]⟩]), (w.heap.size, [.int .i64 g, .slice va ns.length vc])] [(.slice (some ⟨X, 0, none⟩) kl uc, KS)] z w')) [0, 2] (k + 1 + 1 + 1 + 1 + 1 + 1 + 1, [(N, [.int .i64 1, .int .i64 (nn : Int), .string TX])], [])
                  · kernel_rfl
                  · kernel_rfl
                  · kernel_rfl
                  · exact ⟨rfl, rfl, trivial⟩
                  · rfl
                  · decide
                  · exact Lib.hid (Dy.from E15.out HNW.out HB0.out (Nat.le_trans HNW.out (Nat.le_of_lt (E15.out.bx _ (.head _)).2.lt)))
                  · intro z
                    dsimp only [pickL, nthO]
                    go_big_quiet_want; go_big_quiet_op; first | go_big_quiet_on | (refine ⟨_, fun _ _ => rfl, ?_⟩; go_big_quiet_on)
                    go_big_quiet_want; go_big_quiet_op; first | go_big_quiet_on | (refine ⟨_, fun _ _ => rfl, ?_⟩; go_big_quiet_on)
                    exact wpQuiet_nil rfl
                  · skip
                    refine wpAnyH_key (D := Int × Int × Int) (fun d => (k + 1 + 1 + 1 + 1 + 1 + 1 + 1 + 1, [(N, [.int .i64 1, .int .i64 d.2.2, .string TX])], [])) (fun d a => ((((a.put (some 107) (.int .i64 (nn : Int))).put (some 109) (.int .i64 d.1)).put (some 110) (.int .i64 d.2.1)).put (some 111) (.int .i64 d.2.2)).put (some 112) (.pointer (some ⟨N, 1, none⟩))) ?_ ?_
                    · skip
                      refine wpAnyH_two 1 3 (by kernel_rfl) ?_ ?_
                      · skip
                        refine hOp_special (d := some 107) rfl rfl rfl (by kernel_rfl) fun wq1 hc => ⟨.int .i64 (nn : Int), wq1, (k + 1 + 1 + 1 + 1 + 1 + 1 + 1, [(N, [.int .i64 1, .int .i64 (nn : Int), .string TX])], []), by have q9 := hc.out.boxed.cell 1; simp at q9; simp [go_sem, q9], hc, ?_⟩
                        clear hc
                        refine wpAnyH_call (i := 3) (d := some 109) 55 #[.pointer (some ⟨R, 0, none⟩), .int .i64 20] rfl (by kernel_rfl) rfl rfl (by kernel_rfl) (fun _ => by kernel_rfl) fun wa3 hc => ?_
                        refine (pick_any R (k + 1 + 1 + 1 + 1 + 1 + 1 + 1) 20 wa3 hc.out.dx.rd (by omega)).mono ?_
                        rintro e wb3 ⟨v3, rfl, lo3, hi3, m3, hw3⟩
                        have hi3 := hi3 (by omega)
                        refine ⟨_, rfl, (k + 1 + 1 + 1 + 1 + 1 + 1 + 1 + 1, [(N, [.int .i64 1, .int .i64 (nn : Int), .string TX])], []), Lib.hid (hc.out.next hw3), ?_⟩
                        clear hw3 hc
                        refine wpAnyH_takeI (i := 4) (d := some 110) rfl (by kernel_rfl) rfl rfl (by kernel_rfl) (by kernel_rfl) (by kernel_rfl) ⟨_, fun _ => by simp [go_sem]; rfl⟩ fun x4 => ?_
                        refine wpAnyH_takeI (i := 5) (d := some 111) rfl (by kernel_rfl) rfl rfl (by kernel_rfl) (by kernel_rfl) (by kernel_rfl) ⟨_, fun _ => by simp [go_sem]; rfl⟩ fun x5 => ?_
                        refine wpAnyH_take (i := 6) (d := some 112) (.pointer (some ⟨N, 1, none⟩)) rfl (by kernel_rfl) rfl rfl (by kernel_rfl) (by kernel_rfl) (by kernel_rfl) (fun _ => by kernel_rfl) ?_
                        refine wpAnyH_special (i := 7) (d := none) rfl (by kernel_rfl) rfl rfl (by kernel_rfl) fun we he => ?_
                        have kb := he.out.boxed
                        have k1 := kb.cell 1; have f1 := kb.frozen 1
                        simp at k1
                        refine ⟨undef, (we.setCell ⟨N, 1, none⟩ (.int .i64 x5)), (k + 1 + 1 + 1 + 1 + 1 + 1 + 1 + 1, [(N, [.int .i64 1, .int .i64 x5, .string TX])], []), .inr ⟨by simp [go_sem, Act.put, k1, f1], rfl⟩, Lib.hid (he.out.put 1 _), ?_⟩
                        clear he kb k1 f1
                        exact ⟨by kernel_rfl, ⟨v3, x4, x5⟩, rfl, by kernel_rfl⟩
                      · skip
                        refine hOp_call 55 #[.pointer (some ⟨R, 0, none⟩), .int .i64 20] (d := some 109) rfl rfl rfl (by kernel_rfl) (fun _ => by kernel_rfl) fun wa3 hc => ?_
                        refine (pick_any R (k + 1 + 1 + 1 + 1 + 1 + 1 + 1) 20 wa3 hc.out.dx.rd (by omega)).mono ?_
                        rintro e wb3 ⟨v3, rfl, lo3, hi3, m3, hw3⟩
                        have hi3 := hi3 (by omega)
                        refine ⟨_, rfl, (k + 1 + 1 + 1 + 1 + 1 + 1 + 1 + 1, [(N, [.int .i64 1, .int .i64 (nn : Int), .string TX])], []), Lib.hid (hc.out.next hw3), ?_⟩
                        clear hw3 hc
                        refine wpAnyH_special (i := 1) (d := some 107) rfl (by kernel_rfl) rfl rfl (by kernel_rfl) fun wq1 hc => ⟨.int .i64 (nn : Int), wq1, (k + 1 + 1 + 1 + 1 + 1 + 1 + 1 + 1, [(N, [.int .i64 1, .int .i64 (nn : Int), .string TX])], []), .inl (by have q9 := hc.out.boxed.cell 1; simp at q9; simp [go_sem, q9]), hc, ?_⟩
                        clear hc
                        refine wpAnyH_takeI (i := 4) (d := some 110) rfl (by kernel_rfl) rfl rfl (by kernel_rfl) (by kernel_rfl) (by kernel_rfl) ⟨_, fun _ => by simp [go_sem]; rfl⟩ fun x4 => ?_
                        refine wpAnyH_takeI (i := 5) (d := some 111) rfl (by kernel_rfl) rfl rfl (by kernel_rfl) (by kernel_rfl) (by kernel_rfl) ⟨_, fun _ => by simp [go_sem]; rfl⟩ fun x5 => ?_
                        refine wpAnyH_take (i := 6) (d := some 112) (.pointer (some ⟨N, 1, none⟩)) rfl (by kernel_rfl) rfl rfl (by kernel_rfl) (by kernel_rfl) (by kernel_rfl) (fun _ => by kernel_rfl) ?_
                        refine wpAnyH_special (i := 7) (d := none) rfl (by kernel_rfl) rfl rfl (by kernel_rfl) fun we he => ?_
                        have kb := he.out.boxed
                        have k1 := kb.cell 1; have f1 := kb.frozen 1
                        simp at k1
                        refine ⟨undef, (we.setCell ⟨N, 1, none⟩ (.int .i64 x5)), (k + 1 + 1 + 1 + 1 + 1 + 1 + 1 + 1, [(N, [.int .i64 1, .int .i64 x5, .string TX])], []), .inr ⟨by simp [go_sem, Act.put, k1, f1], rfl⟩, Lib.hid (he.out.put 1 _), ?_⟩
                        clear he kb k1 f1
                        exact ⟨by kernel_rfl, ⟨v3, x4, x5⟩, rfl, by kernel_rfl⟩
                    · rintro ⟨v3, x4, x5⟩ w15s hz
                      dsimp only at hz ⊢
                      simp only [Act.put, List.setIfInBounds_toArray, List.set_cons_zero, List.set_cons_succ]
                      have G15 := Lib.hid (show Dx w R ((N, [.int .i64 1, .int .i64 x5, .string TX]) :: [(w.heap.size + 1, [.int .i64 0, .int .i64 0, .string ⟨#[]⟩]), (w.heap.size, [.int .i64 g, .slice va ns.length vc])]) [(.slice (some ⟨X, 0, none⟩) kl uc, KS)] (k + 1 + 1 + 1 + 1 + 1 + 1 + 1 + 1) w15s from hz.out.dx)
                      clear hz E15
                      go_wp2_with fail
                      refine (odd_any R (k + 1 + 1 + 1 + 1 + 1 + 1 + 1 + 1) 40 _ G15.out.rd (by omega) (by omega) (by omega)).mono ?_
                      rintro e w18t ⟨b, rfl, mm, hw⟩
                      have E18 := Lib.hid (G15.out.next hw)
                      clear hw mm G15
                      cases b
                      · skip
                        have q0 := (E18.out.bx _ (.head _)).2.cell 0
                        have q1 := (E18.out.bx _ (.head _)).2.cell 1
                        have q2 := (E18.out.bx _ (.head _)).2.cell 2
                        simp at q0 q1 q2
                        have r0 := (E18.out.bx _ (.tail _ (.head _))).2.cell 0
                        have r1 := (E18.out.bx _ (.tail _ (.head _))).2.cell 1
                        have r2 := (E18.out.bx _ (.tail _ (.head _))).2.cell 2
                        have fr0 := (E18.out.bx _ (.tail _ (.head _))).2.frozen 0
                        have fr1 := (E18.out.bx _ (.tail _ (.head _))).2.frozen 1
                        have fr2 := (E18.out.bx _ (.tail _ (.head _))).2.frozen 2
                        simp at r0 r1 r2
                        go_wp2
                        refine bodyPost_ret (v := .agg #[.int .i64 1, .int .i64 x5, .string TX]) ?_ rfl ?_
                        · simp [results, Tryd.results69, go_sem, r0, r1, r2]
                        · have hd : ∀ b : Nat × List Value, b ∈ [(N, [.int .i64 1, .int .i64 x5, .string TX])] ++ [(w.heap.size, [.int .i64 g, .slice va ns.length vc])] → b.1 ≠ w.heap.size + 1 := fun b m => by
                            have := HNE.out
                            simp at m
                            rcases m with rfl | rfl
                            · show N ≠ w.heap.size + 1; omega
                            · show w.heap.size ≠ w.heap.size + 1; omega
                          have DF := ((E18.out.putAtB (B1 := [(N, [.int .i64 1, .int .i64 x5, .string TX])]) (B2 := [(w.heap.size, [.int .i64 g, .slice va ns.length vc])]) (N := w.heap.size + 1) hd 0 (.int .i64 1)).putAtB (B1 := [(N, [.int .i64 1, .int .i64 x5, .string TX])]) (B2 := [(w.heap.size, [.int .i64 g, .slice va ns.length vc])]) (N := w.heap.size + 1) hd 1 (.int .i64 x5)).putAtB (B1 := [(N, [.int .i64 1, .int .i64 x5, .string TX])]) (B2 := [(w.heap.size, [.int .i64 g, .slice va ns.length vc])]) (N := w.heap.size + 1) hd 2 (.string TX)
                          skip
                          exact ⟨_, _, _, _, rfl, (by first | exact Nat.le_trans HT.out (by decide) | (rw [ByteArray.size_append]; exact Nat.le_trans (Nat.add_le_add_right HT.out 1) (by decide))), by omega, DF.gr, DF.rd⟩
                      · skip
                        have hts := HT.out
                        have q0 := (E18.out.bx _ (.head _)).2.cell 0
                        have q1 := (E18.out.bx _ (.head _)).2.cell 1
                        have q2 := (E18.out.bx _ (.head _)).2.cell 2
                        have fq0 := (E18.out.bx _ (.head _)).2.frozen 0
                        have fq1 := (E18.out.bx _ (.head _)).2.frozen 1
                        have fq2 := (E18.out.bx _ (.head _)).2.frozen 2
                        simp at q0 q1 q2
                        obtain ⟨u19, hu19⟩ : ∃ z, z = w18t.setCell ⟨N, 2, none⟩ (.string (TX ++ ⟨#[48]⟩)) := ⟨_, rfl⟩
                        have F18 := Lib.hid (show Dx w R ((N, [.int .i64 1, .int .i64 x5, .string (TX ++ ⟨#[48]⟩)]) :: [(w.heap.size + 1, [.int .i64 0, .int .i64 0, .string ⟨#[]⟩]), (w.heap.size, [.int .i64 g, .slice va ns.length vc])]) [(.slice (some ⟨X, 0, none⟩) kl uc, KS)] (k + 1 + 1 + 1 + 1 + 1 + 1 + 1 + 1 + 1) u19 by rw [hu19]; exact (E18.out.put HD.out 2 (.string (TX ++ ⟨#[48]⟩))))
                        have HU19 := Lib.hid hu19
                        clear hu19
                        skip
                        have q0 := (F18.out.bx _ (.head _)).2.cell 0
                        have q1 := (F18.out.bx _ (.head _)).2.cell 1
                        have q2 := (F18.out.bx _ (.head _)).2.cell 2
                        simp at q0 q1 q2
                        have r0 := (F18.out.bx _ (.tail _ (.head _))).2.cell 0
                        have r1 := (F18.out.bx _ (.tail _ (.head _))).2.cell 1
                        have r2 := (F18.out.bx _ (.tail _ (.head _))).2.cell 2
                        have fr0 := (F18.out.bx _ (.tail _ (.head _))).2.frozen 0
                        have fr1 := (F18.out.bx _ (.tail _ (.head _))).2.frozen 1
                        have fr2 := (F18.out.bx _ (.tail _ (.head _))).2.frozen 2
                        simp at r0 r1 r2
                        rw [HU19.out] at q0 q1 q2 r0 r1 r2 fr0 fr1 fr2
                        go_wp2
                        refine bodyPost_ret (v := .agg #[.int .i64 1, .int .i64 x5, .string (TX ++ ⟨#[48]⟩)]) ?_ rfl ?_
                        · simp [results, Tryd.results69, go_sem, r0, r1, r2]
                        · have hd : ∀ b : Nat × List Value, b ∈ [(N, [.int .i64 1, .int .i64 x5, .string (TX ++ ⟨#[48]⟩)])] ++ [(w.heap.size, [.int .i64 g, .slice va ns.length vc])] → b.1 ≠ w.heap.size + 1 := fun b m => by
                            have := HNE.out
                            simp at m
                            rcases m with rfl | rfl
                            · show N ≠ w.heap.size + 1; omega
                            · show w.heap.size ≠ w.heap.size + 1; omega
                          have DF := ((F18.out.putAtB (B1 := [(N, [.int .i64 1, .int .i64 x5, .string (TX ++ ⟨#[48]⟩)])]) (B2 := [(w.heap.size, [.int .i64 g, .slice va ns.length vc])]) (N := w.heap.size + 1) hd 0 (.int .i64 1)).putAtB (B1 := [(N, [.int .i64 1, .int .i64 x5, .string (TX ++ ⟨#[48]⟩)])]) (B2 := [(w.heap.size, [.int .i64 g, .slice va ns.length vc])]) (N := w.heap.size + 1) hd 1 (.int .i64 x5)).putAtB (B1 := [(N, [.int .i64 1, .int .i64 x5, .string (TX ++ ⟨#[48]⟩)])]) (B2 := [(w.heap.size, [.int .i64 g, .slice va ns.length vc])]) (N := w.heap.size + 1) hd 2 (.string (TX ++ ⟨#[48]⟩))
                          rw [HU19.out] at DF
                          exact ⟨_, _, _, _, rfl, (by first | exact Nat.le_trans HT.out (by decide) | (rw [ByteArray.size_append]; exact Nat.le_trans (Nat.add_le_add_right HT.out 1) (by decide))), by omega, DF.gr, DF.rd⟩
        · have hke0 : ¬ (0 : Int) < (KS.length : Int) := by omega
          subst hk1
          obtain ⟨u20, hu20⟩ : ∃ z, z = w3.setCell ⟨N, 2, none⟩ (.string ⟨#[49, 44, 48, 44, 48]⟩) := ⟨_, rfl⟩
          have D5 := Lib.hid (show Dx w R ((N, [.int .i64 1, .int .i64 0, .string ⟨#[49, 44, 48, 44, 48]⟩]) :: [(w.heap.size + 1, [.int .i64 0, .int .i64 0, .string ⟨#[]⟩]), (w.heap.size, [.int .i64 g, .slice va ns.length vc])]) [(.slice ua KS.length uc, KS)] (k + 1 + 1) u20 by rw [hu20]; exact (D3.out.put HD.out 2 (.string ⟨#[49, 44, 48, 44, 48]⟩)))
          have HU20 := Lib.hid hu20
          clear hu20
          have HT : Hid ((⟨#[49, 44, 48, 44, 48]⟩ : ByteArray).size ≤ 18) := Lib.hid (by decide)
          clear D3
          go_wp2_with fail
          rw [← HU20.out]
          refine (odd_any R (k + 1 + 1) 40 _ D5.out.rd (by omega) (by omega) (by omega)).mono ?_
          rintro e w21t ⟨b, rfl, mm, hw⟩
          have E21 := Lib.hid (D5.out.next hw)
          clear hw mm D5
          cases b
          · skip
            go_wp2_with fail
            refine (odd_any R (k + 1 + 1 + 1) 40 _ E21.out.rd (by omega) (by omega) (by omega)).mono ?_
            rintro e w22t ⟨b, rfl, mm, hw⟩
            have E22 := Lib.hid (E21.out.next hw)
            clear hw mm E21
            cases b
            · skip
              have q0 := (E22.out.bx _ (.head _)).2.cell 0
              have q1 := (E22.out.bx _ (.head _)).2.cell 1
              have q2 := (E22.out.bx _ (.head _)).2.cell 2
              simp at q0 q1 q2
              have r0 := (E22.out.bx _ (.tail _ (.head _))).2.cell 0
              have r1 := (E22.out.bx _ (.tail _ (.head _))).2.cell 1
              have r2 := (E22.out.bx _ (.tail _ (.head _))).2.cell 2
              have fr0 := (E22.out.bx _ (.tail _ (.head _))).2.frozen 0
              have fr1 := (E22.out.bx _ (.tail _ (.head _))).2.frozen 1
              have fr2 := (E22.out.bx _ (.tail _ (.head _))).2.frozen 2
              simp at r0 r1 r2
              go_wp2
              refine bodyPost_ret (v := .agg #[.int .i64 1, .int .i64 0, .string ⟨#[49, 44, 48, 44, 48]⟩]) ?_ rfl ?_
              · simp [results, Tryd.results69, go_sem, r0, r1, r2]
              · have hd : ∀ b : Nat × List Value, b ∈ [(N, [.int .i64 1, .int .i64 0, .string ⟨#[49, 44, 48, 44, 48]⟩])] ++ [(w.heap.size, [.int .i64 g, .slice va ns.length vc])] → b.1 ≠ w.heap.size + 1 := fun b m => by
                  have := HNE.out
                  simp at m
                  rcases m with rfl | rfl
                  · show N ≠ w.heap.size + 1; omega
                  · show w.heap.size ≠ w.heap.size + 1; omega
                have DF := ((E22.out.putAtB (B1 := [(N, [.int .i64 1, .int .i64 0, .string ⟨#[49, 44, 48, 44, 48]⟩])]) (B2 := [(w.heap.size, [.int .i64 g, .slice va ns.length vc])]) (N := w.heap.size + 1) hd 0 (.int .i64 1)).putAtB (B1 := [(N, [.int .i64 1, .int .i64 0, .string ⟨#[49, 44, 48, 44, 48]⟩])]) (B2 := [(w.heap.size, [.int .i64 g, .slice va ns.length vc])]) (N := w.heap.size + 1) hd 1 (.int .i64 0)).putAtB (B1 := [(N, [.int .i64 1, .int .i64 0, .string ⟨#[49, 44, 48, 44, 48]⟩])]) (B2 := [(w.heap.size, [.int .i64 g, .slice va ns.length vc])]) (N := w.heap.size + 1) hd 2 (.string ⟨#[49, 44, 48, 44, 48]⟩)
                skip
                exact ⟨_, _, _, _, rfl, (by first | exact Nat.le_trans HT.out (by decide) | (rw [ByteArray.size_append]; exact Nat.le_trans (Nat.add_le_add_right HT.out 1) (by decide))), by omega, DF.gr, DF.rd⟩
            · skip
              have hts := HT.out
              have q0 := (E22.out.bx _ (.head _)).2.cell 0
              have q1 := (E22.out.bx _ (.head _)).2.cell 1
              have q2 := (E22.out.bx _ (.head _)).2.cell 2
              have fq0 := (E22.out.bx _ (.head _)).2.frozen 0
              have fq1 := (E22.out.bx _ (.head _)).2.frozen 1
              have fq2 := (E22.out.bx _ (.head _)).2.frozen 2
              simp at q0 q1 q2
              obtain ⟨u23, hu23⟩ : ∃ z, z = w22t.setCell ⟨N, 2, none⟩ (.string (⟨#[49, 44, 48, 44, 48]⟩ ++ ⟨#[48]⟩)) := ⟨_, rfl⟩
              have F22 := Lib.hid (show Dx w R ((N, [.int .i64 1, .int .i64 0, .string (⟨#[49, 44, 48, 44, 48]⟩ ++ ⟨#[48]⟩)]) :: [(w.heap.size + 1, [.int .i64 0, .int .i64 0, .string ⟨#[]⟩]), (w.heap.size, [.int .i64 g, .slice va ns.length vc])]) [(.slice ua KS.length uc, KS)] (k + 1 + 1 + 1 + 1) u23 by rw [hu23]; exact (E22.out.put HD.out 2 (.string (⟨#[49, 44, 48, 44, 48]⟩ ++ ⟨#[48]⟩))))
              have HU23 := Lib.hid hu23
              clear hu23
              skip
              have q0 := (F22.out.bx _ (.head _)).2.cell 0
              have q1 := (F22.out.bx _ (.head _)).2.cell 1
              have q2 := (F22.out.bx _ (.head _)).2.cell 2
              simp at q0 q1 q2
              have r0 := (F22.out.bx _ (.tail _ (.head _))).2.cell 0
              have r1 := (F22.out.bx _ (.tail _ (.head _))).2.cell 1
              have r2 := (F22.out.bx _ (.tail _ (.head _))).2.cell 2
              have fr0 := (F22.out.bx _ (.tail _ (.head _))).2.frozen 0
              have fr1 := (F22.out.bx _ (.tail _ (.head _))).2.frozen 1
              have fr2 := (F22.out.bx _ (.tail _ (.head _))).2.frozen 2
              simp at r0 r1 r2
              rw [HU23.out] at q0 q1 q2 r0 r1 r2 fr0 fr1 fr2
              go_wp2
              refine bodyPost_ret (v := .agg #[.int .i64 1, .int .i64 0, .string (⟨#[49, 44, 48, 44, 48]⟩ ++ ⟨#[48]⟩)]) ?_ rfl ?_
              · simp [results, Tryd.results69, go_sem, r0, r1, r2]
              · have hd : ∀ b : Nat × List Value, b ∈ [(N, [.int .i64 1, .int .i64 0, .string (⟨#[49, 44, 48, 44, 48]⟩ ++ ⟨#[48]⟩)])] ++ [(w.heap.size, [.int .i64 g, .slice va ns.length vc])] → b.1 ≠ w.heap.size + 1 := fun b m => by
                  have := HNE.out
                  simp at m
                  rcases m with rfl | rfl
                  · show N ≠ w.heap.size + 1; omega
                  · show w.heap.size ≠ w.heap.size + 1; omega
                have DF := ((F22.out.putAtB (B1 := [(N, [.int .i64 1, .int .i64 0, .string (⟨#[49, 44, 48, 44, 48]⟩ ++ ⟨#[48]⟩)])]) (B2 := [(w.heap.size, [.int .i64 g, .slice va ns.length vc])]) (N := w.heap.size + 1) hd 0 (.int .i64 1)).putAtB (B1 := [(N, [.int .i64 1, .int .i64 0, .string (⟨#[49, 44, 48, 44, 48]⟩ ++ ⟨#[48]⟩)])]) (B2 := [(w.heap.size, [.int .i64 g, .slice va ns.length vc])]) (N := w.heap.size + 1) hd 1 (.int .i64 0)).putAtB (B1 := [(N, [.int .i64 1, .int .i64 0, .string (⟨#[49, 44, 48, 44, 48]⟩ ++ ⟨#[48]⟩)])]) (B2 := [(w.heap.size, [.int .i64 g, .slice va ns.length vc])]) (N := w.heap.size + 1) hd 2 (.string (⟨#[49, 44, 48, 44, 48]⟩ ++ ⟨#[48]⟩))
                rw [HU23.out] at DF
                exact ⟨_, _, _, _, rfl, (by first | exact Nat.le_trans HT.out (by decide) | (rw [ByteArray.size_append]; exact Nat.le_trans (Nat.add_le_add_right HT.out 1) (by decide))), by omega, DF.gr, DF.rd⟩
          · skip
            go_wp2_with fail
            apply wp_region_H (Z := Nat × List (Nat × List Value) × List (Value × List Int)) (S := fun k => k == 1 || k == 3 || k == 7) (C := fun z w' => Hid (Dy w w1 R [(w.heap.size + 1, [.int .i64 0, .int .i64 0, .string ⟨#[]⟩]), (w.heap.size, [.int .i64 g, .slice va ns.length vc])] [(.slice ua KS.length uc, KS)] z w')) [0, 2] (k + 1 + 1 + 1, [(N, [.int .i64 1, .int .i64 0, .string ⟨#[49, 44, 48, 44, 48]⟩])], [])
            · kernel_rfl
            · kernel_rfl
            · kernel_rfl
            · exact ⟨rfl, rfl, trivial⟩
            · rfl
            · decide
            · exact Lib.hid (Dy.from E21.out HNW.out HB0.out (Nat.le_trans HNW.out (Nat.le_of_lt (E21.out.bx _ (.head _)).2.lt)))
            · intro z
              dsimp only [pickL, nthO]
              go_big_quiet_want; go_big_quiet_op; first | go_big_quiet_on | (refine ⟨_, fun _ _ => rfl, ?_⟩; go_big_quiet_on)
              go_big_quiet_want; go_big_quiet_op; first | go_big_quiet_on | (refine ⟨_, fun _ _ => rfl, ?_⟩; go_big_quiet_on)
              exact wpQuiet_nil rfl
            · skip
              refine wpAnyH_key (D := Int × Int × Int) (fun d => (k + 1 + 1 + 1 + 1, [(N, [.int .i64 1, .int .i64 d.2.2, .string ⟨#[49, 44, 48, 44, 48]⟩])], [])) (fun d a => ((((a.put (some 107) (.int .i64 0)).put (some 109) (.int .i64 d.1)).put (some 110) (.int .i64 d.2.1)).put (some 111) (.int .i64 d.2.2)).put (some 112) (.pointer (some ⟨N, 1, none⟩))) ?_ ?_
              · skip
                refine wpAnyH_two 1 3 (by kernel_rfl) ?_ ?_
                · skip
                  refine hOp_special (d := some 107) rfl rfl rfl (by kernel_rfl) fun wq1 hc => ⟨.int .i64 0, wq1, (k + 1 + 1 + 1, [(N, [.int .i64 1, .int .i64 0, .string ⟨#[49, 44, 48, 44, 48]⟩])], []), by have q9 := hc.out.boxed.cell 1; simp at q9; simp [go_sem, q9], hc, ?_⟩
                  clear hc
                  refine wpAnyH_call (i := 3) (d := some 109) 55 #[.pointer (some ⟨R, 0, none⟩), .int .i64 20] rfl (by kernel_rfl) rfl rfl (by kernel_rfl) (fun _ => by kernel_rfl) fun wa3 hc => ?_
                  refine (pick_any R (k + 1 + 1 + 1) 20 wa3 hc.out.dx.rd (by omega)).mono ?_
                  rintro e wb3 ⟨v3, rfl, lo3, hi3, m3, hw3⟩
                  have hi3 := hi3 (by omega)
                  refine ⟨_, rfl, (k + 1 + 1 + 1 + 1, [(N, [.int .i64 1, .int .i64 0, .string ⟨#[49, 44, 48, 44, 48]⟩])], []), Lib.hid (hc.out.next hw3), ?_⟩
                  clear hw3 hc
                  refine wpAnyH_takeI (i := 4) (d := some 110) rfl (by kernel_rfl) rfl rfl (by kernel_rfl) (by kernel_rfl) (by kernel_rfl) ⟨_, fun _ => by simp [go_sem]; rfl⟩ fun x4 => ?_
                  refine wpAnyH_takeI (i := 5) (d := some 111) rfl (by kernel_rfl) rfl rfl (by kernel_rfl) (by kernel_rfl) (by kernel_rfl) ⟨_, fun _ => by simp [go_sem]; rfl⟩ fun x5 => ?_
                  refine wpAnyH_take (i := 6) (d := some 112) (.pointer (some ⟨N, 1, none⟩)) rfl (by kernel_rfl) rfl rfl (by kernel_rfl) (by kernel_rfl) (by kernel_rfl) (fun _ => by kernel_rfl) ?_
                  refine wpAnyH_special (i := 7) (d := none) rfl (by kernel_rfl) rfl rfl (by kernel_rfl) fun we he => ?_
                  have kb := he.out.boxed
                  have k1 := kb.cell 1; have f1 := kb.frozen 1
                  simp at k1
                  refine ⟨undef, (we.setCell ⟨N, 1, none⟩ (.int .i64 x5)), (k + 1 + 1 + 1 + 1, [(N, [.int .i64 1, .int .i64 x5, .string ⟨#[49, 44, 48, 44, 48]⟩])], []), .inr ⟨by simp [go_sem, Act.put, k1, f1], rfl⟩, Lib.hid (he.out.put 1 _), ?_⟩
                  clear he kb k1 f1
                  exact ⟨by kernel_rfl, ⟨v3, x4, x5⟩, rfl, by kernel_rfl⟩
                · skip
                  refine hOp_call 55 #[.pointer (some ⟨R, 0, none⟩), .int .i64 20] (d := some 109) rfl rfl rfl (by kernel_rfl) (fun _ => by kernel_rfl) fun wa3 hc => ?_
                  refine (pick_any R (k + 1 + 1 + 1) 20 wa3 hc.out.dx.rd (by omega)).mono ?_
                  rintro e wb3 ⟨v3, rfl, lo3, hi3, m3, hw3⟩
                  have hi3 := hi3 (by omega)
                  refine ⟨_, rfl, (k + 1 + 1 + 1 + 1, [(N, [.int .i64 1, .int .i64 0, .string ⟨#[49, 44, 48, 44, 48]⟩])], []), Lib.hid (hc.out.next hw3), ?_⟩
                  clear hw3 hc
                  refine wpAnyH_special (i := 1) (d := some 107) rfl (by kernel_rfl) rfl rfl (by kernel_rfl) fun wq1 hc => ⟨.int .i64 0, wq1, (k + 1 + 1 + 1 + 1, [(N, [.int .i64 1, .int .i64 0, .string ⟨#[49, 44, 48, 44, 48]⟩])], []), .inl (by have q9 := hc.out.boxed.cell 1; simp at q9; simp [go_sem, q9]), hc, ?_⟩
                  clear hc
                  refine wpAnyH_takeI (i := 4) (d := some 110) rfl (by kernel_rfl) rfl rfl (by kernel_rfl) (by kernel_rfl) (by kernel_rfl) ⟨_, fun _ => by simp [go_sem]; rfl⟩ fun x4 => ?_
                  refine wpAnyH_takeI (i := 5) (d := some 111) rfl (by kernel_rfl) rfl rfl (by kernel_rfl) (by kernel_rfl) (by kernel_rfl) ⟨_, fun _ => by simp [go_sem]; rfl⟩ fun x5 => ?_
                  refine wpAnyH_take (i := 6) (d := some 112) (.pointer (some ⟨N, 1, none⟩)) rfl (by kernel_rfl) rfl rfl (by kernel_rfl) (by kernel_rfl) (by kernel_rfl) (fun _ => by kernel_rfl) ?_
                  refine wpAnyH_special (i := 7) (d := none) rfl (by kernel_rfl) rfl rfl (by kernel_rfl) fun we he => ?_
                  have kb := he.out.boxed
                  have k1 := kb.cell 1; have f1 := kb.frozen 1
                  simp at k1
                  refine ⟨undef, (we.setCell ⟨N, 1, none⟩ (.int .i64 x5)), (k + 1 + 1 + 1 + 1, [(N, [.int .i64 1, .int .i64 x5, .string ⟨#[49, 44, 48, 44, 48]⟩])], []), .inr ⟨by simp [go_sem, Act.put, k1, f1], rfl⟩, Lib.hid (he.out.put 1 _), ?_⟩
                  clear he kb k1 f1
                  exact ⟨by kernel_rfl, ⟨v3, x4, x5⟩, rfl, by kernel_rfl⟩
              · rintro ⟨v3, x4, x5⟩ w21s hz
                dsimp only at hz ⊢
                simp only [Act.put, List.setIfInBounds_toArray, List.set_cons_zero, List.set_cons_succ]
                have G21 := Lib.hid (show Dx w R ((N, [.int .i64 1, .int .i64 x5, .string ⟨#[49, 44, 48, 44, 48]⟩]) :: [(w.heap.size + 1, [.int .i64 0, .int .i64 0, .string ⟨#[]⟩]), (w.heap.size, [.int .i64 g, .slice va ns.length vc])]) [(.slice ua KS.length uc, KS)] (k + 1 + 1 + 1 + 1) w21s from hz.out.dx)
                clear hz E21
                go_wp2_with fail
                refine (odd_any R (k + 1 + 1 + 1 + 1) 40 _ G21.out.rd (by omega) (by omega) (by omega)).mono ?_
                rintro e w24t ⟨b, rfl, mm, hw⟩
                have E24 := Lib.hid (G21.out.next hw)
                clear hw mm G21
                cases b
                · skip
                  have q0 := (E24.out.bx _ (.head _)).2.cell 0
                  have q1 := (E24.out.bx _ (.head _)).2.cell 1
                  have q2 := (E24.out.bx _ (.head _)).2.cell 2
                  simp at q0 q1 q2
                  have r0 := (E24.out.bx _ (.tail _ (.head _))).2.cell 0
                  have r1 := (E24.out.bx _ (.tail _ (.head _))).2.cell 1
                  have r2 := (E24.out.bx _ (.tail _ (.head _))).2.cell 2
                  have fr0 := (E24.out.bx _ (.tail _ (.head _))).2.frozen 0
                  have fr1 := (E24.out.bx _ (.tail _ (.head _))).2.frozen 1
                  have fr2 := (E24.out.bx _ (.tail _ (.head _))).2.frozen 2
                  simp at r0 r1 r2
                  go_wp2
                  refine bodyPost_ret (v := .agg #[.int .i64 1, .int .i64 x5, .string ⟨#[49, 44, 48, 44, 48]⟩]) ?_ rfl ?_
                  · simp [results, Tryd.results69, go_sem, r0, r1, r2]
                  · have hd : ∀ b : Nat × List Value, b ∈ [(N, [.int .i64 1, .int .i64 x5, .string ⟨#[49, 44, 48, 44, 48]⟩])] ++ [(w.heap.size, [.int .i64 g, .slice va ns.length vc])] → b.1 ≠ w.heap.size + 1 := fun b m => by
                      have := HNE.out
                      simp at m
                      rcases m with rfl | rfl
                      · show N ≠ w.heap.size + 1; omega
                      · show w.heap.size ≠ w.heap.size + 1; omega
                    have DF := ((E24.out.putAtB (B1 := [(N, [.int .i64 1, .int .i64 x5, .string ⟨#[49, 44, 48, 44, 48]⟩])]) (B2 := [(w.heap.size, [.int .i64 g, .slice va ns.length vc])]) (N := w.heap.size + 1) hd 0 (.int .i64 1)).putAtB (B1 := [(N, [.int .i64 1, .int .i64 x5, .string ⟨#[49, 44, 48, 44, 48]⟩])]) (B2 := [(w.heap.size, [.int .i64 g, .slice va ns.length vc])]) (N := w.heap.size + 1) hd 1 (.int .i64 x5)).putAtB (B1 := [(N, [.int .i64 1, .int .i64 x5, .string ⟨#[49, 44, 48, 44, 48]⟩])]) (B2 := [(w.heap.size, [.int .i64 g, .slice va ns.length vc])]) (N := w.heap.size + 1) hd 2 (.string ⟨#[49, 44, 48, 44, 48]⟩)
                    skip
                    exact ⟨_, _, _, _, rfl, (by first | exact Nat.le_trans HT.out (by decide) | (rw [ByteArray.size_append]; exact Nat.le_trans (Nat.add_le_add_right HT.out 1) (by decide))), by omega, DF.gr, DF.rd⟩
                · skip
                  have hts := HT.out
                  have q0 := (E24.out.bx _ (.head _)).2.cell 0
                  have q1 := (E24.out.bx _ (.head _)).2.cell 1
                  have q2 := (E24.out.bx _ (.head _)).2.cell 2
                  have fq0 := (E24.out.bx _ (.head _)).2.frozen 0
                  have fq1 := (E24.out.bx _ (.head _)).2.frozen 1
                  have fq2 := (E24.out.bx _ (.head _)).2.frozen 2
                  simp at q0 q1 q2
                  obtain ⟨u25, hu25⟩ : ∃ z, z = w24t.setCell ⟨N, 2, none⟩ (.string (⟨#[49, 44, 48, 44, 48]⟩ ++ ⟨#[48]⟩)) := ⟨_, rfl⟩
                  have F24 := Lib.hid (show Dx w R ((N, [.int .i64 1, .int .i64 x5, .string (⟨#[49, 44, 48, 44, 48]⟩ ++ ⟨#[48]⟩)]) :: [(w.heap.size + 1, [.int .i64 0, .int .i64 0, .string ⟨#[]⟩]), (w.heap.size, [.int .i64 g, .slice va ns.length vc])]) [(.slice ua KS.length uc, KS)] (k + 1 + 1 + 1 + 1 + 1) u25 by rw [hu25]; exact (E24.out.put HD.out 2 (.string (⟨#[49, 44, 48, 44, 48]⟩ ++ ⟨#[48]⟩))))
                  have HU25 := Lib.hid hu25
                  clear hu25
                  skip
                  have q0 := (F24.out.bx _ (.head _)).2.cell 0
                  have q1 := (F24.out.bx _ (.head _)).2.cell 1
                  have q2 := (F24.out.bx _ (.head _)).2.cell 2
                  simp at q0 q1 q2
                  have r0 := (F24.out.bx _ (.tail _ (.head _))).2.cell 0
                  have r1 := (F24.out.bx _ (.tail _ (.head _))).2.cell 1
                  have r2 := (F24.out.bx _ (.tail _ (.head _))).2.cell 2
                  have fr0 := (F24.out.bx _ (.tail _ (.head _))).2.frozen 0
                  have fr1 := (F24.out.bx _ (.tail _ (.head _))).2.frozen 1
                  have fr2 := (F24.out.bx _ (.tail _ (.head _))).2.frozen 2
                  simp at r0 r1 r2
                  rw [HU25.out] at q0 q1 q2 r0 r1 r2 fr0 fr1 fr2
                  go_wp2
                  refine bodyPost_ret (v := .agg #[.int .i64 1, .int .i64 x5, .string (⟨#[49, 44, 48, 44, 48]⟩ ++ ⟨#[48]⟩)]) ?_ rfl ?_
                  · simp [results, Tryd.results69, go_sem, r0, r1, r2]
                  · have hd : ∀ b : Nat × List Value, b ∈ [(N, [.int .i64 1, .int .i64 x5, .string (⟨#[49, 44, 48, 44, 48]⟩ ++ ⟨#[48]⟩)])] ++ [(w.heap.size, [.int .i64 g, .slice va ns.length vc])] → b.1 ≠ w.heap.size + 1 := fun b m => by
                      have := HNE.out
                      simp at m
                      rcases m with rfl | rfl
                      · show N ≠ w.heap.size + 1; omega
                      · show w.heap.size ≠ w.heap.size + 1; omega
                    have DF := ((F24.out.putAtB (B1 := [(N, [.int .i64 1, .int .i64 x5, .string (⟨#[49, 44, 48, 44, 48]⟩ ++ ⟨#[48]⟩)])]) (B2 := [(w.heap.size, [.int .i64 g, .slice va ns.length vc])]) (N := w.heap.size + 1) hd 0 (.int .i64 1)).putAtB (B1 := [(N, [.int .i64 1, .int .i64 x5, .string (⟨#[49, 44, 48, 44, 48]⟩ ++ ⟨#[48]⟩)])]) (B2 := [(w.heap.size, [.int .i64 g, .slice va ns.length vc])]) (N := w.heap.size + 1) hd 1 (.int .i64 x5)).putAtB (B1 := [(N, [.int .i64 1, .int .i64 x5, .string (⟨#[49, 44, 48, 44, 48]⟩ ++ ⟨#[48]⟩)])]) (B2 := [(w.heap.size, [.int .i64 g, .slice va ns.length vc])]) (N := w.heap.size + 1) hd 2 (.string (⟨#[49, 44, 48, 44, 48]⟩ ++ ⟨#[48]⟩))
                    rw [HU25.out] at DF
                    exact ⟨_, _, _, _, rfl, (by first | exact Nat.le_trans HT.out (by decide) | (rw [ByteArray.size_append]; exact Nat.le_trans (Nat.add_le_add_right HT.out 1) (by decide))), by omega, DF.gr, DF.rd⟩
      · skip
        have HT : Hid ((⟨#[]⟩ : ByteArray).size ≤ 18) := Lib.hid (by decide)
        go_wp2_with fail
        refine (odd_any R (k + 1 + 1) 40 _ D3.out.rd (by omega) (by omega) (by omega)).mono ?_
        rintro e w26t ⟨b, rfl, mm, hw⟩
        have E26 := Lib.hid (D3.out.next hw)
        clear hw mm D3
        cases b
        · skip
          go_wp2_with fail
          refine (odd_any R (k + 1 + 1 + 1) 40 _ E26.out.rd (by omega) (by omega) (by omega)).mono ?_
          rintro e w27t ⟨b, rfl, mm, hw⟩
          have E27 := Lib.hid (E26.out.next hw)
          clear hw mm E26
          cases b
          · skip
            have q0 := (E27.out.bx _ (.head _)).2.cell 0
            have q1 := (E27.out.bx _ (.head _)).2.cell 1
            have q2 := (E27.out.bx _ (.head _)).2.cell 2
            simp at q0 q1 q2
            have r0 := (E27.out.bx _ (.tail _ (.head _))).2.cell 0
            have r1 := (E27.out.bx _ (.tail _ (.head _))).2.cell 1
            have r2 := (E27.out.bx _ (.tail _ (.head _))).2.cell 2
            have fr0 := (E27.out.bx _ (.tail _ (.head _))).2.frozen 0
            have fr1 := (E27.out.bx _ (.tail _ (.head _))).2.frozen 1
            have fr2 := (E27.out.bx _ (.tail _ (.head _))).2.frozen 2
            simp at r0 r1 r2
            go_wp2
            refine bodyPost_ret (v := .agg #[.int .i64 kd, .int .i64 0, .string ⟨#[]⟩]) ?_ rfl ?_
            · simp [results, Tryd.results69, go_sem, r0, r1, r2]
            · have hd : ∀ b : Nat × List Value, b ∈ [(N, [.int .i64 kd, .int .i64 0, .string ⟨#[]⟩])] ++ [(w.heap.size, [.int .i64 g, .slice va ns.length vc])] → b.1 ≠ w.heap.size + 1 := fun b m => by
                have := HNE.out
                simp at m
                rcases m with rfl | rfl
                · show N ≠ w.heap.size + 1; omega
                · show w.heap.size ≠ w.heap.size + 1; omega
              have DF := ((E27.out.putAtB (B1 := [(N, [.int .i64 kd, .int .i64 0, .string ⟨#[]⟩])]) (B2 := [(w.heap.size, [.int .i64 g, .slice va ns.length vc])]) (N := w.heap.size + 1) hd 0 (.int .i64 kd)).putAtB (B1 := [(N, [.int .i64 kd, .int .i64 0, .string ⟨#[]⟩])]) (B2 := [(w.heap.size, [.int .i64 g, .slice va ns.length vc])]) (N := w.heap.size + 1) hd 1 (.int .i64 0)).putAtB (B1 := [(N, [.int .i64 kd, .int .i64 0, .string ⟨#[]⟩])]) (B2 := [(w.heap.size, [.int .i64 g, .slice va ns.length vc])]) (N := w.heap.size + 1) hd 2 (.string ⟨#[]⟩)
              skip
              exact ⟨_, _, _, _, rfl, (by first | exact Nat.le_trans HT.out (by decide) | (rw [ByteArray.size_append]; exact Nat.le_trans (Nat.add_le_add_right HT.out 1) (by decide))), by omega, DF.gr, DF.rd⟩
          · skip
            have hts := HT.out
            have q0 := (E27.out.bx _ (.head _)).2.cell 0
            have q1 := (E27.out.bx _ (.head _)).2.cell 1
            have q2 := (E27.out.bx _ (.head _)).2.cell 2
            have fq0 := (E27.out.bx _ (.head _)).2.frozen 0
            have fq1 := (E27.out.bx _ (.head _)).2.frozen 1
            have fq2 := (E27.out.bx _ (.head _)).2.frozen 2
            simp at q0 q1 q2
            obtain ⟨u28, hu28⟩ : ∃ z, z = w27t.setCell ⟨N, 2, none⟩ (.string (⟨#[]⟩ ++ ⟨#[48]⟩)) := ⟨_, rfl⟩
            have F27 := Lib.hid (show Dx w R ((N, [.int .i64 kd, .int .i64 0, .string (⟨#[]⟩ ++ ⟨#[48]⟩)]) :: [(w.heap.size + 1, [.int .i64 0, .int .i64 0, .string ⟨#[]⟩]), (w.heap.size, [.int .i64 g, .slice va ns.length vc])]) [(.slice ua KS.length uc, KS)] (k + 1 + 1 + 1 + 1) u28 by rw [hu28]; exact (E27.out.put HD.out 2 (.string (⟨#[]⟩ ++ ⟨#[48]⟩))))
            have HU28 := Lib.hid hu28
            clear hu28
            skip
            have q0 := (F27.out.bx _ (.head _)).2.cell 0
            have q1 := (F27.out.bx _ (.head _)).2.cell 1
            have q2 := (F27.out.bx _ (.head _)).2.cell 2
            simp at q0 q1 q2
            have r0 := (F27.out.bx _ (.tail _ (.head _))).2.cell 0
            have r1 := (F27.out.bx _ (.tail _ (.head _))).2.cell 1
            have r2 := (F27.out.bx _ (.tail _ (.head _))).2.cell 2
            have fr0 := (F27.out.bx _ (.tail _ (.head _))).2.frozen 0
            have fr1 := (F27.out.bx _ (.tail _ (.head _))).2.frozen 1
            have fr2 := (F27.out.bx _ (.tail _ (.head _))).2.frozen 2
            simp at r0 r1 r2
            rw [HU28.out] at q0 q1 q2 r0 r1 r2 fr0 fr1 fr2
            go_wp2
            refine bodyPost_ret (v := .agg #[.int .i64 kd, .int .i64 0, .string (⟨#[]⟩ ++ ⟨#[48]⟩)]) ?_ rfl ?_
            · simp [results, Tryd.results69, go_sem, r0, r1, r2]
            · have hd : ∀ b : Nat × List Value, b ∈ [(N, [.int .i64 kd, .int .i64 0, .string (⟨#[]⟩ ++ ⟨#[48]⟩)])] ++ [(w.heap.size, [.int .i64 g, .slice va ns.length vc])] → b.1 ≠ w.heap.size + 1 := fun b m => by
                have := HNE.out
                simp at m
                rcases m with rfl | rfl
                · show N ≠ w.heap.size + 1; omega
                · show w.heap.size ≠ w.heap.size + 1; omega
              have DF := ((F27.out.putAtB (B1 := [(N, [.int .i64 kd, .int .i64 0, .string (⟨#[]⟩ ++ ⟨#[48]⟩)])]) (B2 := [(w.heap.size, [.int .i64 g, .slice va ns.length vc])]) (N := w.heap.size + 1) hd 0 (.int .i64 kd)).putAtB (B1 := [(N, [.int .i64 kd, .int .i64 0, .string (⟨#[]⟩ ++ ⟨#[48]⟩)])]) (B2 := [(w.heap.size, [.int .i64 g, .slice va ns.length vc])]) (N := w.heap.size + 1) hd 1 (.int .i64 0)).putAtB (B1 := [(N, [.int .i64 kd, .int .i64 0, .string (⟨#[]⟩ ++ ⟨#[48]⟩)])]) (B2 := [(w.heap.size, [.int .i64 g, .slice va ns.length vc])]) (N := w.heap.size + 1) hd 2 (.string (⟨#[]⟩ ++ ⟨#[48]⟩))
              rw [HU28.out] at DF
              exact ⟨_, _, _, _, rfl, (by first | exact Nat.le_trans HT.out (by decide) | (rw [ByteArray.size_append]; exact Nat.le_trans (Nat.add_le_add_right HT.out 1) (by decide))), by omega, DF.gr, DF.rd⟩
        · skip
          go_wp2_with fail
          apply wp_region_H (Z := Nat × List (Nat × List Value) × List (Value × List Int)) (S := fun k => k == 1 || k == 3 || k == 7) (C := fun z w' => Hid (Dy w w1 R [(w.heap.size + 1, [.int .i64 0, .int .i64 0, .string ⟨#[]⟩]), (w.heap.size, [.int .i64 g, .slice va ns.length vc])] [(.slice ua KS.length uc, KS)] z w')) [0, 2] (k + 1 + 1 + 1, [(N, [.int .i64 kd, .int .i64 0, .string ⟨#[]⟩])], [])
          · kernel_rfl
          · kernel_rfl
          · kernel_rfl
          · exact ⟨rfl, rfl, trivial⟩
          · rfl
          · decide
          · exact Lib.hid (Dy.from E26.out HNW.out HB0.out (Nat.le_trans HNW.out (Nat.le_of_lt (E26.out.bx _ (.head _)).2.lt)))
          · intro z
            dsimp only [pickL, nthO]
            go_big_quiet_want; go_big_quiet_op; first | go_big_quiet_on | (refine ⟨_, fun _ _ => rfl, ?_⟩; go_big_quiet_on)
            go_big_quiet_want; go_big_quiet_op; first | go_big_quiet_on | (refine ⟨_, fun _ _ => rfl, ?_⟩; go_big_quiet_on)
            exact wpQuiet_nil rfl
          · skip
            refine wpAnyH_key (D := Int × Int × Int) (fun d => (k + 1 + 1 + 1 + 1, [(N, [.int .i64 kd, .int .i64 d.2.2, .string ⟨#[]⟩])], [])) (fun d a => ((((a.put (some 107) (.int .i64 0)).put (some 109) (.int .i64 d.1)).put (some 110) (.int .i64 d.2.1)).put (some 111) (.int .i64 d.2.2)).put (some 112) (.pointer (some ⟨N, 1, none⟩))) ?_ ?_
            · skip
              refine wpAnyH_two 1 3 (by kernel_rfl) ?_ ?_
              · skip
                refine hOp_special (d := some 107) rfl rfl rfl (by kernel_rfl) fun wq1 hc => ⟨.int .i64 0, wq1, (k + 1 + 1 + 1, [(N, [.int .i64 kd, .int .i64 0, .string ⟨#[]⟩])], []), by have q9 := hc.out.boxed.cell 1; simp at q9; simp [go_sem, q9], hc, ?_⟩
                clear hc
                refine wpAnyH_call (i := 3) (d := some 109) 55 #[.pointer (some ⟨R, 0, none⟩), .int .i64 20] rfl (by kernel_rfl) rfl rfl (by kernel_rfl) (fun _ => by kernel_rfl) fun wa3 hc => ?_
                refine (pick_any R (k + 1 + 1 + 1) 20 wa3 hc.out.dx.rd (by omega)).mono ?_
                rintro e wb3 ⟨v3, rfl, lo3, hi3, m3, hw3⟩
                have hi3 := hi3 (by omega)
                refine ⟨_, rfl, (k + 1 + 1 + 1 + 1, [(N, [.int .i64 kd, .int .i64 0, .string ⟨#[]⟩])], []), Lib.hid (hc.out.next hw3), ?_⟩
                clear hw3 hc
                refine wpAnyH_takeI (i := 4) (d := some 110) rfl (by kernel_rfl) rfl rfl (by kernel_rfl) (by kernel_rfl) (by kernel_rfl) ⟨_, fun _ => by simp [go_sem]; rfl⟩ fun x4 => ?_
                refine wpAnyH_takeI (i := 5) (d := some 111) rfl (by kernel_rfl) rfl rfl (by kernel_rfl) (by kernel_rfl) (by kernel_rfl) ⟨_, fun _ => by simp [go_sem]; rfl⟩ fun x5 => ?_
                refine wpAnyH_take (i := 6) (d := some 112) (.pointer (some ⟨N, 1, none⟩)) rfl (by kernel_rfl) rfl rfl (by kernel_rfl) (by kernel_rfl) (by kernel_rfl) (fun _ => by kernel_rfl) ?_
                refine wpAnyH_special (i := 7) (d := none) rfl (by kernel_rfl) rfl rfl (by kernel_rfl) fun we he => ?_
                have kb := he.out.boxed
                have k1 := kb.cell 1; have f1 := kb.frozen 1
                simp at k1
                refine ⟨undef, (we.setCell ⟨N, 1, none⟩ (.int .i64 x5)), (k + 1 + 1 + 1 + 1, [(N, [.int .i64 kd, .int .i64 x5, .string ⟨#[]⟩])], []), .inr ⟨by simp [go_sem, Act.put, k1, f1], rfl⟩, Lib.hid (he.out.put 1 _), ?_⟩
                clear he kb k1 f1
                exact ⟨by kernel_rfl, ⟨v3, x4, x5⟩, rfl, by kernel_rfl⟩
              · skip
                refine hOp_call 55 #[.pointer (some ⟨R, 0, none⟩), .int .i64 20] (d := some 109) rfl rfl rfl (by kernel_rfl) (fun _ => by kernel_rfl) fun wa3 hc => ?_
                refine (pick_any R (k + 1 + 1 + 1) 20 wa3 hc.out.dx.rd (by omega)).mono ?_
                rintro e wb3 ⟨v3, rfl, lo3, hi3, m3, hw3⟩
                have hi3 := hi3 (by omega)
                refine ⟨_, rfl, (k + 1 + 1 + 1 + 1, [(N, [.int .i64 kd, .int .i64 0, .string ⟨#[]⟩])], []), Lib.hid (hc.out.next hw3), ?_⟩
                clear hw3 hc
                refine wpAnyH_special (i := 1) (d := some 107) rfl (by kernel_rfl) rfl rfl (by kernel_rfl) fun wq1 hc => ⟨.int .i64 0, wq1, (k + 1 + 1 + 1 + 1, [(N, [.int .i64 kd, .int .i64 0, .string ⟨#[]⟩])], []), .inl (by have q9 := hc.out.boxed.cell 1; simp at q9; simp [go_sem, q9]), hc, ?_⟩
                clear hc
                refine wpAnyH_takeI (i := 4) (d := some 110) rfl (by kernel_rfl) rfl rfl (by kernel_rfl) (by kernel_rfl) (by kernel_rfl) ⟨_, fun _ => by simp [go_sem]; rfl⟩ fun x4 => ?_
                refine wpAnyH_takeI (i := 5) (d := some 111) rfl (by kernel_rfl) rfl rfl (by kernel_rfl) (by kernel_rfl) (by kernel_rfl) ⟨_, fun _ => by simp [go_sem]; rfl⟩ fun x5 => ?_
                refine wpAnyH_take (i := 6) (d := some 112) (.pointer (some ⟨N, 1, none⟩)) rfl (by kernel_rfl) rfl rfl (by kernel_rfl) (by kernel_rfl) (by kernel_rfl) (fun _ => by kernel_rfl) ?_
                refine wpAnyH_special (i := 7) (d := none) rfl (by kernel_rfl) rfl rfl (by kernel_rfl) fun we he => ?_
                have kb := he.out.boxed
                have k1 := kb.cell 1; have f1 := kb.frozen 1
                simp at k1
                refine ⟨undef, (we.setCell ⟨N, 1, none⟩ (.int .i64 x5)), (k + 1 + 1 + 1 + 1, [(N, [.int .i64 kd, .int .i64 x5, .string ⟨#[]⟩])], []), .inr ⟨by simp [go_sem, Act.put, k1, f1], rfl⟩, Lib.hid (he.out.put 1 _), ?_⟩
                clear he kb k1 f1
                exact ⟨by kernel_rfl, ⟨v3, x4, x5⟩, rfl, by kernel_rfl⟩
            · rintro ⟨v3, x4, x5⟩ w26s hz
              dsimp only at hz ⊢
              simp only [Act.put, List.setIfInBounds_toArray, List.set_cons_zero, List.set_cons_succ]
              have G26 := Lib.hid (show Dx w R ((N, [.int .i64 kd, .int .i64 x5, .string ⟨#[]⟩]) :: [(w.heap.size + 1, [.int .i64 0, .int .i64 0, .string ⟨#[]⟩]), (w.heap.size, [.int .i64 g, .slice va ns.length vc])]) [(.slice ua KS.length uc, KS)] (k + 1 + 1 + 1 + 1) w26s from hz.out.dx)
              clear hz E26
              go_wp2_with fail
              refine (odd_any R (k + 1 + 1 + 1 + 1) 40 _ G26.out.rd (by omega) (by omega) (by omega)).mono ?_
              rintro e w29t ⟨b, rfl, mm, hw⟩
              have E29 := Lib.hid (G26.out.next hw)
              clear hw mm G26
              cases b
              · skip
                have q0 := (E29.out.bx _ (.head _)).2.cell 0
                have q1 := (E29.out.bx _ (.head _)).2.cell 1
                have q2 := (E29.out.bx _ (.head _)).2.cell 2
                simp at q0 q1 q2
                have r0 := (E29.out.bx _ (.tail _ (.head _))).2.cell 0
                have r1 := (E29.out.bx _ (.tail _ (.head _))).2.cell 1
                have r2 := (E29.out.bx _ (.tail _ (.head _))).2.cell 2
                have fr0 := (E29.out.bx _ (.tail _ (.head _))).2.frozen 0
                have fr1 := (E29.out.bx _ (.tail _ (.head _))).2.frozen 1
                have fr2 := (E29.out.bx _ (.tail _ (.head _))).2.frozen 2
                simp at r0 r1 r2
                go_wp2
                refine bodyPost_ret (v := .agg #[.int .i64 kd, .int .i64 x5, .string ⟨#[]⟩]) ?_ rfl ?_
                · simp [results, Tryd.results69, go_sem, r0, r1, r2]
                · have hd : ∀ b : Nat × List Value, b ∈ [(N, [.int .i64 kd, .int .i64 x5, .string ⟨#[]⟩])] ++ [(w.heap.size, [.int .i64 g, .slice va ns.length vc])] → b.1 ≠ w.heap.size + 1 := fun b m => by
                    have := HNE.out
                    simp at m
                    rcases m with rfl | rfl
                    · show N ≠ w.heap.size + 1; omega
                    · show w.heap.size ≠ w.heap.size + 1; omega
                  have DF := ((E29.out.putAtB (B1 := [(N, [.int .i64 kd, .int .i64 x5, .string ⟨#[]⟩])]) (B2 := [(w.heap.size, [.int .i64 g, .slice va ns.length vc])]) (N := w.heap.size + 1) hd 0 (.int .i64 kd)).putAtB (B1 := [(N, [.int .i64 kd, .int .i64 x5, .string ⟨#[]⟩])]) (B2 := [(w.heap.size, [.int .i64 g, .slice va ns.length vc])]) (N := w.heap.size + 1) hd 1 (.int .i64 x5)).putAtB (B1 := [(N, [.int .i64 kd, .int .i64 x5, .string ⟨#[]⟩])]) (B2 := [(w.heap.size, [.int .i64 g, .slice va ns.length vc])]) (N := w.heap.size + 1) hd 2 (.string ⟨#[]⟩)
                  skip
                  exact ⟨_, _, _, _, rfl, (by first | exact Nat.le_trans HT.out (by decide) | (rw [ByteArray.size_append]; exact Nat.le_trans (Nat.add_le_add_right HT.out 1) (by decide))), by omega, DF.gr, DF.rd⟩
              · skip
                have hts := HT.out
                have q0 := (E29.out.bx _ (.head _)).2.cell 0
                have q1 := (E29.out.bx _ (.head _)).2.cell 1
                have q2 := (E29.out.bx _ (.head _)).2.cell 2
                have fq0 := (E29.out.bx _ (.head _)).2.frozen 0
                have fq1 := (E29.out.bx _ (.head _)).2.frozen 1
                have fq2 := (E29.out.bx _ (.head _)).2.frozen 2
                simp at q0 q1 q2
                obtain ⟨u30, hu30⟩ : ∃ z, z = w29t.setCell ⟨N, 2, none⟩ (.string (⟨#[]⟩ ++ ⟨#[48]⟩)) := ⟨_, rfl⟩
                have F29 := Lib.hid (show Dx w R ((N, [.int .i64 kd, .int .i64 x5, .string (⟨#[]⟩ ++ ⟨#[48]⟩)]) :: [(w.heap.size + 1, [.int .i64 0, .int .i64 0, .string ⟨#[]⟩]), (w.heap.size, [.int .i64 g, .slice va ns.length vc])]) [(.slice ua KS.length uc, KS)] (k + 1 + 1 + 1 + 1 + 1) u30 by rw [hu30]; exact (E29.out.put HD.out 2 (.string (⟨#[]⟩ ++ ⟨#[48]⟩))))
                have HU30 := Lib.hid hu30
                clear hu30
                skip
                have q0 := (F29.out.bx _ (.head _)).2.cell 0
                have q1 := (F29.out.bx _ (.head _)).2.cell 1
                have q2 := (F29.out.bx _ (.head _)).2.cell 2
                simp at q0 q1 q2
                have r0 := (F29.out.bx _ (.tail _ (.head _))).2.cell 0
                have r1 := (F29.out.bx _ (.tail _ (.head _))).2.cell 1
                have r2 := (F29.out.bx _ (.tail _ (.head _))).2.cell 2
                have fr0 := (F29.out.bx _ (.tail _ (.head _))).2.frozen 0
                have fr1 := (F29.out.bx _ (.tail _ (.head _))).2.frozen 1
                have fr2 := (F29.out.bx _ (.tail _ (.head _))).2.frozen 2
                simp at r0 r1 r2
                rw [HU30.out] at q0 q1 q2 r0 r1 r2 fr0 fr1 fr2
                go_wp2
                refine bodyPost_ret (v := .agg #[.int .i64 kd, .int .i64 x5, .string (⟨#[]⟩ ++ ⟨#[48]⟩)]) ?_ rfl ?_
                · simp [results, Tryd.results69, go_sem, r0, r1, r2]
                · have hd : ∀ b : Nat × List Value, b ∈ [(N, [.int .i64 kd, .int .i64 x5, .string (⟨#[]⟩ ++ ⟨#[48]⟩)])] ++ [(w.heap.size, [.int .i64 g, .slice va ns.length vc])] → b.1 ≠ w.heap.size + 1 := fun b m => by
                    have := HNE.out
                    simp at m
                    rcases m with rfl | rfl
                    · show N ≠ w.heap.size + 1; omega
                    · show w.heap.size ≠ w.heap.size + 1; omega
                  have DF := ((F29.out.putAtB (B1 := [(N, [.int .i64 kd, .int .i64 x5, .string (⟨#[]⟩ ++ ⟨#[48]⟩)])]) (B2 := [(w.heap.size, [.int .i64 g, .slice va ns.length vc])]) (N := w.heap.size + 1) hd 0 (.int .i64 kd)).putAtB (B1 := [(N, [.int .i64 kd, .int .i64 x5, .string (⟨#[]⟩ ++ ⟨#[48]⟩)])]) (B2 := [(w.heap.size, [.int .i64 g, .slice va ns.length vc])]) (N := w.heap.size + 1) hd 1 (.int .i64 x5)).putAtB (B1 := [(N, [.int .i64 kd, .int .i64 x5, .string (⟨#[]⟩ ++ ⟨#[48]⟩)])]) (B2 := [(w.heap.size, [.int .i64 g, .slice va ns.length vc])]) (N := w.heap.size + 1) hd 2 (.string (⟨#[]⟩ ++ ⟨#[48]⟩))
                  rw [HU30.out] at DF
                  exact ⟨_, _, _, _, rfl, (by first | exact Nat.le_trans HT.out (by decide) | (rw [ByteArray.size_append]; exact Nat.le_trans (Nat.add_le_add_right HT.out 1) (by decide))), by omega, DF.gr, DF.rd⟩
end Go.Proofs.YtiinifcepcaonaaDoor

/- Draws: l20Board. -/
namespace Go.Proofs.YtiinifcepcaonaaDoor
open Go.RowKit

/-- A draw under way with a list of notes. -/
structure Dw (w : World) (R : Nat) (Bs : List (Nat × List Value)) (v : Value) (ns : List Nt) (k : Nat) (w' : World) : Prop where
  dx : Dx w R Bs [] k w'
  ow : OwnN w' w.heap.size v ns
  ap : ∀ b, b ∈ Bs → v.ownBlock ≠ some b.1
section
variable {w w' w'' : World} {R k k' : Nat} {Bs Bs' : List (Nat × List Value)} {v : Value} {ns : List Nt}
theorem own_drawn {u : Value} {ms : List Nt} (h : OwnN w' w.heap.size u ms) (hR : R < w.heap.size) (hg : w'.grownBy w'' (some R)) : OwnN w'' w.heap.size u ms :=
  row5_heap h fun q hq => hg.block q (h.lt q hq).2 (fun e => by have := (h.lt q hq).1; cases e; omega)
theorem Dw.draw (h : Dw w R Bs v ns k w') (hg : w'.grownBy w'' (some R)) (hr : Rd w'' R k') : Dw w R Bs v ns k' w'' := ⟨h.dx.draw hg hr, own_drawn h.ow h.dx.rl hg, h.ap⟩
theorem Dw.on (h : Dw w R Bs v ns k w') (hb : Below w'.heap.size w' w'') : Dw w R Bs v ns k w'' := h.draw (grown_below R hb) (h.dx.rd.below hb)
theorem Dw.next {m : Nat} (h : Dw w R Bs v ns k w') (e : w'' = (w'.setCell ⟨R, 1, none⟩ (.int .i64 ((k : Int) + 1))).drewN m) : Dw w R Bs v ns (k + 1) w'' := by
  subst e; exact h.draw (grown_pick _ _ _ _) (h.dx.rd.next m)
theorem Dw.box {T : TypeId} (h : Dw w R Bs v ns k w') (cs : List Value) : Dw w R ((w'.heap.size, cs) :: Bs) v ns k (w'.alloc (.cells cs.toArray T)) :=
  ⟨h.dx.box cs, row5_below h.ow (below_grow w' _), fun b m e => by
    rcases List.mem_cons.1 m with rfl | m
    · have := (h.ow.lt _ e).2; exact absurd this (Nat.lt_irrefl _)
    · exact h.ap b m e⟩
theorem Dw.put {N : Nat} {cs : List Value} (h : Dw w R ((N, cs) :: Bs) v ns k w') (hd : ∀ b, b ∈ Bs → b.1 ≠ N) (j : Nat) (x : Value) : Dw w R ((N, cs.set j x) :: Bs) v ns k (w'.setCell ⟨N, j, none⟩ x) :=
  ⟨h.dx.put hd j x, row5_heap h.ow fun q hq => Below.heap_setCell _ _ _ _ (by show q ≠ N; intro e; subst e; exact h.ap _ (.head _) hq), fun b m => by
    rcases List.mem_cons.1 m with rfl | m
    · exact h.ap (N, cs) (.head _)
    · exact h.ap b (.tail _ m)⟩
theorem Dw.sub (h : Dw w R Bs v ns k w') (hb : ∀ b, b ∈ Bs' → b ∈ Bs) : Dw w R Bs' v ns k w' := ⟨h.dx.sub hb (fun _ m => m), h.ow, fun b m => h.ap b (hb b m)⟩
theorem Dw.list {B : Nat} {u : Value} {ms : List Nt} (h : Dw w R Bs v ns k w') (ho : OwnN w' B u ms) (hB : w.heap.size ≤ B) (ha : ∀ b, b ∈ Bs → u.ownBlock ≠ some b.1) : Dw w R Bs u ms k w' := ⟨h.dx, row5_lower ho hB, ha⟩
theorem Dw.nts (h : Dw w R Bs v ns k w') (hl : ns.length ≤ 1000) : Nts w' v ns := Nts.of_own h.ow (by unfold maxLen; omega)
theorem Dw.app {u : Value} {ms : List Nt} (h : Dw w R Bs v ns k w') (ho : OwnN w'' w.heap.size u ms) (hg : w'.grownBy w'' v.ownBlock) (hk : u.ownBlock = v.ownBlock ∨ ∃ q, u.ownBlock = some q ∧ w'.heap.size ≤ q) : Dw w R Bs u ms k w'' := by
  have hRb : ∀ q, q ≤ R → w''.heap[q]? = w'.heap[q]? := fun q hq => hg.block q (Nat.lt_of_le_of_lt hq h.dx.rd.lt) fun e => by have := (h.ow.lt q e.symm).1; have := h.dx.rl; omega
  have hc : ∀ b o, b ≤ R → w''.cell? ⟨b, o, none⟩ = w'.cell? ⟨b, o, none⟩ := fun b o hb => by simp only [World.cell?, hRb b hb]
  refine ⟨⟨h.dx.rd.of_same (hc R 0 (Nat.le_refl _)) ((hc R 1 (Nat.le_refl _)).trans h.dx.rd.pos) (by have := h.dx.rd.free; simp only [World.frozen?, hRb R (Nat.le_refl _)] at this ⊢; exact this) hg.size (fun b o hb => hc b o (Nat.le_of_lt hb)),
    ⟨hg.os.trans h.dx.gr.os, hg.tape.trans h.dx.gr.tape, hg.output.trans h.dx.gr.output, Nat.le_trans h.dx.gr.size hg.size, fun q a b => (hg.block q (Nat.lt_of_lt_of_le a h.dx.gr.size) fun e => by have := (h.ow.lt q e.symm).1; omega).trans (h.dx.gr.block q a b)⟩, h.dx.rl, fun b m => ⟨(h.dx.bx b m).1, ?_⟩, fun x m => (by cases m), fun b m x mx => (by cases mx)⟩, ho, fun b m e => ?_⟩
  · obtain ⟨T, hT⟩ := (h.dx.bx b m).2
    exact ⟨T, by rw [hg.block b.1 (h.dx.bx b m).2.lt (fun e => h.ap b m e.symm)]; exact hT⟩
  · rcases hk with hk | ⟨q, hq, hs⟩
    · exact h.ap b m (hk ▸ e)
    · rw [hq] at e; cases e; have := (h.dx.bx b m).2.lt; omega
/-- Within the region that draws its order: what there was; the box and the list that the region made. -/
structure Dq (w : World) (R : Nat) (B0 : List (Nat × List Value)) (v : Value) (ns : List Nt) (z : Nat × List (Nat × List Value) × List (Value × List Nt)) (w' : World) : Prop where
  dw : Dw w R (z.2.1 ++ B0) v ns z.1 w'
  nl : ∀ x, x ∈ z.2.2 → OwnN w' w.heap.size x.1 x.2 ∧ ∀ b, b ∈ z.2.1 ++ B0 → x.1.ownBlock ≠ some b.1
  nb : ∀ b, b ∈ z.2.1 → ∀ c, c ∈ B0 → c.1 ≠ b.1
section
variable {B0 EB : List (Nat × List Value)} {EL : List (Value × List Nt)}
theorem Dq.start (h : Dw w R B0 v ns k w') : Dq w R B0 v ns (k, [], []) w'.drew := ⟨h.on (Below.refl _ _).drew, fun x m => (by cases m), fun b m => (by cases m)⟩
theorem Dq.draw (h : Dq w R B0 v ns (k, EB, EL) w') (hg : w'.grownBy w'' (some R)) (hr : Rd w'' R k') : Dq w R B0 v ns (k', EB, EL) w'' := ⟨h.dw.draw hg hr, fun x m => ⟨own_drawn (h.nl x m).1 h.dw.dx.rl hg, (h.nl x m).2⟩, h.nb⟩
theorem Dq.made {u : Value} {ms : List Nt} (h : Dq w R B0 v ns (k, EB, []) w') (hb : Below w'.heap.size w' w'') (ho : OwnN w'' w'.heap.size u ms) : Dq w R B0 v ns (k, EB, [(u, ms)]) w'' :=
  ⟨h.dw.on hb, fun x m => (by
    rcases List.mem_cons.1 m with rfl | m
    · exact ⟨row5_lower ho h.dw.dx.gr.size, fun b m e => by have := (ho.lt _ e).1; have := (h.dw.dx.bx b m).2.lt; omega⟩
    · cases m), h.nb⟩
theorem Dq.box {T : TypeId} (h : Dq w R B0 v ns (k, [], EL) w') (cs : List Value) : Dq w R B0 v ns (k, [(w'.heap.size, cs)], EL) (w'.alloc (.cells cs.toArray T)) :=
  ⟨h.dw.box cs, fun x m => ⟨row5_below (h.nl x m).1 (below_grow w' _), fun b mb e => by
    rcases List.mem_cons.1 mb with rfl | mb
    · have := ((h.nl x m).1.lt _ e).2; exact absurd this (Nat.lt_irrefl _)
    · exact (h.nl x m).2 b mb e⟩, fun b m c mc => by
    rcases List.mem_cons.1 m with rfl | m
    · have := (h.dw.dx.bx c mc).2.lt; show c.1 ≠ w'.heap.size; omega
    · cases m⟩
theorem Dq.put {N : Nat} {cs : List Value} (h : Dq w R B0 v ns (k, [(N, cs)], EL) w') (j : Nat) (x : Value) : Dq w R B0 v ns (k, [(N, cs.set j x)], EL) (w'.setCell ⟨N, j, none⟩ x) :=
  ⟨h.dw.put (h.nb _ (.head _)) j x, fun y m => ⟨row5_heap (h.nl y m).1 fun q hq => Below.heap_setCell _ _ _ _ (by show q ≠ N; intro e; subst e; exact (h.nl y m).2 _ (.head _) hq), fun b mb => by
    rcases List.mem_cons.1 mb with rfl | mb
    · exact (h.nl y m).2 (N, cs) (.head _)
    · exact (h.nl y m).2 b (.tail _ mb)⟩, fun b m c mc => by
    rcases List.mem_cons.1 m with rfl | m
    · exact h.nb _ (.head _) c mc
    · cases m⟩
end
end
def BoardPost (R k : Nat) (w : World) (e : Ending) (w' : World) : Prop :=
  ∃ (g : Int) (v : Value) (ns : List Nt) (k' : Nat), e = .returned (.agg #[.int .i64 g, v]) ∧ OwnN w' w.heap.size v ns ∧ ns.length ≤ 20 ∧ k' ≤ k + 200 ∧ w.grownBy w' (some R) ∧ Rd w' R k'
theorem drgroup0_any (R k : Nat) (w : World) (h : Rd w R k) (hk : k ≤ 90000) : Calls Tryd.prog 67 #[.pointer (some ⟨R, 0, none⟩), .int .i64 0] w (NumPost R k 2 (-1) 4 w) := by
  have H1 := Lib.hid h
  have hlt1 := h.lt
  have hne : R ≠ w.heap.size := by omega
  clear h
  go_enter Tryd.func67, Tryd.ntmps67
  go_wp2_with fail
  refine (odd_zero R 0 _ (by omega)).mono ?_
  rintro e w1 ⟨rfl, rfl⟩
  go_wp2_with fail
  refine (pick_any R k _ _ (H1.out.below ((Below.refl _ _).alloc (Nat.le_refl _) _)) (by omega)).mono ?_
  rintro e w2 ⟨v, rfl, v0, v1, m2, hw2⟩
  have v2 := v1 (by omega)
  clear v1
  have H2 : Hid (Rd w2 R (k + 1)) := Lib.hid (by rw [hw2]; exact (H1.out.below ((Below.refl _ _).alloc (Nat.le_refl _) _)).next m2)
  have G2 : Hid (w.grownBy w2 (some R)) := Lib.hid (by rw [hw2]; exact grown_trans (grown_below R ((Below.refl _ _).alloc (Nat.le_refl _) _)) (grown_pick _ R k m2))
  have C2 : Hid (∀ (j : Nat) (u : Value), (#[.int .i64 0, .int .i64 0, .int .i64 1, .int .i64 1, .int .i64 2, .int .i64 2, .int .i64 3] : Array Value)[j]? = some u → w2.cell? ⟨w.heap.size, j, none⟩ = some u) := Lib.hid (by rw [hw2]; intro j u hj; exact arr_cell hne hj)
  clear hw2
  obtain rfl | rfl | rfl | rfl | rfl | rfl | rfl : v = 0 ∨ v = 1 ∨ v = 2 ∨ v = 3 ∨ v = 4 ∨ v = 5 ∨ v = 6 := by omega
  · have c := C2.out 0 _ rfl
    clear v0 v2
    go_wp2
    go_ret
    exact ⟨_, rfl, by omega, by omega, G2.out, _, by omega, H2.out⟩
  · have c := C2.out 1 _ rfl
    clear v0 v2
    go_wp2
    go_ret
    exact ⟨_, rfl, by omega, by omega, G2.out, _, by omega, H2.out⟩
  · have c := C2.out 2 _ rfl
    clear v0 v2
    go_wp2
    go_ret
    exact ⟨_, rfl, by omega, by omega, G2.out, _, by omega, H2.out⟩
  · have c := C2.out 3 _ rfl
    clear v0 v2
    go_wp2
    go_ret
    exact ⟨_, rfl, by omega, by omega, G2.out, _, by omega, H2.out⟩
  · have c := C2.out 4 _ rfl
    clear v0 v2
    go_wp2
    go_ret
    exact ⟨_, rfl, by omega, by omega, G2.out, _, by omega, H2.out⟩
  · have c := C2.out 5 _ rfl
    clear v0 v2
    go_wp2
    go_ret
    exact ⟨_, rfl, by omega, by omega, G2.out, _, by omega, H2.out⟩
  · have c := C2.out 6 _ rfl
    clear v0 v2
    go_wp2
    go_ret
    exact ⟨_, rfl, by omega, by omega, G2.out, _, by omega, H2.out⟩
set_option maxRecDepth 100000 in
set_option maxHeartbeats 6400000 in
theorem drboard_any (R k : Nat) (n : Int) (w : World) (h : Rd w R k) (hk : k ≤ 10000) (hn1 : 1 ≤ n) (hn2 : n ≤ 1000) : Calls Tryd.prog 50 #[.pointer (some ⟨R, 0, none⟩), .int .i64 n] w (BoardPost R k w) := by
  obtain ⟨w1, hw1⟩ : ∃ z, z = w.alloc (.cells #[.int .i64 0, .slice none 0 0] 29) := ⟨_, rfl⟩
  have D1 : Hid (Dx w R [(w.heap.size, [.int .i64 0, .slice none 0 0])] [] k w1) := Lib.hid (by rw [hw1]; exact (Dx.start h).box [.int .i64 0, .slice none 0 0])
  have HW1 := Lib.hid hw1
  clear h hw1
  go_enter Tryd.func50, Tryd.ntmps50
  go_wp2_with fail
  rw [← HW1.out]
  refine (drgroup0_any R k _ D1.out.rd (by omega)).mono ?_
  rintro e w2 ⟨g0, rfl, _, _, gg, k2, hk2, rr⟩
  have D2 := Lib.hid (D1.out.draw gg rr)
  clear gg rr D1 HW1
  go_wp2_with fail
  refine (sbnw_any g0 _).mono ?_
  rintro e w3 ⟨v, rfl, oo, hb⟩
  have D3 : Hid (Dw w R [(w.heap.size, [.int .i64 0, .slice none 0 0])] v [] k2 w3) := Lib.hid ⟨D2.out.on hb, row5_lower oo D2.out.gr.size, fun b m e => by have := (oo.lt _ e).1; have := (D2.out.bx b m).2.lt; omega⟩
  obtain ⟨g, hg⟩ : ∃ g, bnwG g0 = g := ⟨_, rfl⟩
  rw [hg]
  obtain ⟨va, vc, ev⟩ := OwnN.form oo
  subst ev
  clear oo hb D2 hg
  obtain ⟨N, hN⟩ : ∃ N, N = w3.heap.size := ⟨_, rfl⟩
  obtain ⟨w4, hw4⟩ : ∃ z, z = w3.alloc (.cells #[.int .i64 g, .slice va 0 vc] 29) := ⟨_, rfl⟩
  have D4 : Hid (Dw w R [(N, [.int .i64 g, (.slice va 0 vc)]), (w.heap.size, [.int .i64 0, .slice none 0 0])] (.slice va 0 vc) [] k2 w4) := Lib.hid (by rw [hw4, hN]; exact D3.out.box [.int .i64 g, .slice va 0 vc])
  have HW4 := Lib.hid hw4
  have HN := Lib.hid hN
  have HNL : Hid (w.heap.size < N) := Lib.hid (by rw [hN]; exact (D3.out.dx.bx _ (.head _)).2.lt)
  clear hw4 hN D3
  go_wp2_with fail
  rw [← HN.out, ← HW4.out]
  refine (pick_any R k2 8 _ D4.out.dx.rd (by omega)).mono ?_
  rintro e w5 ⟨i0, rfl, i1, i2, mm, hw⟩
  have i2 := i2 (by omega)
  obtain ⟨q0, rfl⟩ := Int.eq_ofNat_of_zero_le i1
  have D5 := Lib.hid (D4.out.next hw)
  clear hw mm D4 HW4 HN i1
  go_wp2
  go_loopw [6] (fun i wr => ∃ q : Nat, q ≤ 7 ∧ i = .int .i64 q ∧ Hid (∃ (g : Int) (a : Option Addr) (c : Nat) (ns : List Nt) (kk : Nat), Dw w R [(N, [.int .i64 g, .slice a ns.length c]), (w.heap.size, [.int .i64 0, .slice none 0 0])] (.slice a ns.length c) ns kk wr ∧ kk ≤ k + 3 + 12 * (7 - q) ∧ ns.length ≤ 7 - q)) (fun i _ => (intOf i).toNat)
  case atStart => exact ⟨q0, by omega, rfl, Lib.hid ⟨g, va, vc, [], _, D5.out, by omega, Nat.zero_le _⟩⟩
  case round =>
    obtain ⟨q, hq, rfl, hH⟩ := hrel
    obtain ⟨wo, rfl⟩ : ∃ wo : World, wo = wr := ⟨_, rfl⟩
    clear D5
    obtain ⟨g, a, c, ns, kk, dw, hkk, hns⟩ := hH.out
    have D6 := Lib.hid dw
    clear dw hH
    by_cases hlt : 0 < q
    · have hlt1 : (0 : Int) < (q : Int) := by omega
      have hl1 : ns.length ≤ 1000 := by omega
      have q0 := (D6.out.dx.bx _ (.head _)).2.cell 0
      have q1 := (D6.out.dx.bx _ (.head _)).2.cell 1
      simp at q0 q1
      go_wp2_with fail
      apply wp_region_H (Z := Nat × List (Nat × List Value) × List (Value × List Nt)) (S := fun k => k == 3 || k == 4 || k == 8 || k == 9) (C := fun z w' => Hid (Dq w R [(N, [.int .i64 g, (.slice a ns.length c)]), (w.heap.size, [.int .i64 0, .slice none 0 0])] (.slice a ns.length c) ns z w')) [0, 1, 2] (kk, [], [])
      · kernel_rfl
      · kernel_rfl
      · kernel_rfl
      · exact ⟨rfl, rfl, rfl, trivial⟩
      · rfl
      · decide
      · exact Lib.hid (Dq.start D6.out)
      · intro z
        dsimp only [pickL, nthO]
        go_big_quiet_want
        go_big_quiet_op
        refine ⟨.agg #[.int .i64 g, (.slice a ns.length c)], fun w' hw' => ?_, ?_⟩
        · have qa := (hw'.out.dw.dx.bx _ (List.mem_append_right _ (.head _))).2.cell 0; have qb := (hw'.out.dw.dx.bx _ (List.mem_append_right _ (.head _))).2.cell 1
          simp at qa qb
          simp [go_sem, qa, qb]
        go_big_quiet_on
        go_big_quiet_want; go_big_quiet_op; first | go_big_quiet_on | (refine ⟨_, fun _ _ => rfl, ?_⟩; go_big_quiet_on)
        go_big_quiet_want
        go_big_quiet_op
        refine ⟨.agg #[.int .i64 g, (.slice a ns.length c)], fun w' hw' => ?_, ?_⟩
        · have qa := (hw'.out.dw.dx.bx _ (List.mem_append_right _ (.head _))).2.cell 0; have qb := (hw'.out.dw.dx.bx _ (List.mem_append_right _ (.head _))).2.cell 1
          simp at qa qb
          simp [go_sem, qa, qb]
        go_big_quiet_on
        exact wpQuiet_nil rfl
      · skip
        refine wpAnyH_key (D := Int × Int × {t : ByteArray // t.size ≤ 20} × {k' : Nat // k' ≤ kk + 12} × (Option Addr × Nat × Nat) × Nat) (fun d => (d.2.2.2.1.1, [(d.2.2.2.2.2, [.int .i64 (bdoG g ns), (.slice d.2.2.2.2.1.1 d.2.2.2.2.1.2.1 d.2.2.2.2.1.2.2)])], [((.slice d.2.2.2.2.1.1 d.2.2.2.2.1.2.1 d.2.2.2.2.1.2.2), bdoL g ns ⟨d.1, d.2.1, d.2.2.1.1⟩)])) (fun d a => (((((((a.put (some 22) (.agg #[.int .i64 d.1, .int .i64 d.2.1, .string d.2.2.1.1])).put (some 23) (.tuple #[.agg #[.int .i64 (bdoG g ns), (.slice d.2.2.2.2.1.1 d.2.2.2.2.1.2.1 d.2.2.2.2.1.2.2)], .bool (bdoB g ns ⟨d.1, d.2.1, d.2.2.1.1⟩)])).put (some 18) (.tuple #[.agg #[.int .i64 (bdoG g ns), (.slice d.2.2.2.2.1.1 d.2.2.2.2.1.2.1 d.2.2.2.2.1.2.2)], .bool (bdoB g ns ⟨d.1, d.2.1, d.2.2.1.1⟩)])).put (some 24) (.agg #[.int .i64 (bdoG g ns), (.slice d.2.2.2.2.1.1 d.2.2.2.2.1.2.1 d.2.2.2.2.1.2.2)])).put (some 25) (.bool (bdoB g ns ⟨d.1, d.2.1, d.2.2.1.1⟩))).put (some 7) (.pointer (some ⟨d.2.2.2.2.2, 0, none⟩))).put (some 8) (.bool (bdoB g ns ⟨d.1, d.2.1, d.2.2.1.1⟩)))) ?_ ?_
        · skip
          refine wpAnyH_two 3 8 (by kernel_rfl) ?_ ?_
          · skip
            refine hOp_call 69 #[.pointer (some ⟨R, 0, none⟩), .agg #[.int .i64 g, (.slice a ns.length c)]] (d := some 22) rfl rfl rfl (by kernel_rfl) (fun _ => by kernel_rfl) fun wa hc => ?_
            refine (drdeed_any R kk g (.slice a ns.length c) ns wa hc.out.dw.dx.rd (by omega) (row5_lower hc.out.dw.ow (by have := hc.out.dw.dx.rl; omega)) (by omega)).mono ?_
            rintro e wb ⟨kd, nm, tx, k', rfl, htx, hk', gg, rr⟩
            refine ⟨_, rfl, (k', [], []), Lib.hid (hc.out.draw gg rr), ?_⟩
            clear hc gg rr
            refine wpAnyH_two 4 8 (by kernel_rfl) ?_ ?_
            · skip
              refine hOp_call 68 #[.agg #[.int .i64 g, (.slice a ns.length c)], .agg #[.int .i64 kd, .int .i64 nm, .string tx]] (d := some 23) rfl rfl rfl (by kernel_rfl) (fun _ => by kernel_rfl) fun wa hc => ?_
              refine (sbdo_any g (.slice a ns.length c) ns ⟨kd, nm, tx⟩ wa (hc.out.dw.nts hl1) (by omega) (Nat.le_trans htx (by decide))).mono ?_
              rintro e wb ⟨u, rfl, oo, hb⟩
              obtain ⟨ua, uc, eu⟩ := OwnN.form oo
              generalize (bdoL g ns ⟨kd, nm, tx⟩).length = ul at eu
              subst eu
              refine ⟨_, rfl, (k', [], [((.slice ua ul uc), bdoL g ns ⟨kd, nm, tx⟩)]), Lib.hid (hc.out.made hb oo), ?_⟩
              clear hc hb oo
              refine wpAnyH_take (i := 5) (d := some 18) (.tuple #[.agg #[.int .i64 (bdoG g ns), (.slice ua ul uc)], .bool (bdoB g ns ⟨kd, nm, tx⟩)]) rfl (by kernel_rfl) rfl rfl (by kernel_rfl) (by kernel_rfl) (by kernel_rfl) (fun _ => by kernel_rfl) ?_
              refine wpAnyH_take (i := 6) (d := some 24) (.agg #[.int .i64 (bdoG g ns), (.slice ua ul uc)]) rfl (by kernel_rfl) rfl rfl (by kernel_rfl) (by kernel_rfl) (by kernel_rfl) (fun _ => by kernel_rfl) ?_
              refine wpAnyH_take (i := 7) (d := some 25) (.bool (bdoB g ns ⟨kd, nm, tx⟩)) rfl (by kernel_rfl) rfl rfl (by kernel_rfl) (by kernel_rfl) (by kernel_rfl) (fun _ => by kernel_rfl) ?_
              refine wpAnyH_special (i := 8) (d := some 7) rfl (by kernel_rfl) rfl rfl (by kernel_rfl) fun wN hc => ⟨.pointer (some ⟨wN.heap.size, 0, none⟩), wN.alloc (.cells #[.int .i64 0, .slice none 0 0] 29), (k', [(wN.heap.size, [.int .i64 0, .slice none 0 0])], [((.slice ua ul uc), bdoL g ns ⟨kd, nm, tx⟩)]), .inl (by kernel_rfl), Lib.hid (hc.out.box [.int .i64 0, .slice none 0 0]), ?_⟩
              clear hc
              refine wpAnyH_special (i := 9) (d := none) rfl (by kernel_rfl) rfl rfl (by kernel_rfl) fun we he => ?_
              have kb := (he.out.dw.dx.bx _ (.head _)).2
              have k0 := kb.cell 0; have f0 := kb.frozen 0
              have k1 := kb.cell 1; have f1 := kb.frozen 1
              simp at k0 k1
              refine ⟨undef, (we.setCell ⟨wN.heap.size, 0, none⟩ (.int .i64 (bdoG g ns))).setCell ⟨wN.heap.size, 1, none⟩ (.slice ua ul uc), (k', [(wN.heap.size, [.int .i64 (bdoG g ns), (.slice ua ul uc)])], [((.slice ua ul uc), bdoL g ns ⟨kd, nm, tx⟩)]), .inr ⟨by simp [go_sem, Act.put, k0, k1, f0, f1], rfl⟩, Lib.hid ((he.out.put 0 _).put 1 _), ?_⟩
              clear he kb k0 k1 f0 f1
              refine wpAnyH_take (i := 10) (d := some 8) (.bool (bdoB g ns ⟨kd, nm, tx⟩)) rfl (by kernel_rfl) rfl rfl (by kernel_rfl) (by kernel_rfl) (by kernel_rfl) (fun _ => by kernel_rfl) ?_
              exact ⟨by kernel_rfl, ⟨kd, nm, ⟨tx, htx⟩, ⟨k', hk'⟩, ⟨ua, ul, uc⟩, wN.heap.size⟩, rfl, by kernel_rfl⟩
            · skip
              refine hOp_special (d := some 7) rfl rfl rfl (by kernel_rfl) fun wN hc => ⟨.pointer (some ⟨wN.heap.size, 0, none⟩), wN.alloc (.cells #[.int .i64 0, .slice none 0 0] 29), (k', [(wN.heap.size, [.int .i64 0, .slice none 0 0])], []), by kernel_rfl, Lib.hid (hc.out.box [.int .i64 0, .slice none 0 0]), ?_⟩
              clear hc
              refine wpAnyH_call (i := 4) (d := some 23) 68 #[.agg #[.int .i64 g, (.slice a ns.length c)], .agg #[.int .i64 kd, .int .i64 nm, .string tx]] rfl (by kernel_rfl) rfl rfl (by kernel_rfl) (fun _ => by kernel_rfl) fun wa hc => ?_
              refine (sbdo_any g (.slice a ns.length c) ns ⟨kd, nm, tx⟩ wa (hc.out.dw.nts hl1) (by omega) (Nat.le_trans htx (by decide))).mono ?_
              rintro e wb ⟨u, rfl, oo, hb⟩
              obtain ⟨ua, uc, eu⟩ := OwnN.form oo
              generalize (bdoL g ns ⟨kd, nm, tx⟩).length = ul at eu
              subst eu
              refine ⟨_, rfl, (k', [(wN.heap.size, [.int .i64 0, .slice none 0 0])], [((.slice ua ul uc), bdoL g ns ⟨kd, nm, tx⟩)]), Lib.hid (hc.out.made hb oo), ?_⟩
              clear hc hb oo
              refine wpAnyH_take (i := 5) (d := some 18) (.tuple #[.agg #[.int .i64 (bdoG g ns), (.slice ua ul uc)], .bool (bdoB g ns ⟨kd, nm, tx⟩)]) rfl (by kernel_rfl) rfl rfl (by kernel_rfl) (by kernel_rfl) (by kernel_rfl) (fun _ => by kernel_rfl) ?_
              refine wpAnyH_take (i := 6) (d := some 24) (.agg #[.int .i64 (bdoG g ns), (.slice ua ul uc)]) rfl (by kernel_rfl) rfl rfl (by kernel_rfl) (by kernel_rfl) (by kernel_rfl) (fun _ => by kernel_rfl) ?_
              refine wpAnyH_take (i := 7) (d := some 25) (.bool (bdoB g ns ⟨kd, nm, tx⟩)) rfl (by kernel_rfl) rfl rfl (by kernel_rfl) (by kernel_rfl) (by kernel_rfl) (fun _ => by kernel_rfl) ?_
              refine wpAnyH_special (i := 9) (d := none) rfl (by kernel_rfl) rfl rfl (by kernel_rfl) fun we he => ?_
              have kb := (he.out.dw.dx.bx _ (.head _)).2
              have k0 := kb.cell 0; have f0 := kb.frozen 0
              have k1 := kb.cell 1; have f1 := kb.frozen 1
              simp at k0 k1
              refine ⟨undef, (we.setCell ⟨wN.heap.size, 0, none⟩ (.int .i64 (bdoG g ns))).setCell ⟨wN.heap.size, 1, none⟩ (.slice ua ul uc), (k', [(wN.heap.size, [.int .i64 (bdoG g ns), (.slice ua ul uc)])], [((.slice ua ul uc), bdoL g ns ⟨kd, nm, tx⟩)]), .inr ⟨by simp [go_sem, Act.put, k0, k1, f0, f1], rfl⟩, Lib.hid ((he.out.put 0 _).put 1 _), ?_⟩
              clear he kb k0 k1 f0 f1
              refine wpAnyH_take (i := 10) (d := some 8) (.bool (bdoB g ns ⟨kd, nm, tx⟩)) rfl (by kernel_rfl) rfl rfl (by kernel_rfl) (by kernel_rfl) (by kernel_rfl) (fun _ => by kernel_rfl) ?_
              exact ⟨by kernel_rfl, ⟨kd, nm, ⟨tx, htx⟩, ⟨k', hk'⟩, ⟨ua, ul, uc⟩, wN.heap.size⟩, rfl, by kernel_rfl⟩
          · skip
            refine hOp_special (d := some 7) rfl rfl rfl (by kernel_rfl) fun wN hc => ⟨.pointer (some ⟨wN.heap.size, 0, none⟩), wN.alloc (.cells #[.int .i64 0, .slice none 0 0] 29), (kk, [(wN.heap.size, [.int .i64 0, .slice none 0 0])], []), by kernel_rfl, Lib.hid (hc.out.box [.int .i64 0, .slice none 0 0]), ?_⟩
            clear hc
            refine wpAnyH_call (i := 3) (d := some 22) 69 #[.pointer (some ⟨R, 0, none⟩), .agg #[.int .i64 g, (.slice a ns.length c)]] rfl (by kernel_rfl) rfl rfl (by kernel_rfl) (fun _ => by kernel_rfl) fun wa hc => ?_
            refine (drdeed_any R kk g (.slice a ns.length c) ns wa hc.out.dw.dx.rd (by omega) (row5_lower hc.out.dw.ow (by have := hc.out.dw.dx.rl; omega)) (by omega)).mono ?_
            rintro e wb ⟨kd, nm, tx, k', rfl, htx, hk', gg, rr⟩
            refine ⟨_, rfl, (k', [(wN.heap.size, [.int .i64 0, .slice none 0 0])], []), Lib.hid (hc.out.draw gg rr), ?_⟩
            clear hc gg rr
            refine wpAnyH_call (i := 4) (d := some 23) 68 #[.agg #[.int .i64 g, (.slice a ns.length c)], .agg #[.int .i64 kd, .int .i64 nm, .string tx]] rfl (by kernel_rfl) rfl rfl (by kernel_rfl) (fun _ => by kernel_rfl) fun wa hc => ?_
            refine (sbdo_any g (.slice a ns.length c) ns ⟨kd, nm, tx⟩ wa (hc.out.dw.nts hl1) (by omega) (Nat.le_trans htx (by decide))).mono ?_
            rintro e wb ⟨u, rfl, oo, hb⟩
            obtain ⟨ua, uc, eu⟩ := OwnN.form oo
            generalize (bdoL g ns ⟨kd, nm, tx⟩).length = ul at eu
            subst eu
            refine ⟨_, rfl, (k', [(wN.heap.size, [.int .i64 0, .slice none 0 0])], [((.slice ua ul uc), bdoL g ns ⟨kd, nm, tx⟩)]), Lib.hid (hc.out.made hb oo), ?_⟩
            clear hc hb oo
            refine wpAnyH_take (i := 5) (d := some 18) (.tuple #[.agg #[.int .i64 (bdoG g ns), (.slice ua ul uc)], .bool (bdoB g ns ⟨kd, nm, tx⟩)]) rfl (by kernel_rfl) rfl rfl (by kernel_rfl) (by kernel_rfl) (by kernel_rfl) (fun _ => by kernel_rfl) ?_
            refine wpAnyH_take (i := 6) (d := some 24) (.agg #[.int .i64 (bdoG g ns), (.slice ua ul uc)]) rfl (by kernel_rfl) rfl rfl (by kernel_rfl) (by kernel_rfl) (by kernel_rfl) (fun _ => by kernel_rfl) ?_
            refine wpAnyH_take (i := 7) (d := some 25) (.bool (bdoB g ns ⟨kd, nm, tx⟩)) rfl (by kernel_rfl) rfl rfl (by kernel_rfl) (by kernel_rfl) (by kernel_rfl) (fun _ => by kernel_rfl) ?_
            refine wpAnyH_special (i := 9) (d := none) rfl (by kernel_rfl) rfl rfl (by kernel_rfl) fun we he => ?_
            have kb := (he.out.dw.dx.bx _ (.head _)).2
            have k0 := kb.cell 0; have f0 := kb.frozen 0
            have k1 := kb.cell 1; have f1 := kb.frozen 1
            simp at k0 k1
            refine ⟨undef, (we.setCell ⟨wN.heap.size, 0, none⟩ (.int .i64 (bdoG g ns))).setCell ⟨wN.heap.size, 1, none⟩ (.slice ua ul uc), (k', [(wN.heap.size, [.int .i64 (bdoG g ns), (.slice ua ul uc)])], [((.slice ua ul uc), bdoL g ns ⟨kd, nm, tx⟩)]), .inr ⟨by simp [go_sem, Act.put, k0, k1, f0, f1], rfl⟩, Lib.hid ((he.out.put 0 _).put 1 _), ?_⟩
            clear he kb k0 k1 f0 f1
            refine wpAnyH_take (i := 10) (d := some 8) (.bool (bdoB g ns ⟨kd, nm, tx⟩)) rfl (by kernel_rfl) rfl rfl (by kernel_rfl) (by kernel_rfl) (by kernel_rfl) (fun _ => by kernel_rfl) ?_
            exact ⟨by kernel_rfl, ⟨kd, nm, ⟨tx, htx⟩, ⟨k', hk'⟩, ⟨ua, ul, uc⟩, wN.heap.size⟩, rfl, by kernel_rfl⟩
        · rintro ⟨kd, nm, ⟨tx, htx⟩, ⟨k', hk'⟩, ⟨ua, ul, uc⟩, N7⟩ w7 hz
          dsimp only at hz ⊢
          simp only [Act.put, List.setIfInBounds_toArray, List.set_cons_zero, List.set_cons_succ]
          have hlen := bdo_len (g := g) (ns := ns) ⟨kd, nm, tx⟩
          obtain ⟨ms, hms⟩ : ∃ x, bdoL g ns ⟨kd, nm, tx⟩ = x := ⟨_, rfl⟩
          obtain ⟨g2, hg2⟩ : ∃ x, bdoG g ns = x := ⟨_, rfl⟩
          obtain ⟨ok, hok⟩ : ∃ x, bdoB g ns ⟨kd, nm, tx⟩ = x := ⟨_, rfl⟩
          rw [hms] at hz hlen
          rw [hg2] at hz
          rw [hg2, hok]
          have HZ := Lib.hid (hz.out.nl _ (.head _))
          obtain ⟨ua2, uc2, eu⟩ := OwnN.form HZ.out.1
          simp only [Value.slice.injEq] at eu
          obtain ⟨-, eul, -⟩ := eu
          subst eul
          have D7 := Lib.hid (show Dw w R ((N7, [.int .i64 g2, .slice ua ms.length uc]) :: [(N, [.int .i64 g, (.slice a ns.length c)]), (w.heap.size, [.int .i64 0, .slice none 0 0])]) (.slice a ns.length c) ns k' w7 from hz.out.dw)
          have HNB := Lib.hid (hz.out.nb _ (.head _))
          clear hz D6 hms hg2 hok
          cases ok
          · go_wp2
            go_roundw
            case rel => exact ⟨q - 1, by omega, by go_num, Lib.hid ⟨g, a, c, ns, k', D7.out.sub (fun _ m => .tail _ m), by omega, by omega⟩⟩
            case measure => simp [intOf]; omega
          · skip
            have n0 := (D7.out.dx.bx _ (.head _)).2.cell 0
            have n1 := (D7.out.dx.bx _ (.head _)).2.cell 1
            simp at n0 n1
            have m0 := (D7.out.dx.bx _ (.tail _ (.head _))).2.cell 0
            have m1 := (D7.out.dx.bx _ (.tail _ (.head _))).2.cell 1
            have fm0 := (D7.out.dx.bx _ (.tail _ (.head _))).2.frozen 0
            have fm1 := (D7.out.dx.bx _ (.tail _ (.head _))).2.frozen 1
            simp at m0 m1
            go_wp2
            go_roundw
            case rel => exact ⟨q - 1, by omega, by go_num, Lib.hid ⟨g2, ua, uc, ms, k', ((((D7.out.sub (Bs' := [(N, [.int .i64 g, (.slice a ns.length c)]), (w.heap.size, [.int .i64 0, .slice none 0 0])]) (fun _ m => .tail _ m)).list HZ.out.1 (Nat.le_refl _) (fun b m => HZ.out.2 b (.tail _ m))).put (fun b m => by simp at m; subst m; have := HNL.out; show w.heap.size ≠ N; omega) 0 _).put (fun b m => by simp at m; subst m; have := HNL.out; show w.heap.size ≠ N; omega) 1 _), by omega, by omega⟩⟩
            case measure => simp [intOf]; omega
    · skip
      obtain rfl : q = 0 := by omega
      have hns : ns.length ≤ 7 := by omega
      go_wp2_with fail
      refine (odd_any R kk n _ D6.out.dx.rd (by omega) hn1 (by omega)).mono ?_
      rintro e w8 ⟨b, rfl, mm, hw⟩
      have D8 := Lib.hid (D6.out.next hw)
      clear hw mm D6
      cases b
      · skip
        have q0 := (D8.out.dx.bx _ (.head _)).2.cell 0
        have q1 := (D8.out.dx.bx _ (.head _)).2.cell 1
        simp at q0 q1
        have r0 := (D8.out.dx.bx _ (.tail _ (.head _))).2.cell 0
        have r1 := (D8.out.dx.bx _ (.tail _ (.head _))).2.cell 1
        have fr0 := (D8.out.dx.bx _ (.tail _ (.head _))).2.frozen 0
        have fr1 := (D8.out.dx.bx _ (.tail _ (.head _))).2.frozen 1
        simp at r0 r1
        have hNr := HNL.out
        go_wp2
        refine bodyPost_ret (v := .agg #[.int .i64 g, (.slice a ns.length c)]) ?_ rfl ?_
        · simp [results, Tryd.results50, go_sem, r0, r1]
        · have hd : ∀ b : Nat × List Value, b ∈ [(N, [Value.int .i64 g, (.slice a ns.length c)])] → b.1 ≠ w.heap.size := fun b m => by
            simp at m; subst m; show N ≠ w.heap.size; omega
          have DF := (((D8.out.sub (Bs' := [(w.heap.size, [.int .i64 0, .slice none 0 0]), (N, [.int .i64 g, (.slice a ns.length c)])]) (fun b m => by simp at m ⊢; rcases m with rfl | rfl <;> simp)).put hd 0 (.int .i64 g)).put hd 1 ((.slice a ns.length c)))
          exact ⟨_, _, _, _, rfl, DF.ow, by omega, by omega, DF.dx.gr, DF.dx.rd⟩
      · skip
        go_wp2_with fail
        refine (pick_any R (kk + 1) 3 _ D8.out.dx.rd (by omega)).mono ?_
        rintro e w9 ⟨z, rfl, z0, z1, mm, hw⟩
        have z1 := z1 (by omega)
        have D9 := Lib.hid (D8.out.next hw)
        clear hw mm D8
        obtain rfl | rfl | rfl : z = 0 ∨ z = 1 ∨ z = 2 := by omega
        · skip
          have q0 := (D9.out.dx.bx _ (.head _)).2.cell 0
          have q1 := (D9.out.dx.bx _ (.head _)).2.cell 1
          have fq0 := (D9.out.dx.bx _ (.head _)).2.frozen 0
          have fq1 := (D9.out.dx.bx _ (.head _)).2.frozen 1
          simp at q0 q1
          obtain ⟨wz, hwz⟩ : ∃ z, z = w9.setCell ⟨N, 0, none⟩ (.int .i64 4) := ⟨_, rfl⟩
          have DZ : Hid (Dw w R [(N, [.int .i64 4, (.slice a ns.length c)]), (w.heap.size, [.int .i64 0, .slice none 0 0])] (.slice a ns.length c) ns (kk + 1 + 1) wz) := Lib.hid (by rw [hwz]; exact D9.out.put (fun b m => by simp at m; subst m; have := HNL.out; show w.heap.size ≠ N; omega) 0 (.int .i64 4))
          have HWZ := Lib.hid hwz
          clear hwz
          have s0 := (DZ.out.dx.bx _ (.head _)).2.cell 0
          have s1 := (DZ.out.dx.bx _ (.head _)).2.cell 1
          simp at s0 s1
          have r0 := (DZ.out.dx.bx _ (.tail _ (.head _))).2.cell 0
          have r1 := (DZ.out.dx.bx _ (.tail _ (.head _))).2.cell 1
          have fr0 := (DZ.out.dx.bx _ (.tail _ (.head _))).2.frozen 0
          have fr1 := (DZ.out.dx.bx _ (.tail _ (.head _))).2.frozen 1
          simp at r0 r1
          rw [HWZ.out] at s0 s1 r0 r1 fr0 fr1
          have hNr := HNL.out
          go_wp2
          refine bodyPost_ret (v := .agg #[.int .i64 4, (.slice a ns.length c)]) ?_ rfl ?_
          · simp [results, Tryd.results50, go_sem, r0, r1]
          · have hd : ∀ b : Nat × List Value, b ∈ [(N, [Value.int .i64 4, (.slice a ns.length c)])] → b.1 ≠ w.heap.size := fun b m => by
              simp at m; subst m; show N ≠ w.heap.size; omega
            have DF := (((DZ.out.sub (Bs' := [(w.heap.size, [.int .i64 0, .slice none 0 0]), (N, [.int .i64 4, (.slice a ns.length c)])]) (fun b m => by simp at m ⊢; rcases m with rfl | rfl <;> simp)).put hd 0 (.int .i64 4)).put hd 1 ((.slice a ns.length c)))
            rw [HWZ.out] at DF
            exact ⟨_, _, _, _, rfl, DF.ow, by omega, by omega, DF.dx.gr, DF.dx.rd⟩
        · skip
          have q0 := (D9.out.dx.bx _ (.head _)).2.cell 0
          have q1 := (D9.out.dx.bx _ (.head _)).2.cell 1
          simp at q0 q1
          have ov := D9.out.ow
          have oz := D9.out.dx.gr.size
          have hll : ns.length < 2000000 := by omega
          go_wp2_with (at_builtin; refine wpAppNote (x := (⟨0, -1, 0, 0, 0⟩ : Nt)) rfl _ _ rfl rfl ov hll oz rfl ?_)
          intro v2 wA o2 g2 hk2
          have SA := Lib.hid (D9.out.app o2 g2 hk2)
          obtain ⟨va2, vc2, hv⟩ := OwnN.form o2
          subst hv
          clear o2 g2 hk2 ov oz hll q0 q1
          obtain ⟨nl, hnl⟩ : ∃ nl, (ns ++ [(⟨0, -1, 0, 0, 0⟩ : Nt)]).length = nl := ⟨_, rfl⟩
          rw [hnl] at SA ⊢
          have hnl2 : nl ≤ 20 := by rw [← hnl]; simp; omega
          have q0 := (SA.out.dx.bx _ (.head _)).2.cell 0
          have q1 := (SA.out.dx.bx _ (.head _)).2.cell 1
          have fq0 := (SA.out.dx.bx _ (.head _)).2.frozen 0
          have fq1 := (SA.out.dx.bx _ (.head _)).2.frozen 1
          simp at q0 q1
          obtain ⟨wz, hwz⟩ : ∃ z, z = wA.setCell ⟨N, 1, none⟩ (.slice va2 nl vc2) := ⟨_, rfl⟩
          have DZ : Hid (Dw w R [(N, [.int .i64 g, (.slice va2 nl vc2)]), (w.heap.size, [.int .i64 0, .slice none 0 0])] (.slice va2 nl vc2) (ns ++ [(⟨0, -1, 0, 0, 0⟩ : Nt)]) (kk + 1 + 1) wz) := Lib.hid (by rw [hwz]; exact SA.out.put (fun b m => by simp at m; subst m; have := HNL.out; show w.heap.size ≠ N; omega) 1 (.slice va2 nl vc2))
          have HWZ := Lib.hid hwz
          clear hwz
          have s0 := (DZ.out.dx.bx _ (.head _)).2.cell 0
          have s1 := (DZ.out.dx.bx _ (.head _)).2.cell 1
          simp at s0 s1
          have r0 := (DZ.out.dx.bx _ (.tail _ (.head _))).2.cell 0
          have r1 := (DZ.out.dx.bx _ (.tail _ (.head _))).2.cell 1
          have fr0 := (DZ.out.dx.bx _ (.tail _ (.head _))).2.frozen 0
          have fr1 := (DZ.out.dx.bx _ (.tail _ (.head _))).2.frozen 1
          simp at r0 r1
          rw [HWZ.out] at s0 s1 r0 r1 fr0 fr1
          have hNr := HNL.out
          go_wp2
          refine bodyPost_ret (v := .agg #[.int .i64 g, (.slice va2 nl vc2)]) ?_ rfl ?_
          · simp [results, Tryd.results50, go_sem, r0, r1]
          · have hd : ∀ b : Nat × List Value, b ∈ [(N, [Value.int .i64 g, (.slice va2 nl vc2)])] → b.1 ≠ w.heap.size := fun b m => by
              simp at m; subst m; show N ≠ w.heap.size; omega
            have DF := (((DZ.out.sub (Bs' := [(w.heap.size, [.int .i64 0, .slice none 0 0]), (N, [.int .i64 g, (.slice va2 nl vc2)])]) (fun b m => by simp at m ⊢; rcases m with rfl | rfl <;> simp)).put hd 0 (.int .i64 g)).put hd 1 ((.slice va2 nl vc2)))
            rw [HWZ.out] at DF
            exact ⟨_, _, _, _, rfl, DF.ow, (by rw [hnl]; exact hnl2), by omega, DF.dx.gr, DF.dx.rd⟩
        · skip
          have q0 := (D9.out.dx.bx _ (.head _)).2.cell 0
          have q1 := (D9.out.dx.bx _ (.head _)).2.cell 1
          simp at q0 q1
          have ov := D9.out.ow
          have oz := D9.out.dx.gr.size
          have hll : ns.length < 2000000 := by omega
          go_wp2_with (at_builtin; refine wpAppNote (x := (⟨0, 9, 0, 0, 0⟩ : Nt)) rfl _ _ rfl rfl ov hll oz rfl ?_)
          intro v2 wA o2 g2 hk2
          have SA := Lib.hid (D9.out.app o2 g2 hk2)
          obtain ⟨va2, vc2, hv⟩ := OwnN.form o2
          subst hv
          clear o2 g2 hk2 ov oz hll q0 q1
          obtain ⟨nl, hnl⟩ : ∃ nl, (ns ++ [(⟨0, 9, 0, 0, 0⟩ : Nt)]).length = nl := ⟨_, rfl⟩
          rw [hnl] at SA ⊢
          have hnl2 : nl ≤ 20 := by rw [← hnl]; simp; omega
          have q0 := (SA.out.dx.bx _ (.head _)).2.cell 0
          have q1 := (SA.out.dx.bx _ (.head _)).2.cell 1
          have fq0 := (SA.out.dx.bx _ (.head _)).2.frozen 0
          have fq1 := (SA.out.dx.bx _ (.head _)).2.frozen 1
          simp at q0 q1
          obtain ⟨wz, hwz⟩ : ∃ z, z = wA.setCell ⟨N, 1, none⟩ (.slice va2 nl vc2) := ⟨_, rfl⟩
          have DZ : Hid (Dw w R [(N, [.int .i64 g, (.slice va2 nl vc2)]), (w.heap.size, [.int .i64 0, .slice none 0 0])] (.slice va2 nl vc2) (ns ++ [(⟨0, 9, 0, 0, 0⟩ : Nt)]) (kk + 1 + 1) wz) := Lib.hid (by rw [hwz]; exact SA.out.put (fun b m => by simp at m; subst m; have := HNL.out; show w.heap.size ≠ N; omega) 1 (.slice va2 nl vc2))
          have HWZ := Lib.hid hwz
          clear hwz
          have s0 := (DZ.out.dx.bx _ (.head _)).2.cell 0
          have s1 := (DZ.out.dx.bx _ (.head _)).2.cell 1
          simp at s0 s1
          have r0 := (DZ.out.dx.bx _ (.tail _ (.head _))).2.cell 0
          have r1 := (DZ.out.dx.bx _ (.tail _ (.head _))).2.cell 1
          have fr0 := (DZ.out.dx.bx _ (.tail _ (.head _))).2.frozen 0
          have fr1 := (DZ.out.dx.bx _ (.tail _ (.head _))).2.frozen 1
          simp at r0 r1
          rw [HWZ.out] at s0 s1 r0 r1 fr0 fr1
          have hNr := HNL.out
          go_wp2
          refine bodyPost_ret (v := .agg #[.int .i64 g, (.slice va2 nl vc2)]) ?_ rfl ?_
          · simp [results, Tryd.results50, go_sem, r0, r1]
          · have hd : ∀ b : Nat × List Value, b ∈ [(N, [Value.int .i64 g, (.slice va2 nl vc2)])] → b.1 ≠ w.heap.size := fun b m => by
              simp at m; subst m; show N ≠ w.heap.size; omega
            have DF := (((DZ.out.sub (Bs' := [(w.heap.size, [.int .i64 0, .slice none 0 0]), (N, [.int .i64 g, (.slice va2 nl vc2)])]) (fun b m => by simp at m ⊢; rcases m with rfl | rfl <;> simp)).put hd 0 (.int .i64 g)).put hd 1 ((.slice va2 nl vc2)))
            rw [HWZ.out] at DF
            exact ⟨_, _, _, _, rfl, DF.ow, (by rw [hnl]; exact hnl2), by omega, DF.dx.gr, DF.dx.rd⟩
end Go.Proofs.YtiinifcepcaonaaDoor

/- Draws of boards: DrawBoardOk, DrawKeysOn, DrawLeakOf. -/
namespace Go.Proofs.YtiinifcepcaonaaDoor
open Go.RowKit

theorem code_moreB {w : World} {s : Value} (h : CodeIn w s) (o : Obj) : CodeIn (w.alloc o) s := by
  rcases h with ⟨a, cap, rfl⟩ | ⟨b, off, len, cap, z, rfl, h1, h2, h3, h4, h5, h6⟩
  · exact .inl ⟨a, cap, rfl⟩
  · exact .inr ⟨b, off, len, cap, z, rfl, h1, h2, h3, by simp; omega, fun j hj => ((below_grow w o).cell (p := ⟨b, off + j, none⟩) h4).trans (h5 j hj), h6⟩
theorem box_drawnB {w w' : World} {R N : Nat} {P : List Value} (h : Box w N P) (hg : w.grownBy w' (some R)) (hN : N ≠ R) : Box w' N P := by
  obtain ⟨T, hT⟩ := h
  exact ⟨T, by rw [hg.block N (Array.getElem?_eq_some_iff.1 hT).1 fun e => hN (Option.some.inj e)]; exact hT⟩
/-- A board, as the laws have it. -/
def BdPost (w : World) (e : Ending) (w' : World) : Prop := ∃ (g : Int) (v : Value) (ns : List Nt), e = .returned (.agg #[.int .i64 g, v]) ∧ OwnN w' w.heap.size v ns ∧ ns.length ≤ 20 ∧ Below w.heap.size w w'
def BdiPost (w : World) (e : Ending) (w' : World) : Prop := ∃ (g : Int) (v : Value) (ns : List Nt) (n : Int), e = .returned (.tuple #[.agg #[.int .i64 g, v], .int .i64 n]) ∧ OwnN w' w.heap.size v ns ∧ ns.length ≤ 20 ∧ Below w.heap.size w w'
set_option maxHeartbeats 1600000 in
theorem drawBoardOk_any (s : Value) (w : World) (h : CodeIn w s) : Calls Tryd.prog 23 #[s] w (BdPost w) := by
  have H := Lib.hid h; clear h
  obtain ⟨W0, hW0⟩ : ∃ W, W = w.alloc (.cells #[.int .i64 0, .slice none 0 0] 29) := ⟨_, rfl⟩
  have HC := Lib.hid (show CodeIn W0 s by rw [hW0]; exact code_moreB H.out _)
  have B0 := Lib.hid (show Box W0 w.heap.size [.int .i64 0, .slice none 0 0] by rw [hW0]; exact Box.made w _ _)
  have HZ0 := Lib.hid (show W0.heap.size = w.heap.size + 1 by rw [hW0]; simp)
  have HB0 := Lib.hid (show Below w.heap.size w W0 by rw [hW0]; exact below_grow _ _)
  go_enter Tryd.func23, Tryd.ntmps23
  go_wp2_with fail
  rw [← hW0]
  clear hW0 H
  refine (open_any _ _ HC.out).mono ?_
  rintro e w1 ⟨rfl, hr, hb⟩
  have HB := Lib.hid (Below.on HB0.out hb)
  have HS : Hid (w.heap.size < w1.heap.size) := Lib.hid (by have := hb.size; have := HZ0.out; omega)
  have BX := Lib.hid (B0.out.on hb)
  have HR := Lib.hid hr
  have HRZ : Hid (w.heap.size < W0.heap.size) := Lib.hid (by have := HZ0.out; omega)
  clear hr hb B0 HC HB0
  go_wp2_with fail
  refine (drboard_any _ _ 2 _ HR.out (by omega) (by omega) (by omega)).mono ?_
  rintro e w2 ⟨g, v, ns, k2, rfl, oo, hl, hk2, gg, rr⟩
  have BX2 := Lib.hid (box_drawnB BX.out gg (by have := HRZ.out; omega))
  have HB2 := Lib.hid (HB.out.grown gg (by have := HS.out; omega) (fun q e => by cases e; have := HRZ.out; omega))
  have O2 := Lib.hid (row5_lower oo (Nat.le_of_lt HS.out))
  have OL := Lib.hid (fun q hq => (oo.lt q hq).1)
  obtain ⟨va, vc, ev⟩ := OwnN.form oo
  subst ev
  have HZ2 := Lib.hid gg.size
  clear oo gg rr BX HB
  have q0 := BX2.out.cell 0
  have q1 := BX2.out.cell 1
  have f0 := BX2.out.frozen 0
  have f1 := BX2.out.frozen 1
  simp at q0 q1
  go_wp2
  refine bodyPost_ret (v := .agg #[.int .i64 g, .slice va ns.length vc]) ?_ rfl ?_
  · simp [results, Tryd.results23, go_sem, q0, q1]
  · exact ⟨_, _, ns, rfl, row5_heap O2.out fun q hq => by
      have h1 := OL.out q hq
      have h2 := HS.out
      rw [Below.heap_setCell _ _ _ _ (show q ≠ w.heap.size by omega), Below.heap_setCell _ _ _ _ (show q ≠ w.heap.size by omega)], hl, (HB2.out.setCell (by show w.heap.size ≤ w.heap.size; omega) _).setCell (by show w.heap.size ≤ w.heap.size; omega) _⟩
set_option maxHeartbeats 1600000 in
theorem drawKeysOn_any (s : Value) (w : World) (h : CodeIn w s) : Calls Tryd.prog 30 #[s] w (BdPost w) := by
  have H := Lib.hid h; clear h
  obtain ⟨W0, hW0⟩ : ∃ W, W = w.alloc (.cells #[.int .i64 0, .slice none 0 0] 29) := ⟨_, rfl⟩
  have HC := Lib.hid (show CodeIn W0 s by rw [hW0]; exact code_moreB H.out _)
  have B0 := Lib.hid (show Box W0 w.heap.size [.int .i64 0, .slice none 0 0] by rw [hW0]; exact Box.made w _ _)
  have HZ0 := Lib.hid (show W0.heap.size = w.heap.size + 1 by rw [hW0]; simp)
  have HB0 := Lib.hid (show Below w.heap.size w W0 by rw [hW0]; exact below_grow _ _)
  go_enter Tryd.func30, Tryd.ntmps30
  go_wp2_with fail
  rw [← hW0]
  clear hW0 H
  refine (open_any _ _ HC.out).mono ?_
  rintro e w1 ⟨rfl, hr, hb⟩
  have HB := Lib.hid (Below.on HB0.out hb)
  have HS : Hid (w.heap.size < w1.heap.size) := Lib.hid (by have := hb.size; have := HZ0.out; omega)
  have BX := Lib.hid (B0.out.on hb)
  have HR := Lib.hid hr
  have HRZ : Hid (w.heap.size < W0.heap.size) := Lib.hid (by have := HZ0.out; omega)
  clear hr hb B0 HC HB0
  go_wp2_with fail
  refine (drboard_any _ _ 9 _ HR.out (by omega) (by omega) (by omega)).mono ?_
  rintro e w2 ⟨g, v, ns, k2, rfl, oo, hl, hk2, gg, rr⟩
  have BX2 := Lib.hid (box_drawnB BX.out gg (by have := HRZ.out; omega))
  have HB2 := Lib.hid (HB.out.grown gg (by have := HS.out; omega) (fun q e => by cases e; have := HRZ.out; omega))
  have O2 := Lib.hid (row5_lower oo (Nat.le_of_lt HS.out))
  have OL := Lib.hid (fun q hq => (oo.lt q hq).1)
  obtain ⟨va, vc, ev⟩ := OwnN.form oo
  subst ev
  have HZ2 := Lib.hid gg.size
  clear oo gg rr BX HB
  have q0 := BX2.out.cell 0
  have q1 := BX2.out.cell 1
  have f0 := BX2.out.frozen 0
  have f1 := BX2.out.frozen 1
  simp at q0 q1
  go_wp2
  refine bodyPost_ret (v := .agg #[.int .i64 g, .slice va ns.length vc]) ?_ rfl ?_
  · simp [results, Tryd.results30, go_sem, q0, q1]
  · exact ⟨_, _, ns, rfl, row5_heap O2.out fun q hq => by
      have h1 := OL.out q hq
      have h2 := HS.out
      rw [Below.heap_setCell _ _ _ _ (show q ≠ w.heap.size by omega), Below.heap_setCell _ _ _ _ (show q ≠ w.heap.size by omega)], hl, (HB2.out.setCell (by show w.heap.size ≤ w.heap.size; omega) _).setCell (by show w.heap.size ≤ w.heap.size; omega) _⟩
set_option maxHeartbeats 1600000 in
theorem drawLeakOf_any (s : Value) (w : World) (h : CodeIn w s) : Calls Tryd.prog 34 #[s] w (BdiPost w) := by
  have H := Lib.hid h; clear h
  obtain ⟨W0, hW0⟩ : ∃ W, W = w.alloc (.cells #[.int .i64 0, .slice none 0 0] 29) := ⟨_, rfl⟩
  have HC := Lib.hid (show CodeIn W0 s by rw [hW0]; exact code_moreB H.out _)
  have B0 := Lib.hid (show Box W0 w.heap.size [.int .i64 0, .slice none 0 0] by rw [hW0]; exact Box.made w _ _)
  have HZ0 := Lib.hid (show W0.heap.size = w.heap.size + 1 by rw [hW0]; simp)
  have HB0 := Lib.hid (show Below w.heap.size w W0 by rw [hW0]; exact below_grow _ _)
  go_enter Tryd.func34, Tryd.ntmps34
  go_wp2_with fail
  rw [← hW0]
  clear hW0 H
  refine (open_any _ _ HC.out).mono ?_
  rintro e w1 ⟨rfl, hr, hb⟩
  have HB := Lib.hid (Below.on HB0.out hb)
  have HS : Hid (w.heap.size < w1.heap.size) := Lib.hid (by have := hb.size; have := HZ0.out; omega)
  have BX := Lib.hid (B0.out.on hb)
  have HR := Lib.hid hr
  have HRZ : Hid (w.heap.size < W0.heap.size) := Lib.hid (by have := HZ0.out; omega)
  clear hr hb B0 HC HB0
  go_wp2_with fail
  refine (drboard_any _ _ 9 _ HR.out (by omega) (by omega) (by omega)).mono ?_
  rintro e w2 ⟨g, v, ns, k2, rfl, oo, hl, hk2, gg, rr⟩
  have BX2 := Lib.hid (box_drawnB BX.out gg (by have := HRZ.out; omega))
  have HB2 := Lib.hid (HB.out.grown gg (by have := HS.out; omega) (fun q e => by cases e; have := HRZ.out; omega))
  have O2 := Lib.hid (row5_lower oo (Nat.le_of_lt HS.out))
  have OL := Lib.hid (fun q hq => (oo.lt q hq).1)
  obtain ⟨va, vc, ev⟩ := OwnN.form oo
  subst ev
  have HZ2 := Lib.hid gg.size
  have R2 := Lib.hid rr
  clear oo gg rr BX HB
  go_wp2_with fail
  refine (pick_any _ (k2) 4 _ R2.out (by omega)).mono ?_
  rintro e w3 ⟨v3, rfl, lo3, hi3, mm, hw⟩
  have hi3 := hi3 (by omega)
  have gg : w2.grownBy w3 (some W0.heap.size) := by rw [hw]; exact grown_pick _ _ _ _
  have R3 : Hid (Rd w3 W0.heap.size (k2 + 1)) := Lib.hid (by rw [hw]; exact R2.out.next mm)
  have BX3 := Lib.hid (box_drawnB BX2.out gg (by have := HRZ.out; omega))
  have HZ3 := Lib.hid (Nat.le_trans HZ2.out gg.size)
  have HB3 := Lib.hid (HB2.out.grown gg (by have := HS.out; have := HZ2.out; omega) (fun q e => by cases e; have := HRZ.out; omega))
  have O3 := Lib.hid (row5_heap O2.out fun q hq => gg.block q (O2.out.lt q hq).2 (fun e => by have h1 := OL.out q hq; have h2 := HR.out.lt; cases e; omega))
  clear hw gg R2 BX2 HB2 O2
  go_wp2_with fail
  refine (pick_any _ (k2 + 1) 20 _ R3.out (by omega)).mono ?_
  rintro e w4 ⟨v4, rfl, lo4, hi4, mm, hw⟩
  have hi4 := hi4 (by omega)
  have gg : w3.grownBy w4 (some W0.heap.size) := by rw [hw]; exact grown_pick _ _ _ _
  have R4 : Hid (Rd w4 W0.heap.size (k2 + 1 + 1)) := Lib.hid (by rw [hw]; exact R3.out.next mm)
  have BX4 := Lib.hid (box_drawnB BX3.out gg (by have := HRZ.out; omega))
  have HZ4 := Lib.hid (Nat.le_trans HZ3.out gg.size)
  have HB4 := Lib.hid (HB3.out.grown gg (by have := HS.out; have := HZ3.out; omega) (fun q e => by cases e; have := HRZ.out; omega))
  have O4 := Lib.hid (row5_heap O3.out fun q hq => gg.block q (O3.out.lt q hq).2 (fun e => by have h1 := OL.out q hq; have h2 := HR.out.lt; cases e; omega))
  clear hw gg R3 BX3 HB3 O3
  have q0 := BX4.out.cell 0
  have q1 := BX4.out.cell 1
  have f0 := BX4.out.frozen 0
  have f1 := BX4.out.frozen 1
  simp at q0 q1
  go_wp2
  refine bodyPost_ret (v := .tuple #[.agg #[.int .i64 g, .slice va ns.length vc], .int .i64 (v3 - v4 / 19)]) ?_ rfl ?_
  · simp [results, Tryd.results34, go_sem, q0, q1]
  · exact ⟨_, _, ns, _, rfl, row5_heap O4.out fun q hq => by
      have h1 := OL.out q hq
      have h2 := HS.out
      rw [Below.heap_setCell _ _ _ _ (show q ≠ w.heap.size by omega), Below.heap_setCell _ _ _ _ (show q ≠ w.heap.size by omega)], hl, (HB4.out.setCell (by show w.heap.size ≤ w.heap.size; omega) _).setCell (by show w.heap.size ≤ w.heap.size; omega) _⟩
end Go.Proofs.YtiinifcepcaonaaDoor
