/- BdoM, BdoS, BdoT, in one text. -/
import Derived.Test.YtiinifcepcaonaaDoorRdVq
import Derived.Test.YtiinifcepcaonaaDoorBPurN
import Derived.Test.YtiinifcepcaonaaDoorDedE
import Derived.Test.YtiinifcepcaonaaDoorBBrd
import Derived.Test.YtiinifcepcaonaaDoorBcp
/- What a deed does to a board. -/
namespace Go.Proofs.YtiinifcepcaonaaDoor
open Go.RowKit

structure Dd where
  kind : Int
  num : Int
  text : ByteArray
def emB (t : ByteArray) : Bool := (t.toList == (⟨#[]⟩ : ByteArray).toList)
def backB (d : Dd) : Bool := dedB d.kind d.num d.text 2 0 ⟨#[]⟩
/-- The note that a deed puts there. -/
def noteD (g : Int) (d : Dd) : Option Nt :=
  if d.kind = 0 then (if emB d.text then some ⟨d.num, -1, 0, 0, 0⟩ else none)
  else if d.kind = 1 then (match rdO g d.text with | some (s, a, t) => some ⟨0, d.num, s, a, t⟩ | none => none)
  else none
def bdoN (g : Int) (ns : List Nt) (d : Dd) : Option (List Nt) :=
  if backB d && decide (0 < ns.length) then some (ns.take (ns.length - 1))
  else match noteD g d with
    | some x => if fitB g ns x && decide (ns.length < 12) then some (ns ++ [x]) else none
    | none => none
def bdoB (g : Int) (ns : List Nt) (d : Dd) : Bool := brdB g ns && (bdoN g ns d).isSome
def bdoG (g : Int) (ns : List Nt) : Int := if brdB g ns then g else 0
def bdoL (g : Int) (ns : List Nt) (d : Dd) : List Nt := if brdB g ns then (bdoN g ns d).getD ns else []
theorem bdo_no {g : Int} {ns : List Nt} {d : Dd} (h : brdB g ns = false) : bdoB g ns d = false ∧ bdoG g ns = 0 ∧ bdoL g ns d = [] := by
  unfold bdoB bdoG bdoL; rw [h]; exact ⟨rfl, rfl, rfl⟩
theorem bdo_some {g : Int} {ns ms : List Nt} {d : Dd} (h : brdB g ns = true) (hn : bdoN g ns d = some ms) : bdoB g ns d = true ∧ bdoG g ns = g ∧ bdoL g ns d = ms := by
  unfold bdoB bdoG bdoL; rw [h, hn]; exact ⟨rfl, rfl, rfl⟩
theorem bdo_none {g : Int} {ns : List Nt} {d : Dd} (h : brdB g ns = true) (hn : bdoN g ns d = none) : bdoB g ns d = false ∧ bdoG g ns = g ∧ bdoL g ns d = ns := by
  unfold bdoB bdoG bdoL; rw [h, hn]; exact ⟨rfl, rfl, rfl⟩
theorem bdoN_back {g : Int} {ns : List Nt} {d : Dd} (h : backB d = true) (h0 : 0 < ns.length) : bdoN g ns d = some (ns.take (ns.length - 1)) := by unfold bdoN; simp [h, h0]
theorem bdoN_put {g : Int} {ns : List Nt} {d : Dd} (h : (backB d && decide (0 < ns.length)) = false) {x : Nt} (hx : noteD g d = some x) : bdoN g ns d = if fitB g ns x && decide (ns.length < 12) then some (ns ++ [x]) else none := by unfold bdoN; rw [h, hx]; rfl
theorem bdoN_nothing {g : Int} {ns : List Nt} {d : Dd} (h : (backB d && decide (0 < ns.length)) = false) (hx : noteD g d = none) : bdoN g ns d = none := by unfold bdoN; rw [h, hx]; rfl
theorem back_kind {d : Dd} (h : d.kind ≠ 2) : backB d = false := by unfold backB dedB; simp [h]
theorem fit_neg {g : Int} {ns : List Nt} {n s a t : Int} (h : n < 0) : fitB g ns ⟨0, n, s, a, t⟩ = false := by
  unfold fitB
  by_cases ho : n = -1
  · subst ho
    have e : elB g 0 = false := by
      cases he : elB g 0
      · rfl
      · have := (elB_bound he).1; omega
    simp [e]
  · have e : onB g ns ⟨0, n, s, a, t⟩ = false := by unfold onB; simp; intro h0; omega
    simp [ho, e]
/-- P46, P47: behind a deed a board is one. -/
theorem bdo_brd {g : Int} {ns ms : List Nt} {d : Dd} (h : brdB g ns = true) (hn : bdoN g ns d = some ms) : brdB g ms = true := by
  unfold bdoN at hn
  split at hn
  · cases hn; exact brd_take h _
  · split at hn
    · split at hn
      · rename_i hc
        cases hn
        simp only [Bool.and_eq_true, decide_eq_true_eq] at hc
        exact brd_app h hc.2 hc.1
      · cases hn
    · cases hn
theorem bdo_len {g : Int} {ns : List Nt} (d : Dd) : (bdoL g ns d).length ≤ ns.length + 1 := by
  unfold bdoL bdoN
  split
  · split
    · simp; omega
    · split
      · split <;> simp
      · simp
  · simp
theorem bdo_isBrd {g : Int} {ns : List Nt} {d : Dd} (h : brdB g ns = true) : brdB g (bdoL g ns d) = true := by
  cases hn : bdoN g ns d with
  | none => rw [(bdo_none h hn).2.2]; exact h
  | some ms => rw [(bdo_some h hn).2.2]; exact bdo_brd h hn
end Go.Proofs.YtiinifcepcaonaaDoor

/- spec.BoardDo. -/
namespace Go.Proofs.YtiinifcepcaonaaDoor
open Go.RowKit

/-- What is known within a function that works on a copy of a board: boxes, and the copy's notes apart from them. -/
structure Bd (w : World) (Bs : List (Nat × List Value)) (u : Value) (l : List Nt) (w' : World) : Prop where
  be : Below w.heap.size w w'
  bx : ∀ b, b ∈ Bs → w.heap.size ≤ b.1 ∧ Box w' b.1 b.2
  ow : OwnN w' w.heap.size u l
  ap : ∀ b, b ∈ Bs → u.ownBlock ≠ some b.1
section
variable {w w' w'' : World} {Bs Bs' : List (Nat × List Value)} {u : Value} {l : List Nt}
theorem Bd.on (h : Bd w Bs u l w') (hb : Below w'.heap.size w' w'') : Bd w Bs u l w'' := ⟨Below.on h.be hb, fun b m => ⟨(h.bx b m).1, (h.bx b m).2.on hb⟩, row5_below h.ow hb, h.ap⟩
theorem Bd.made (h : Bd w Bs u l w') (cs : List Value) (T : TypeId) : Bd w ((w'.heap.size, cs) :: Bs) u l (w'.alloc (.cells cs.toArray T)) := by
  have k := h.on (below_grow w' (.cells cs.toArray T))
  refine ⟨k.be, fun b m => ?_, k.ow, fun b m => ?_⟩
  · rcases List.mem_cons.1 m with rfl | m
    · exact ⟨h.be.size, Box.made w' cs T⟩
    · exact k.bx b m
  · rcases List.mem_cons.1 m with rfl | m
    · intro e; have := (h.ow.lt _ e).2; exact absurd this (Nat.lt_irrefl _)
    · exact h.ap b m
theorem Bd.sub (h : Bd w Bs u l w') (hs : ∀ b, b ∈ Bs' → b ∈ Bs) : Bd w Bs' u l w' := ⟨h.be, fun b m => h.bx b (hs b m), h.ow, fun b m => h.ap b (hs b m)⟩
/-- A cell of the first box written to. -/
theorem Bd.put {N : Nat} {cs : List Value} (h : Bd w ((N, cs) :: Bs) u l w') (hne : ∀ b, b ∈ Bs → b.1 ≠ N) (j : Nat) (y : Value) : Bd w ((N, cs.set j y) :: Bs) u l (w'.setCell ⟨N, j, none⟩ y) := by
  have h0 := h.bx _ (.head _)
  have hap := h.ap _ (.head _)
  refine ⟨h.be.setCell h0.1 _, fun b m => ?_, row5_heap h.ow fun k hk => Below.heap_setCell _ _ _ _ (by show k ≠ N; intro e; subst e; exact hap hk), fun b m => ?_⟩
  · rcases List.mem_cons.1 m with rfl | m
    · exact ⟨h0.1, h0.2.set j y⟩
    · exact ⟨(h.bx b (.tail _ m)).1, (h.bx b (.tail _ m)).2.far (hne b m) _⟩
  · rcases List.mem_cons.1 m with rfl | m
    · exact hap
    · exact h.ap b (.tail _ m)
theorem Bd.app {u' : Value} {l' : List Nt} (h : Bd w Bs u l w') (ho : OwnN w'' w.heap.size u' l') (hg : w'.grownBy w'' u.ownBlock) (hk : u'.ownBlock = u.ownBlock ∨ ∃ k, u'.ownBlock = some k ∧ w'.heap.size ≤ k) : Bd w Bs u' l' w'' := by
  refine ⟨h.be.grown hg h.be.size fun k hk' => (h.ow.lt k hk').1, fun b m => ?_, ho, fun b m e => ?_⟩
  · obtain ⟨h1, T, h2⟩ := h.bx b m
    have hl : b.1 < w'.heap.size := (Array.getElem?_eq_some_iff.1 h2).1
    exact ⟨h1, T, by rw [hg.block b.1 hl fun e' => h.ap b m e'.symm]; exact h2⟩
  · rcases hk with hk | ⟨k, hk, hl⟩
    · exact h.ap b m (by rw [← hk]; exact e)
    · rw [hk] at e
      have := (h.bx b m).2.lt
      cases e; omega
theorem emp_toList : (⟨#[]⟩ : ByteArray).toList = [] := by rw [ByteArray.toList_eq]
theorem flatN_take : ∀ (d : List Nt) (k : Nat), (d.take k).flatMap encN = (d.flatMap encN).take (k * 5)
  | [], k => by simp
  | x :: d, 0 => by simp
  | x :: d, k + 1 => by rw [List.take_succ_cons, List.flatMap_cons, List.flatMap_cons, flatN_take d k, show (k + 1) * 5 = (encN x).length + k * 5 by simp [encN]; omega, List.take_length_add_append]
/-- The last notes are left out. -/
theorem OwnN.cut {B : Nat} {g n c k : Nat} (h : OwnN w' B (.slice (some ⟨g, 0, none⟩) n c) l) (hn : l.length = n) (hk : k ≤ n) : OwnN w' B (.slice (some ⟨g, 0, none⟩) k c) (l.take k) := by
  obtain ⟨h1, h2⟩ := h
  subst hn
  refine ⟨flatN_len _, ?_⟩
  rcases h2 with ⟨e, _⟩ | ⟨g', cap, cur, e, hB, hb, hc, hm, hs, ht⟩
  · cases e
  · cases e
    refine .inr ⟨g, c, cur, by rw [List.length_take, Nat.min_eq_left hk], hB, hb, by rw [List.length_take]; omega, hm, hs, ?_⟩
    rw [flatN_take, ← ht, List.take_take, List.length_take, Nat.min_eq_left hk, show min (k * 5) (l.length * 5) = k * 5 by omega]
end
theorem sbdo_zero (g : Int) (v : Value) (ns : List Nt) (k q : Int) (t : ByteArray) (w : World) (h : Nts w v ns) (hl : ns.length ≤ 2000000) (hb : brdB g ns = false) : Calls Tryd.prog 68 #[.agg #[.int .i64 g, v], .agg #[.int .i64 k, .int .i64 q, .string t]] w fun e w' => e = .returned (.tuple #[.agg #[.int .i64 0, .slice none 0 0], .bool false]) ∧ Below w.heap.size w w' := by
  obtain ⟨a, c, rfl, _⟩ := h.opened
  obtain ⟨n, hn⟩ : ∃ n, ns.length = n := ⟨_, rfl⟩
  have W3 := bx3 (w := w) [.int .i64 g, .slice a n c] [.int .i64 k, .int .i64 q, .string t] [.int .i64 0, .slice none 0 0] 29 87 29
  rw [hn] at h ⊢
  have H := Lib.hid h
  have HB := Lib.hid hb
  have HL := Lib.hid hl
  obtain ⟨W, hWe, hWs, hW, b0, b1, b2⟩ := W3.out
  have HW := Lib.hid hW
  have HWE := Lib.hid hWe
  have Y2 := Lib.hid b2
  clear W3 hWe hWs hW b0 b1 b2 h hb hn hl
  go_enter Tryd.func68, Tryd.ntmps68
  go_wp2_with fail
  rw [← HWE.out]
  refine (sbrd_any g _ ns _ (H.out.on HW.out) HL.out).mono ?_
  rintro e w1 ⟨rfl, hb1⟩
  rw [HB.out]
  have r0 := (Y2.out.on hb1).cell 0
  have r1 := (Y2.out.on hb1).cell 1
  have f0 := (Y2.out.on hb1).frozen 0
  have f1 := (Y2.out.on hb1).frozen 1
  simp at r0 r1
  have B1 := Lib.hid (HW.out.trans (hb1.mono HW.out.size))
  clear hb1
  go_wp2
  refine bodyPost_ret (v := .tuple #[.agg #[.int .i64 0, .slice none 0 0], .bool false]) ?_ rfl ⟨rfl, ?_⟩
  · simp [results, Tryd.results68, go_sem, r0, r1]
  · exact (B1.out.setCell (by show w.heap.size ≤ w.heap.size + 1 + 1; omega) _).setCell (by show w.heap.size ≤ w.heap.size + 1 + 1; omega) _
set_option maxRecDepth 20000 in
set_option maxHeartbeats 3200000 in
theorem sbdo_other (g : Int) (v : Value) (ns : List Nt) (k q : Int) (t : ByteArray) (w : World) (h : Nts w v ns) (hb : brdB g ns = true) (h0 : k ≠ 0) (h1 : k ≠ 1) (hk : (backB ⟨k, q, t⟩ && decide (0 < ns.length)) = false) : Calls Tryd.prog 68 #[.agg #[.int .i64 g, v], .agg #[.int .i64 k, .int .i64 q, .string t]] w fun e w' => ∃ u, e = .returned (.tuple #[.agg #[.int .i64 g, u], .bool false]) ∧ OwnN w' w.heap.size u ns ∧ Below w.heap.size w w' := by
  have hk' : (dedB k q t 2 0 ⟨#[]⟩ && decide (0 < ns.length)) = false := hk
  obtain ⟨a, c, rfl, _⟩ := h.opened
  obtain ⟨n, hn⟩ : ∃ n, ns.length = n := ⟨_, rfl⟩
  rw [hn] at h ⊢
  have H := Lib.hid h
  have HNL := Lib.hid hn
  have HB := Lib.hid hb
  have HL := Lib.hid (show ns.length ≤ 2000000 from Nat.le_trans (brd_true.1 hb).2.1 (by omega))
  have hn12 : n ≤ 12 := by rw [← hn]; exact (brd_true.1 hb).2.1
  have tg := deedGuard
  have te := run_equal_deed
  rw [hn] at hk'
  have k0 : (k == 0) = false := by simp [h0]
  have k0n : (k != 0) = true := by simp [h0]
  have k1 : (k == 1) = false := by simp [h1]
  clear h hb hn hk h0 h1
  by_cases h2 : k = 2
  · have k2 : (k == 2) = true := by simp [h2]
    cases hd : dedB k q t 2 0 ⟨#[]⟩
    · clear hk' h2
      have W3 := bx3 (w := w) [.int .i64 g, .slice a n c] [.int .i64 k, .int .i64 q, .string t] [.int .i64 0, .slice none 0 0] 29 87 29
      obtain ⟨W, hWe, hWs, hW, b0, b1, b2⟩ := W3.out
      have HW := Lib.hid hW
      have HS := Lib.hid hWs
      have HWE := Lib.hid hWe
      have Y0 := Lib.hid b0
      have Y1 := Lib.hid b1
      have Y2 := Lib.hid b2
      clear W3 hWe hWs hW b0 b1 b2
      go_enter Tryd.func68, Tryd.ntmps68
      go_wp2_with fail
      rw [← HWE.out]
      refine (sbrd_any g _ ns _ (H.out.on HW.out) HL.out).mono ?_
      rintro e w1 ⟨rfl, hb1⟩
      rw [HB.out]
      have X0 := Lib.hid (Y0.out.on hb1)
      have X1 := Lib.hid (Y1.out.on hb1)
      have X2 := Lib.hid (Y2.out.on hb1)
      have B1 := Lib.hid (HW.out.trans (hb1.mono HW.out.size))
      clear hb1 Y0 Y1 Y2
      go_wp2_with fail
      apply wp_region_H (Z := Option (Value × List Nt) × Option (Nat × List Value)) (S := fun k => k == 2 || k == 5 || k == 7 || k == 8) (C := fun z w' => Hid (Zc w1 z.1 z.2 w')) [0, 1, 3, 4] (none, none)
      · kernel_rfl
      · kernel_rfl
      · kernel_rfl
      · exact ⟨rfl, rfl, rfl, rfl, trivial⟩
      · rfl
      · decide
      · exact Lib.hid (Zc.start (Below.refl _ _).drew)
      · intro z
        dsimp only [pickL, nthO]
        go_big_quiet_want; go_big_quiet_op; first | go_big_quiet_on | (refine ⟨_, fun _ _ => rfl, ?_⟩; go_big_quiet_on)
        go_big_quiet_want
        go_big_quiet_op
        refine ⟨.int .i64 g, fun w' hw' => ?_, ?_⟩
        · have q := (X0.out.on hw'.out.be).cell 0
          simp at q
          simp [go_sem, q]
        go_big_quiet_on
        go_big_quiet_want; go_big_quiet_op; first | go_big_quiet_on | (refine ⟨_, fun _ _ => rfl, ?_⟩; go_big_quiet_on)
        go_big_quiet_want
        go_big_quiet_op
        refine ⟨.slice a n c, fun w' hw' => ?_, ?_⟩
        · have q := (X0.out.on hw'.out.be).cell 1
          simp at q
          simp [go_sem, q]
        go_big_quiet_on
        exact wpQuiet_nil rfl
      · skip
        refine wpAnyH_key (D := Nat × Value × Nat) (fun d => (some (d.2.1, ns), some (d.2.2, [.int .i64 g, d.2.1]))) (fun d a => ((((a.put (some 16) (.slice (some ⟨d.1, 0, none⟩) 0 0)).put (some 19) (d.2.1)).put (some 20) (.agg #[.int .i64 g, d.2.1])).put (some 6) (.pointer (some ⟨d.2.2, 0, none⟩)))) ?_ ?_
        · skip
          refine wpAnyH_two 2 7 (by kernel_rfl) ?_ ?_
          · skip
            refine hOp_special (d := some 16) rfl rfl rfl (by kernel_rfl) fun wm hc => ⟨.slice (some ⟨wm.heap.size, 0, none⟩) 0 0, wm.alloc (.cells #[] 47), (some (.slice (some ⟨wm.heap.size, 0, none⟩) 0 0, []), none), by kernel_rfl, Lib.hid hc.out.build, ?_⟩
            clear hc
            refine wpAnyH_two 5 7 (by kernel_rfl) ?_ ?_
            · skip
              refine hOp_appN (v := .slice (some ⟨wm.heap.size, 0, none⟩) 0 0) (u := .slice a n c) (ns := ns) (B := w1.heap.size) (.tmp 16) (.tmp 18) (d := some 19) rfl rfl rfl (by kernel_rfl) rfl rfl rfl HL.out fun wp hc => ⟨hc.out.ow _ _ rfl, H.out.on (Below.on B1.out hc.out.be), hc.out.be.size, fun v9 w9 ho hg hk => ⟨(some (v9, ns), none), Lib.hid (hc.out.app ho hg hk), ?_⟩⟩
              obtain ⟨a9, c9, e9⟩ := OwnN.form ho
              subst e9
              clear hc ho hg hk
              refine wpAnyH_take (i := 6) (d := some 20) (.agg #[.int .i64 g, (.slice a9 ns.length c9)]) rfl (by kernel_rfl) rfl rfl (by kernel_rfl) (by kernel_rfl) (by kernel_rfl) (fun _ => by kernel_rfl) ?_
              refine wpAnyH_special (i := 7) (d := some 6) rfl (by kernel_rfl) rfl rfl (by kernel_rfl) fun wN hc => ⟨.pointer (some ⟨wN.heap.size, 0, none⟩), wN.alloc (.cells #[.int .i64 0, .slice none 0 0] 29), (some (.slice a9 ns.length c9, ns), some (wN.heap.size, [.int .i64 0, .slice none 0 0])), .inl (by kernel_rfl), Lib.hid (hc.out.made [.int .i64 0, .slice none 0 0] _), ?_⟩
              clear hc
              refine wpAnyH_special (i := 8) (d := none) rfl (by kernel_rfl) rfl rfl (by kernel_rfl) fun we he => ?_
              have kb := (he.out.bx _ _ rfl).2
              have k0 := kb.cell 0; have f0 := kb.frozen 0
              have k1 := kb.cell 1; have f1 := kb.frozen 1
              simp at k0 k1
              refine ⟨undef, (we.setCell ⟨wN.heap.size, 0, none⟩ (.int .i64 g)).setCell ⟨wN.heap.size, 1, none⟩ (.slice a9 ns.length c9), (some ((.slice a9 ns.length c9), ns), some (wN.heap.size, [.int .i64 g, (.slice a9 ns.length c9)])), .inr ⟨by simp [go_sem, Act.put, k0, k1, f0, f1], rfl⟩, Lib.hid ((he.out.put 0 _).put 1 _), ?_⟩
              clear he kb k0 k1 f0 f1
              exact ⟨by kernel_rfl, ⟨wm.heap.size, (.slice a9 ns.length c9), wN.heap.size⟩, rfl, by kernel_rfl⟩
            · skip
              refine hOp_special (d := some 6) rfl rfl rfl (by kernel_rfl) fun wN hc => ⟨.pointer (some ⟨wN.heap.size, 0, none⟩), wN.alloc (.cells #[.int .i64 0, .slice none 0 0] 29), (some (.slice (some ⟨wm.heap.size, 0, none⟩) 0 0, []), some (wN.heap.size, [.int .i64 0, .slice none 0 0])), by kernel_rfl, Lib.hid (hc.out.made [.int .i64 0, .slice none 0 0] _), ?_⟩
              clear hc
              refine wpAnyH_appN (i := 5) (v := .slice (some ⟨wm.heap.size, 0, none⟩) 0 0) (u := .slice a n c) (ns := ns) (B := w1.heap.size) (.tmp 16) (.tmp 18) (d := some 19) rfl (by kernel_rfl) rfl rfl (by kernel_rfl) rfl rfl rfl HL.out fun wp hc => ⟨hc.out.ow _ _ rfl, H.out.on (Below.on B1.out hc.out.be), hc.out.be.size, fun v9 w9 ho hg hk => ⟨(some (v9, ns), some (wN.heap.size, [.int .i64 0, .slice none 0 0])), Lib.hid (hc.out.app ho hg hk), ?_⟩⟩
              obtain ⟨a9, c9, e9⟩ := OwnN.form ho
              subst e9
              clear hc ho hg hk
              refine wpAnyH_take (i := 6) (d := some 20) (.agg #[.int .i64 g, (.slice a9 ns.length c9)]) rfl (by kernel_rfl) rfl rfl (by kernel_rfl) (by kernel_rfl) (by kernel_rfl) (fun _ => by kernel_rfl) ?_
              refine wpAnyH_special (i := 8) (d := none) rfl (by kernel_rfl) rfl rfl (by kernel_rfl) fun we he => ?_
              have kb := (he.out.bx _ _ rfl).2
              have k0 := kb.cell 0; have f0 := kb.frozen 0
              have k1 := kb.cell 1; have f1 := kb.frozen 1
              simp at k0 k1
              refine ⟨undef, (we.setCell ⟨wN.heap.size, 0, none⟩ (.int .i64 g)).setCell ⟨wN.heap.size, 1, none⟩ (.slice a9 ns.length c9), (some ((.slice a9 ns.length c9), ns), some (wN.heap.size, [.int .i64 g, (.slice a9 ns.length c9)])), .inr ⟨by simp [go_sem, Act.put, k0, k1, f0, f1], rfl⟩, Lib.hid ((he.out.put 0 _).put 1 _), ?_⟩
              clear he kb k0 k1 f0 f1
              exact ⟨by kernel_rfl, ⟨wm.heap.size, (.slice a9 ns.length c9), wN.heap.size⟩, rfl, by kernel_rfl⟩
          · skip
            refine hOp_special (d := some 6) rfl rfl rfl (by kernel_rfl) fun wN hc => ⟨.pointer (some ⟨wN.heap.size, 0, none⟩), wN.alloc (.cells #[.int .i64 0, .slice none 0 0] 29), (none, some (wN.heap.size, [.int .i64 0, .slice none 0 0])), by kernel_rfl, Lib.hid (hc.out.made [.int .i64 0, .slice none 0 0] _), ?_⟩
            clear hc
            refine wpAnyH_special (i := 2) (d := some 16) rfl (by kernel_rfl) rfl rfl (by kernel_rfl) fun wm hc => ⟨.slice (some ⟨wm.heap.size, 0, none⟩) 0 0, wm.alloc (.cells #[] 47), (some (.slice (some ⟨wm.heap.size, 0, none⟩) 0 0, []), some (wN.heap.size, [.int .i64 0, .slice none 0 0])), .inl (by kernel_rfl), Lib.hid hc.out.build, ?_⟩
            clear hc
            refine wpAnyH_appN (i := 5) (v := .slice (some ⟨wm.heap.size, 0, none⟩) 0 0) (u := .slice a n c) (ns := ns) (B := w1.heap.size) (.tmp 16) (.tmp 18) (d := some 19) rfl (by kernel_rfl) rfl rfl (by kernel_rfl) rfl rfl rfl HL.out fun wp hc => ⟨hc.out.ow _ _ rfl, H.out.on (Below.on B1.out hc.out.be), hc.out.be.size, fun v9 w9 ho hg hk => ⟨(some (v9, ns), some (wN.heap.size, [.int .i64 0, .slice none 0 0])), Lib.hid (hc.out.app ho hg hk), ?_⟩⟩
            obtain ⟨a9, c9, e9⟩ := OwnN.form ho
            subst e9
            clear hc ho hg hk
            refine wpAnyH_take (i := 6) (d := some 20) (.agg #[.int .i64 g, (.slice a9 ns.length c9)]) rfl (by kernel_rfl) rfl rfl (by kernel_rfl) (by kernel_rfl) (by kernel_rfl) (fun _ => by kernel_rfl) ?_
            refine wpAnyH_special (i := 8) (d := none) rfl (by kernel_rfl) rfl rfl (by kernel_rfl) fun we he => ?_
            have kb := (he.out.bx _ _ rfl).2
            have k0 := kb.cell 0; have f0 := kb.frozen 0
            have k1 := kb.cell 1; have f1 := kb.frozen 1
            simp at k0 k1
            refine ⟨undef, (we.setCell ⟨wN.heap.size, 0, none⟩ (.int .i64 g)).setCell ⟨wN.heap.size, 1, none⟩ (.slice a9 ns.length c9), (some ((.slice a9 ns.length c9), ns), some (wN.heap.size, [.int .i64 g, (.slice a9 ns.length c9)])), .inr ⟨by simp [go_sem, Act.put, k0, k1, f0, f1], rfl⟩, Lib.hid ((he.out.put 0 _).put 1 _), ?_⟩
            clear he kb k0 k1 f0 f1
            exact ⟨by kernel_rfl, ⟨wm.heap.size, (.slice a9 ns.length c9), wN.heap.size⟩, rfl, by kernel_rfl⟩
        · skip
          rintro ⟨m0, u, N⟩ w3 hz
          dsimp only at hz ⊢
          simp only [Act.put, List.setIfInBounds_toArray, List.set_cons_zero, List.set_cons_succ]
          have zb := hz.out.be
          obtain ⟨hN, zx⟩ := hz.out.bx _ _ rfl
          have zo := hz.out.ow _ _ rfl
          have za := hz.out.ap _ _ _ _ rfl rfl
          have zs := B1.out.size
          have x0 := X0.out.lt
          have x1 := X1.out.lt
          have x2 := X2.out.lt
          have S3 : Hid (Bd w [(N, [.int .i64 g, u]), (w.heap.size + 1 + 1, [.int .i64 0, .slice none 0 0]), (w.heap.size + 1, [.int .i64 k, .int .i64 q, .string t]), (w.heap.size, [.int .i64 g, .slice a n c])] u ns w3) := Lib.hid ⟨Below.on B1.out zb, all_cons ⟨Nat.le_trans zs hN, zx⟩ (all_cons ⟨(by show w.heap.size ≤ w.heap.size + 1 + 1; omega), X2.out.on zb⟩ (all_cons ⟨(by show w.heap.size ≤ w.heap.size + 1; omega), X1.out.on zb⟩ (all_cons ⟨Nat.le_refl _, X0.out.on zb⟩ all_nil))), row5_lower zo zs, all_cons za (all_cons (fun e => by have := (zo.lt _ e).1; omega) (all_cons (fun e => by have := (zo.lt _ e).1; omega) (all_cons (fun e => by have := (zo.lt _ e).1; omega) all_nil)))⟩
          have HN : Hid (w.heap.size + 1 + 1 < N ∧ N < w3.heap.size) := Lib.hid ⟨by omega, zx.lt⟩
          have US := OwnN.form zo
          rw [HNL.out] at US
          obtain ⟨ua, uc, hu⟩ := US
          subst hu
          clear hz zb hN zx zo za zs x0 x1 x2 X0 X1 X2 B1
          have d1 := (S3.out.bx _ (.tail _ (.tail _ (.head _)))).2.cell 1
          simp at d1
          go_upto_region 5 with (fail)
          clear d1
          obtain ⟨w4, hw4⟩ : ∃ z, z = w3.alloc (.cells #[.int .i64 q, .int .i64 (-1), .int .i64 0, .int .i64 0, .int .i64 0] 47) := ⟨_, rfl⟩
          have S4 : Hid (Bd w [(w3.heap.size, [.int .i64 q, .int .i64 (-1), .int .i64 0, .int .i64 0, .int .i64 0]), (N, [.int .i64 g, .slice ua n uc]), (w.heap.size + 1 + 1, [.int .i64 0, .slice none 0 0]), (w.heap.size + 1, [.int .i64 k, .int .i64 q, .string t]), (w.heap.size, [.int .i64 g, .slice a n c])] (.slice ua n uc) ns w4) := Lib.hid (by rw [hw4]; exact S3.out.made [.int .i64 q, .int .i64 (-1), .int .i64 0, .int .i64 0, .int .i64 0] _)
          rw [← hw4]
          clear hw4 S3
          have d0 := (S4.out.bx _ (.tail _ (.tail _ (.tail _ (.head _))))).2.cell 0
          have d1 := (S4.out.bx _ (.tail _ (.tail _ (.tail _ (.head _))))).2.cell 1
          have d2 := (S4.out.bx _ (.tail _ (.tail _ (.tail _ (.head _))))).2.cell 2
          have p0 := (S4.out.bx _ (.tail _ (.tail _ (.tail _ (.tail _ (.head _)))))).2.cell 0
          have p1 := (S4.out.bx _ (.tail _ (.tail _ (.tail _ (.tail _ (.head _)))))).2.cell 1
          simp at d0 d1 d2 p0 p1
          go_upto_region 8 with (fail)
          clear p0 p1
          go_upto_region 13 with (fail)
          go_upto_region 14 with (fail)
          clear d0 d1 d2
          have n0 := (S4.out.bx _ (.tail _ (.head _))).2.cell 0
          have n1 := (S4.out.bx _ (.tail _ (.head _))).2.cell 1
          have r0 := (S4.out.bx _ (.tail _ (.tail _ (.head _)))).2.cell 0
          have r1 := (S4.out.bx _ (.tail _ (.tail _ (.head _)))).2.cell 1
          simp at n0 n1 r0 r1
          have f0 := (S4.out.bx _ (.tail _ (.tail _ (.head _)))).2.frozen 0
          have f1 := (S4.out.bx _ (.tail _ (.tail _ (.head _)))).2.frozen 1
          have hNr := HN.out.1
          go_wp2
          refine bodyPost_ret (v := .tuple #[.agg #[.int .i64 g, .slice ua n uc], .bool false]) ?_ rfl ⟨_, rfl, ?_, ?_⟩
          · simp [results, Tryd.results68, go_sem, r0, r1]
          · refine row5_heap S4.out.ow fun k hk => ?_
            have hne := S4.out.ap _ (.tail _ (.tail _ (.head _)))
            rw [Below.heap_setCell _ _ _ _ (by show k ≠ w.heap.size + 1 + 1; intro e; subst e; exact hne hk), Below.heap_setCell _ _ _ _ (by show k ≠ w.heap.size + 1 + 1; intro e; subst e; exact hne hk)]
          · exact (S4.out.be.setCell (by show w.heap.size ≤ w.heap.size + 1 + 1; omega) _).setCell (by show w.heap.size ≤ w.heap.size + 1 + 1; omega) _
    · have hn0 : n = 0 := by rw [hd] at hk'; simpa using hk'
      subst hn0
      clear hk' h2
      have W3 := bx3 (w := w) [.int .i64 g, .slice a 0 c] [.int .i64 k, .int .i64 q, .string t] [.int .i64 0, .slice none 0 0] 29 87 29
      obtain ⟨W, hWe, hWs, hW, b0, b1, b2⟩ := W3.out
      have HW := Lib.hid hW
      have HS := Lib.hid hWs
      have HWE := Lib.hid hWe
      have Y0 := Lib.hid b0
      have Y1 := Lib.hid b1
      have Y2 := Lib.hid b2
      clear W3 hWe hWs hW b0 b1 b2
      go_enter Tryd.func68, Tryd.ntmps68
      go_wp2_with fail
      rw [← HWE.out]
      refine (sbrd_any g _ ns _ (H.out.on HW.out) HL.out).mono ?_
      rintro e w1 ⟨rfl, hb1⟩
      rw [HB.out]
      have X0 := Lib.hid (Y0.out.on hb1)
      have X1 := Lib.hid (Y1.out.on hb1)
      have X2 := Lib.hid (Y2.out.on hb1)
      have B1 := Lib.hid (HW.out.trans (hb1.mono HW.out.size))
      clear hb1 Y0 Y1 Y2
      go_wp2_with fail
      apply wp_region_H (Z := Option (Value × List Nt) × Option (Nat × List Value)) (S := fun k => k == 2 || k == 5 || k == 7 || k == 8) (C := fun z w' => Hid (Zc w1 z.1 z.2 w')) [0, 1, 3, 4] (none, none)
      · kernel_rfl
      · kernel_rfl
      · kernel_rfl
      · exact ⟨rfl, rfl, rfl, rfl, trivial⟩
      · rfl
      · decide
      · exact Lib.hid (Zc.start (Below.refl _ _).drew)
      · intro z
        dsimp only [pickL, nthO]
        go_big_quiet_want; go_big_quiet_op; first | go_big_quiet_on | (refine ⟨_, fun _ _ => rfl, ?_⟩; go_big_quiet_on)
        go_big_quiet_want
        go_big_quiet_op
        refine ⟨.int .i64 g, fun w' hw' => ?_, ?_⟩
        · have q := (X0.out.on hw'.out.be).cell 0
          simp at q
          simp [go_sem, q]
        go_big_quiet_on
        go_big_quiet_want; go_big_quiet_op; first | go_big_quiet_on | (refine ⟨_, fun _ _ => rfl, ?_⟩; go_big_quiet_on)
        go_big_quiet_want
        go_big_quiet_op
        refine ⟨.slice a 0 c, fun w' hw' => ?_, ?_⟩
        · have q := (X0.out.on hw'.out.be).cell 1
          simp at q
          simp [go_sem, q]
        go_big_quiet_on
        exact wpQuiet_nil rfl
      · skip
        refine wpAnyH_key (D := Nat × Value × Nat) (fun d => (some (d.2.1, ns), some (d.2.2, [.int .i64 g, d.2.1]))) (fun d a => ((((a.put (some 16) (.slice (some ⟨d.1, 0, none⟩) 0 0)).put (some 19) (d.2.1)).put (some 20) (.agg #[.int .i64 g, d.2.1])).put (some 6) (.pointer (some ⟨d.2.2, 0, none⟩)))) ?_ ?_
        · skip
          refine wpAnyH_two 2 7 (by kernel_rfl) ?_ ?_
          · skip
            refine hOp_special (d := some 16) rfl rfl rfl (by kernel_rfl) fun wm hc => ⟨.slice (some ⟨wm.heap.size, 0, none⟩) 0 0, wm.alloc (.cells #[] 47), (some (.slice (some ⟨wm.heap.size, 0, none⟩) 0 0, []), none), by kernel_rfl, Lib.hid hc.out.build, ?_⟩
            clear hc
            refine wpAnyH_two 5 7 (by kernel_rfl) ?_ ?_
            · skip
              refine hOp_appN (v := .slice (some ⟨wm.heap.size, 0, none⟩) 0 0) (u := .slice a 0 c) (ns := ns) (B := w1.heap.size) (.tmp 16) (.tmp 18) (d := some 19) rfl rfl rfl (by kernel_rfl) rfl rfl rfl HL.out fun wp hc => ⟨hc.out.ow _ _ rfl, H.out.on (Below.on B1.out hc.out.be), hc.out.be.size, fun v9 w9 ho hg hk => ⟨(some (v9, ns), none), Lib.hid (hc.out.app ho hg hk), ?_⟩⟩
              obtain ⟨a9, c9, e9⟩ := OwnN.form ho
              subst e9
              clear hc ho hg hk
              refine wpAnyH_take (i := 6) (d := some 20) (.agg #[.int .i64 g, (.slice a9 ns.length c9)]) rfl (by kernel_rfl) rfl rfl (by kernel_rfl) (by kernel_rfl) (by kernel_rfl) (fun _ => by kernel_rfl) ?_
              refine wpAnyH_special (i := 7) (d := some 6) rfl (by kernel_rfl) rfl rfl (by kernel_rfl) fun wN hc => ⟨.pointer (some ⟨wN.heap.size, 0, none⟩), wN.alloc (.cells #[.int .i64 0, .slice none 0 0] 29), (some (.slice a9 ns.length c9, ns), some (wN.heap.size, [.int .i64 0, .slice none 0 0])), .inl (by kernel_rfl), Lib.hid (hc.out.made [.int .i64 0, .slice none 0 0] _), ?_⟩
              clear hc
              refine wpAnyH_special (i := 8) (d := none) rfl (by kernel_rfl) rfl rfl (by kernel_rfl) fun we he => ?_
              have kb := (he.out.bx _ _ rfl).2
              have k0 := kb.cell 0; have f0 := kb.frozen 0
              have k1 := kb.cell 1; have f1 := kb.frozen 1
              simp at k0 k1
              refine ⟨undef, (we.setCell ⟨wN.heap.size, 0, none⟩ (.int .i64 g)).setCell ⟨wN.heap.size, 1, none⟩ (.slice a9 ns.length c9), (some ((.slice a9 ns.length c9), ns), some (wN.heap.size, [.int .i64 g, (.slice a9 ns.length c9)])), .inr ⟨by simp [go_sem, Act.put, k0, k1, f0, f1], rfl⟩, Lib.hid ((he.out.put 0 _).put 1 _), ?_⟩
              clear he kb k0 k1 f0 f1
              exact ⟨by kernel_rfl, ⟨wm.heap.size, (.slice a9 ns.length c9), wN.heap.size⟩, rfl, by kernel_rfl⟩
            · skip
              refine hOp_special (d := some 6) rfl rfl rfl (by kernel_rfl) fun wN hc => ⟨.pointer (some ⟨wN.heap.size, 0, none⟩), wN.alloc (.cells #[.int .i64 0, .slice none 0 0] 29), (some (.slice (some ⟨wm.heap.size, 0, none⟩) 0 0, []), some (wN.heap.size, [.int .i64 0, .slice none 0 0])), by kernel_rfl, Lib.hid (hc.out.made [.int .i64 0, .slice none 0 0] _), ?_⟩
              clear hc
              refine wpAnyH_appN (i := 5) (v := .slice (some ⟨wm.heap.size, 0, none⟩) 0 0) (u := .slice a 0 c) (ns := ns) (B := w1.heap.size) (.tmp 16) (.tmp 18) (d := some 19) rfl (by kernel_rfl) rfl rfl (by kernel_rfl) rfl rfl rfl HL.out fun wp hc => ⟨hc.out.ow _ _ rfl, H.out.on (Below.on B1.out hc.out.be), hc.out.be.size, fun v9 w9 ho hg hk => ⟨(some (v9, ns), some (wN.heap.size, [.int .i64 0, .slice none 0 0])), Lib.hid (hc.out.app ho hg hk), ?_⟩⟩
              obtain ⟨a9, c9, e9⟩ := OwnN.form ho
              subst e9
              clear hc ho hg hk
              refine wpAnyH_take (i := 6) (d := some 20) (.agg #[.int .i64 g, (.slice a9 ns.length c9)]) rfl (by kernel_rfl) rfl rfl (by kernel_rfl) (by kernel_rfl) (by kernel_rfl) (fun _ => by kernel_rfl) ?_
              refine wpAnyH_special (i := 8) (d := none) rfl (by kernel_rfl) rfl rfl (by kernel_rfl) fun we he => ?_
              have kb := (he.out.bx _ _ rfl).2
              have k0 := kb.cell 0; have f0 := kb.frozen 0
              have k1 := kb.cell 1; have f1 := kb.frozen 1
              simp at k0 k1
              refine ⟨undef, (we.setCell ⟨wN.heap.size, 0, none⟩ (.int .i64 g)).setCell ⟨wN.heap.size, 1, none⟩ (.slice a9 ns.length c9), (some ((.slice a9 ns.length c9), ns), some (wN.heap.size, [.int .i64 g, (.slice a9 ns.length c9)])), .inr ⟨by simp [go_sem, Act.put, k0, k1, f0, f1], rfl⟩, Lib.hid ((he.out.put 0 _).put 1 _), ?_⟩
              clear he kb k0 k1 f0 f1
              exact ⟨by kernel_rfl, ⟨wm.heap.size, (.slice a9 ns.length c9), wN.heap.size⟩, rfl, by kernel_rfl⟩
          · skip
            refine hOp_special (d := some 6) rfl rfl rfl (by kernel_rfl) fun wN hc => ⟨.pointer (some ⟨wN.heap.size, 0, none⟩), wN.alloc (.cells #[.int .i64 0, .slice none 0 0] 29), (none, some (wN.heap.size, [.int .i64 0, .slice none 0 0])), by kernel_rfl, Lib.hid (hc.out.made [.int .i64 0, .slice none 0 0] _), ?_⟩
            clear hc
            refine wpAnyH_special (i := 2) (d := some 16) rfl (by kernel_rfl) rfl rfl (by kernel_rfl) fun wm hc => ⟨.slice (some ⟨wm.heap.size, 0, none⟩) 0 0, wm.alloc (.cells #[] 47), (some (.slice (some ⟨wm.heap.size, 0, none⟩) 0 0, []), some (wN.heap.size, [.int .i64 0, .slice none 0 0])), .inl (by kernel_rfl), Lib.hid hc.out.build, ?_⟩
            clear hc
            refine wpAnyH_appN (i := 5) (v := .slice (some ⟨wm.heap.size, 0, none⟩) 0 0) (u := .slice a 0 c) (ns := ns) (B := w1.heap.size) (.tmp 16) (.tmp 18) (d := some 19) rfl (by kernel_rfl) rfl rfl (by kernel_rfl) rfl rfl rfl HL.out fun wp hc => ⟨hc.out.ow _ _ rfl, H.out.on (Below.on B1.out hc.out.be), hc.out.be.size, fun v9 w9 ho hg hk => ⟨(some (v9, ns), some (wN.heap.size, [.int .i64 0, .slice none 0 0])), Lib.hid (hc.out.app ho hg hk), ?_⟩⟩
            obtain ⟨a9, c9, e9⟩ := OwnN.form ho
            subst e9
            clear hc ho hg hk
            refine wpAnyH_take (i := 6) (d := some 20) (.agg #[.int .i64 g, (.slice a9 ns.length c9)]) rfl (by kernel_rfl) rfl rfl (by kernel_rfl) (by kernel_rfl) (by kernel_rfl) (fun _ => by kernel_rfl) ?_
            refine wpAnyH_special (i := 8) (d := none) rfl (by kernel_rfl) rfl rfl (by kernel_rfl) fun we he => ?_
            have kb := (he.out.bx _ _ rfl).2
            have k0 := kb.cell 0; have f0 := kb.frozen 0
            have k1 := kb.cell 1; have f1 := kb.frozen 1
            simp at k0 k1
            refine ⟨undef, (we.setCell ⟨wN.heap.size, 0, none⟩ (.int .i64 g)).setCell ⟨wN.heap.size, 1, none⟩ (.slice a9 ns.length c9), (some ((.slice a9 ns.length c9), ns), some (wN.heap.size, [.int .i64 g, (.slice a9 ns.length c9)])), .inr ⟨by simp [go_sem, Act.put, k0, k1, f0, f1], rfl⟩, Lib.hid ((he.out.put 0 _).put 1 _), ?_⟩
            clear he kb k0 k1 f0 f1
            exact ⟨by kernel_rfl, ⟨wm.heap.size, (.slice a9 ns.length c9), wN.heap.size⟩, rfl, by kernel_rfl⟩
        · skip
          rintro ⟨m0, u, N⟩ w3 hz
          dsimp only at hz ⊢
          simp only [Act.put, List.setIfInBounds_toArray, List.set_cons_zero, List.set_cons_succ]
          have zb := hz.out.be
          obtain ⟨hN, zx⟩ := hz.out.bx _ _ rfl
          have zo := hz.out.ow _ _ rfl
          have za := hz.out.ap _ _ _ _ rfl rfl
          have zs := B1.out.size
          have x0 := X0.out.lt
          have x1 := X1.out.lt
          have x2 := X2.out.lt
          have S3 : Hid (Bd w [(N, [.int .i64 g, u]), (w.heap.size + 1 + 1, [.int .i64 0, .slice none 0 0]), (w.heap.size + 1, [.int .i64 k, .int .i64 q, .string t]), (w.heap.size, [.int .i64 g, .slice a 0 c])] u ns w3) := Lib.hid ⟨Below.on B1.out zb, all_cons ⟨Nat.le_trans zs hN, zx⟩ (all_cons ⟨(by show w.heap.size ≤ w.heap.size + 1 + 1; omega), X2.out.on zb⟩ (all_cons ⟨(by show w.heap.size ≤ w.heap.size + 1; omega), X1.out.on zb⟩ (all_cons ⟨Nat.le_refl _, X0.out.on zb⟩ all_nil))), row5_lower zo zs, all_cons za (all_cons (fun e => by have := (zo.lt _ e).1; omega) (all_cons (fun e => by have := (zo.lt _ e).1; omega) (all_cons (fun e => by have := (zo.lt _ e).1; omega) all_nil)))⟩
          have HN : Hid (w.heap.size + 1 + 1 < N ∧ N < w3.heap.size) := Lib.hid ⟨by omega, zx.lt⟩
          have US := OwnN.form zo
          rw [HNL.out] at US
          obtain ⟨ua, uc, hu⟩ := US
          subst hu
          clear hz zb hN zx zo za zs x0 x1 x2 X0 X1 X2 B1
          have d1 := (S3.out.bx _ (.tail _ (.tail _ (.head _)))).2.cell 1
          simp at d1
          go_upto_region 5 with (fail)
          clear d1
          obtain ⟨w4, hw4⟩ : ∃ z, z = w3.alloc (.cells #[.int .i64 q, .int .i64 (-1), .int .i64 0, .int .i64 0, .int .i64 0] 47) := ⟨_, rfl⟩
          have S4 : Hid (Bd w [(w3.heap.size, [.int .i64 q, .int .i64 (-1), .int .i64 0, .int .i64 0, .int .i64 0]), (N, [.int .i64 g, .slice ua 0 uc]), (w.heap.size + 1 + 1, [.int .i64 0, .slice none 0 0]), (w.heap.size + 1, [.int .i64 k, .int .i64 q, .string t]), (w.heap.size, [.int .i64 g, .slice a 0 c])] (.slice ua 0 uc) ns w4) := Lib.hid (by rw [hw4]; exact S3.out.made [.int .i64 q, .int .i64 (-1), .int .i64 0, .int .i64 0, .int .i64 0] _)
          rw [← hw4]
          clear hw4 S3
          have d0 := (S4.out.bx _ (.tail _ (.tail _ (.tail _ (.head _))))).2.cell 0
          have d1 := (S4.out.bx _ (.tail _ (.tail _ (.tail _ (.head _))))).2.cell 1
          have d2 := (S4.out.bx _ (.tail _ (.tail _ (.tail _ (.head _))))).2.cell 2
          have p0 := (S4.out.bx _ (.tail _ (.tail _ (.tail _ (.tail _ (.head _)))))).2.cell 0
          have p1 := (S4.out.bx _ (.tail _ (.tail _ (.tail _ (.tail _ (.head _)))))).2.cell 1
          simp at d0 d1 d2 p0 p1
          go_upto_region 8 with (fail)
          clear p0 p1
          go_upto_region 13 with (fail)
          go_upto_region 14 with (fail)
          clear d0 d1 d2
          have n0 := (S4.out.bx _ (.tail _ (.head _))).2.cell 0
          have n1 := (S4.out.bx _ (.tail _ (.head _))).2.cell 1
          have r0 := (S4.out.bx _ (.tail _ (.tail _ (.head _)))).2.cell 0
          have r1 := (S4.out.bx _ (.tail _ (.tail _ (.head _)))).2.cell 1
          simp at n0 n1 r0 r1
          have f0 := (S4.out.bx _ (.tail _ (.tail _ (.head _)))).2.frozen 0
          have f1 := (S4.out.bx _ (.tail _ (.tail _ (.head _)))).2.frozen 1
          have hNr := HN.out.1
          go_wp2
          refine bodyPost_ret (v := .tuple #[.agg #[.int .i64 g, .slice ua 0 uc], .bool false]) ?_ rfl ⟨_, rfl, ?_, ?_⟩
          · simp [results, Tryd.results68, go_sem, r0, r1]
          · refine row5_heap S4.out.ow fun k hk => ?_
            have hne := S4.out.ap _ (.tail _ (.tail _ (.head _)))
            rw [Below.heap_setCell _ _ _ _ (by show k ≠ w.heap.size + 1 + 1; intro e; subst e; exact hne hk), Below.heap_setCell _ _ _ _ (by show k ≠ w.heap.size + 1 + 1; intro e; subst e; exact hne hk)]
          · exact (S4.out.be.setCell (by show w.heap.size ≤ w.heap.size + 1 + 1; omega) _).setCell (by show w.heap.size ≤ w.heap.size + 1 + 1; omega) _
  · have k2 : (k == 2) = false := by simp [h2]
    clear hk' h2
    have W3 := bx3 (w := w) [.int .i64 g, .slice a n c] [.int .i64 k, .int .i64 q, .string t] [.int .i64 0, .slice none 0 0] 29 87 29
    obtain ⟨W, hWe, hWs, hW, b0, b1, b2⟩ := W3.out
    have HW := Lib.hid hW
    have HS := Lib.hid hWs
    have HWE := Lib.hid hWe
    have Y0 := Lib.hid b0
    have Y1 := Lib.hid b1
    have Y2 := Lib.hid b2
    clear W3 hWe hWs hW b0 b1 b2
    go_enter Tryd.func68, Tryd.ntmps68
    go_wp2_with fail
    rw [← HWE.out]
    refine (sbrd_any g _ ns _ (H.out.on HW.out) HL.out).mono ?_
    rintro e w1 ⟨rfl, hb1⟩
    rw [HB.out]
    have X0 := Lib.hid (Y0.out.on hb1)
    have X1 := Lib.hid (Y1.out.on hb1)
    have X2 := Lib.hid (Y2.out.on hb1)
    have B1 := Lib.hid (HW.out.trans (hb1.mono HW.out.size))
    clear hb1 Y0 Y1 Y2
    go_wp2_with fail
    apply wp_region_H (Z := Option (Value × List Nt) × Option (Nat × List Value)) (S := fun k => k == 2 || k == 5 || k == 7 || k == 8) (C := fun z w' => Hid (Zc w1 z.1 z.2 w')) [0, 1, 3, 4] (none, none)
    · kernel_rfl
    · kernel_rfl
    · kernel_rfl
    · exact ⟨rfl, rfl, rfl, rfl, trivial⟩
    · rfl
    · decide
    · exact Lib.hid (Zc.start (Below.refl _ _).drew)
    · intro z
      dsimp only [pickL, nthO]
      go_big_quiet_want; go_big_quiet_op; first | go_big_quiet_on | (refine ⟨_, fun _ _ => rfl, ?_⟩; go_big_quiet_on)
      go_big_quiet_want
      go_big_quiet_op
      refine ⟨.int .i64 g, fun w' hw' => ?_, ?_⟩
      · have q := (X0.out.on hw'.out.be).cell 0
        simp at q
        simp [go_sem, q]
      go_big_quiet_on
      go_big_quiet_want; go_big_quiet_op; first | go_big_quiet_on | (refine ⟨_, fun _ _ => rfl, ?_⟩; go_big_quiet_on)
      go_big_quiet_want
      go_big_quiet_op
      refine ⟨.slice a n c, fun w' hw' => ?_, ?_⟩
      · have q := (X0.out.on hw'.out.be).cell 1
        simp at q
        simp [go_sem, q]
      go_big_quiet_on
      exact wpQuiet_nil rfl
    · skip
      refine wpAnyH_key (D := Nat × Value × Nat) (fun d => (some (d.2.1, ns), some (d.2.2, [.int .i64 g, d.2.1]))) (fun d a => ((((a.put (some 16) (.slice (some ⟨d.1, 0, none⟩) 0 0)).put (some 19) (d.2.1)).put (some 20) (.agg #[.int .i64 g, d.2.1])).put (some 6) (.pointer (some ⟨d.2.2, 0, none⟩)))) ?_ ?_
      · skip
        refine wpAnyH_two 2 7 (by kernel_rfl) ?_ ?_
        · skip
          refine hOp_special (d := some 16) rfl rfl rfl (by kernel_rfl) fun wm hc => ⟨.slice (some ⟨wm.heap.size, 0, none⟩) 0 0, wm.alloc (.cells #[] 47), (some (.slice (some ⟨wm.heap.size, 0, none⟩) 0 0, []), none), by kernel_rfl, Lib.hid hc.out.build, ?_⟩
          clear hc
          refine wpAnyH_two 5 7 (by kernel_rfl) ?_ ?_
          · skip
            refine hOp_appN (v := .slice (some ⟨wm.heap.size, 0, none⟩) 0 0) (u := .slice a n c) (ns := ns) (B := w1.heap.size) (.tmp 16) (.tmp 18) (d := some 19) rfl rfl rfl (by kernel_rfl) rfl rfl rfl HL.out fun wp hc => ⟨hc.out.ow _ _ rfl, H.out.on (Below.on B1.out hc.out.be), hc.out.be.size, fun v9 w9 ho hg hk => ⟨(some (v9, ns), none), Lib.hid (hc.out.app ho hg hk), ?_⟩⟩
            obtain ⟨a9, c9, e9⟩ := OwnN.form ho
            subst e9
            clear hc ho hg hk
            refine wpAnyH_take (i := 6) (d := some 20) (.agg #[.int .i64 g, (.slice a9 ns.length c9)]) rfl (by kernel_rfl) rfl rfl (by kernel_rfl) (by kernel_rfl) (by kernel_rfl) (fun _ => by kernel_rfl) ?_
            refine wpAnyH_special (i := 7) (d := some 6) rfl (by kernel_rfl) rfl rfl (by kernel_rfl) fun wN hc => ⟨.pointer (some ⟨wN.heap.size, 0, none⟩), wN.alloc (.cells #[.int .i64 0, .slice none 0 0] 29), (some (.slice a9 ns.length c9, ns), some (wN.heap.size, [.int .i64 0, .slice none 0 0])), .inl (by kernel_rfl), Lib.hid (hc.out.made [.int .i64 0, .slice none 0 0] _), ?_⟩
            clear hc
            refine wpAnyH_special (i := 8) (d := none) rfl (by kernel_rfl) rfl rfl (by kernel_rfl) fun we he => ?_
            have kb := (he.out.bx _ _ rfl).2
            have k0 := kb.cell 0; have f0 := kb.frozen 0
            have k1 := kb.cell 1; have f1 := kb.frozen 1
            simp at k0 k1
            refine ⟨undef, (we.setCell ⟨wN.heap.size, 0, none⟩ (.int .i64 g)).setCell ⟨wN.heap.size, 1, none⟩ (.slice a9 ns.length c9), (some ((.slice a9 ns.length c9), ns), some (wN.heap.size, [.int .i64 g, (.slice a9 ns.length c9)])), .inr ⟨by simp [go_sem, Act.put, k0, k1, f0, f1], rfl⟩, Lib.hid ((he.out.put 0 _).put 1 _), ?_⟩
            clear he kb k0 k1 f0 f1
            exact ⟨by kernel_rfl, ⟨wm.heap.size, (.slice a9 ns.length c9), wN.heap.size⟩, rfl, by kernel_rfl⟩
          · skip
            refine hOp_special (d := some 6) rfl rfl rfl (by kernel_rfl) fun wN hc => ⟨.pointer (some ⟨wN.heap.size, 0, none⟩), wN.alloc (.cells #[.int .i64 0, .slice none 0 0] 29), (some (.slice (some ⟨wm.heap.size, 0, none⟩) 0 0, []), some (wN.heap.size, [.int .i64 0, .slice none 0 0])), by kernel_rfl, Lib.hid (hc.out.made [.int .i64 0, .slice none 0 0] _), ?_⟩
            clear hc
            refine wpAnyH_appN (i := 5) (v := .slice (some ⟨wm.heap.size, 0, none⟩) 0 0) (u := .slice a n c) (ns := ns) (B := w1.heap.size) (.tmp 16) (.tmp 18) (d := some 19) rfl (by kernel_rfl) rfl rfl (by kernel_rfl) rfl rfl rfl HL.out fun wp hc => ⟨hc.out.ow _ _ rfl, H.out.on (Below.on B1.out hc.out.be), hc.out.be.size, fun v9 w9 ho hg hk => ⟨(some (v9, ns), some (wN.heap.size, [.int .i64 0, .slice none 0 0])), Lib.hid (hc.out.app ho hg hk), ?_⟩⟩
            obtain ⟨a9, c9, e9⟩ := OwnN.form ho
            subst e9
            clear hc ho hg hk
            refine wpAnyH_take (i := 6) (d := some 20) (.agg #[.int .i64 g, (.slice a9 ns.length c9)]) rfl (by kernel_rfl) rfl rfl (by kernel_rfl) (by kernel_rfl) (by kernel_rfl) (fun _ => by kernel_rfl) ?_
            refine wpAnyH_special (i := 8) (d := none) rfl (by kernel_rfl) rfl rfl (by kernel_rfl) fun we he => ?_
            have kb := (he.out.bx _ _ rfl).2
            have k0 := kb.cell 0; have f0 := kb.frozen 0
            have k1 := kb.cell 1; have f1 := kb.frozen 1
            simp at k0 k1
            refine ⟨undef, (we.setCell ⟨wN.heap.size, 0, none⟩ (.int .i64 g)).setCell ⟨wN.heap.size, 1, none⟩ (.slice a9 ns.length c9), (some ((.slice a9 ns.length c9), ns), some (wN.heap.size, [.int .i64 g, (.slice a9 ns.length c9)])), .inr ⟨by simp [go_sem, Act.put, k0, k1, f0, f1], rfl⟩, Lib.hid ((he.out.put 0 _).put 1 _), ?_⟩
            clear he kb k0 k1 f0 f1
            exact ⟨by kernel_rfl, ⟨wm.heap.size, (.slice a9 ns.length c9), wN.heap.size⟩, rfl, by kernel_rfl⟩
        · skip
          refine hOp_special (d := some 6) rfl rfl rfl (by kernel_rfl) fun wN hc => ⟨.pointer (some ⟨wN.heap.size, 0, none⟩), wN.alloc (.cells #[.int .i64 0, .slice none 0 0] 29), (none, some (wN.heap.size, [.int .i64 0, .slice none 0 0])), by kernel_rfl, Lib.hid (hc.out.made [.int .i64 0, .slice none 0 0] _), ?_⟩
          clear hc
          refine wpAnyH_special (i := 2) (d := some 16) rfl (by kernel_rfl) rfl rfl (by kernel_rfl) fun wm hc => ⟨.slice (some ⟨wm.heap.size, 0, none⟩) 0 0, wm.alloc (.cells #[] 47), (some (.slice (some ⟨wm.heap.size, 0, none⟩) 0 0, []), some (wN.heap.size, [.int .i64 0, .slice none 0 0])), .inl (by kernel_rfl), Lib.hid hc.out.build, ?_⟩
          clear hc
          refine wpAnyH_appN (i := 5) (v := .slice (some ⟨wm.heap.size, 0, none⟩) 0 0) (u := .slice a n c) (ns := ns) (B := w1.heap.size) (.tmp 16) (.tmp 18) (d := some 19) rfl (by kernel_rfl) rfl rfl (by kernel_rfl) rfl rfl rfl HL.out fun wp hc => ⟨hc.out.ow _ _ rfl, H.out.on (Below.on B1.out hc.out.be), hc.out.be.size, fun v9 w9 ho hg hk => ⟨(some (v9, ns), some (wN.heap.size, [.int .i64 0, .slice none 0 0])), Lib.hid (hc.out.app ho hg hk), ?_⟩⟩
          obtain ⟨a9, c9, e9⟩ := OwnN.form ho
          subst e9
          clear hc ho hg hk
          refine wpAnyH_take (i := 6) (d := some 20) (.agg #[.int .i64 g, (.slice a9 ns.length c9)]) rfl (by kernel_rfl) rfl rfl (by kernel_rfl) (by kernel_rfl) (by kernel_rfl) (fun _ => by kernel_rfl) ?_
          refine wpAnyH_special (i := 8) (d := none) rfl (by kernel_rfl) rfl rfl (by kernel_rfl) fun we he => ?_
          have kb := (he.out.bx _ _ rfl).2
          have k0 := kb.cell 0; have f0 := kb.frozen 0
          have k1 := kb.cell 1; have f1 := kb.frozen 1
          simp at k0 k1
          refine ⟨undef, (we.setCell ⟨wN.heap.size, 0, none⟩ (.int .i64 g)).setCell ⟨wN.heap.size, 1, none⟩ (.slice a9 ns.length c9), (some ((.slice a9 ns.length c9), ns), some (wN.heap.size, [.int .i64 g, (.slice a9 ns.length c9)])), .inr ⟨by simp [go_sem, Act.put, k0, k1, f0, f1], rfl⟩, Lib.hid ((he.out.put 0 _).put 1 _), ?_⟩
          clear he kb k0 k1 f0 f1
          exact ⟨by kernel_rfl, ⟨wm.heap.size, (.slice a9 ns.length c9), wN.heap.size⟩, rfl, by kernel_rfl⟩
      · skip
        rintro ⟨m0, u, N⟩ w3 hz
        dsimp only at hz ⊢
        simp only [Act.put, List.setIfInBounds_toArray, List.set_cons_zero, List.set_cons_succ]
        have zb := hz.out.be
        obtain ⟨hN, zx⟩ := hz.out.bx _ _ rfl
        have zo := hz.out.ow _ _ rfl
        have za := hz.out.ap _ _ _ _ rfl rfl
        have zs := B1.out.size
        have x0 := X0.out.lt
        have x1 := X1.out.lt
        have x2 := X2.out.lt
        have S3 : Hid (Bd w [(N, [.int .i64 g, u]), (w.heap.size + 1 + 1, [.int .i64 0, .slice none 0 0]), (w.heap.size + 1, [.int .i64 k, .int .i64 q, .string t]), (w.heap.size, [.int .i64 g, .slice a n c])] u ns w3) := Lib.hid ⟨Below.on B1.out zb, all_cons ⟨Nat.le_trans zs hN, zx⟩ (all_cons ⟨(by show w.heap.size ≤ w.heap.size + 1 + 1; omega), X2.out.on zb⟩ (all_cons ⟨(by show w.heap.size ≤ w.heap.size + 1; omega), X1.out.on zb⟩ (all_cons ⟨Nat.le_refl _, X0.out.on zb⟩ all_nil))), row5_lower zo zs, all_cons za (all_cons (fun e => by have := (zo.lt _ e).1; omega) (all_cons (fun e => by have := (zo.lt _ e).1; omega) (all_cons (fun e => by have := (zo.lt _ e).1; omega) all_nil)))⟩
        have HN : Hid (w.heap.size + 1 + 1 < N ∧ N < w3.heap.size) := Lib.hid ⟨by omega, zx.lt⟩
        have US := OwnN.form zo
        rw [HNL.out] at US
        obtain ⟨ua, uc, hu⟩ := US
        subst hu
        clear hz zb hN zx zo za zs x0 x1 x2 X0 X1 X2 B1
        have d1 := (S3.out.bx _ (.tail _ (.tail _ (.head _)))).2.cell 1
        simp at d1
        go_upto_region 5 with (fail)
        clear d1
        obtain ⟨w4, hw4⟩ : ∃ z, z = w3.alloc (.cells #[.int .i64 q, .int .i64 (-1), .int .i64 0, .int .i64 0, .int .i64 0] 47) := ⟨_, rfl⟩
        have S4 : Hid (Bd w [(w3.heap.size, [.int .i64 q, .int .i64 (-1), .int .i64 0, .int .i64 0, .int .i64 0]), (N, [.int .i64 g, .slice ua n uc]), (w.heap.size + 1 + 1, [.int .i64 0, .slice none 0 0]), (w.heap.size + 1, [.int .i64 k, .int .i64 q, .string t]), (w.heap.size, [.int .i64 g, .slice a n c])] (.slice ua n uc) ns w4) := Lib.hid (by rw [hw4]; exact S3.out.made [.int .i64 q, .int .i64 (-1), .int .i64 0, .int .i64 0, .int .i64 0] _)
        rw [← hw4]
        clear hw4 S3
        have d0 := (S4.out.bx _ (.tail _ (.tail _ (.tail _ (.head _))))).2.cell 0
        have d1 := (S4.out.bx _ (.tail _ (.tail _ (.tail _ (.head _))))).2.cell 1
        have d2 := (S4.out.bx _ (.tail _ (.tail _ (.tail _ (.head _))))).2.cell 2
        have p0 := (S4.out.bx _ (.tail _ (.tail _ (.tail _ (.tail _ (.head _)))))).2.cell 0
        have p1 := (S4.out.bx _ (.tail _ (.tail _ (.tail _ (.tail _ (.head _)))))).2.cell 1
        simp at d0 d1 d2 p0 p1
        go_upto_region 8 with (fail)
        clear p0 p1
        go_upto_region 13 with (fail)
        go_upto_region 14 with (fail)
        clear d0 d1 d2
        have n0 := (S4.out.bx _ (.tail _ (.head _))).2.cell 0
        have n1 := (S4.out.bx _ (.tail _ (.head _))).2.cell 1
        have r0 := (S4.out.bx _ (.tail _ (.tail _ (.head _)))).2.cell 0
        have r1 := (S4.out.bx _ (.tail _ (.tail _ (.head _)))).2.cell 1
        simp at n0 n1 r0 r1
        have f0 := (S4.out.bx _ (.tail _ (.tail _ (.head _)))).2.frozen 0
        have f1 := (S4.out.bx _ (.tail _ (.tail _ (.head _)))).2.frozen 1
        have hNr := HN.out.1
        go_wp2
        refine bodyPost_ret (v := .tuple #[.agg #[.int .i64 g, .slice ua n uc], .bool false]) ?_ rfl ⟨_, rfl, ?_, ?_⟩
        · simp [results, Tryd.results68, go_sem, r0, r1]
        · refine row5_heap S4.out.ow fun k hk => ?_
          have hne := S4.out.ap _ (.tail _ (.tail _ (.head _)))
          rw [Below.heap_setCell _ _ _ _ (by show k ≠ w.heap.size + 1 + 1; intro e; subst e; exact hne hk), Below.heap_setCell _ _ _ _ (by show k ≠ w.heap.size + 1 + 1; intro e; subst e; exact hne hk)]
        · exact (S4.out.be.setCell (by show w.heap.size ≤ w.heap.size + 1 + 1; omega) _).setCell (by show w.heap.size ≤ w.heap.size + 1 + 1; omega) _
set_option maxRecDepth 20000 in
set_option maxHeartbeats 3200000 in
theorem sbdo_back (g : Int) (v : Value) (ns : List Nt) (k q : Int) (t : ByteArray) (w : World) (h : Nts w v ns) (hb : brdB g ns = true) (hk : backB ⟨k, q, t⟩ = true) (hp : 0 < ns.length) : Calls Tryd.prog 68 #[.agg #[.int .i64 g, v], .agg #[.int .i64 k, .int .i64 q, .string t]] w fun e w' => ∃ u, e = .returned (.tuple #[.agg #[.int .i64 g, u], .bool true]) ∧ OwnN w' w.heap.size u (ns.take (ns.length - 1)) ∧ Below w.heap.size w w' := by
  have hd : dedB k q t 2 0 ⟨#[]⟩ = true := hk
  have h2 : k = 2 := by unfold dedB at hd; simp at hd; exact hd.1.1
  obtain ⟨a, c, rfl, _⟩ := h.opened
  obtain ⟨n, hn⟩ : ∃ n, ns.length = n := ⟨_, rfl⟩
  rw [hn] at h hp ⊢
  have H := Lib.hid h
  have HNL := Lib.hid hn
  have HB := Lib.hid hb
  have HL := Lib.hid (show ns.length ≤ 2000000 from Nat.le_trans (brd_true.1 hb).2.1 (by omega))
  have hn12 : n ≤ 12 := by rw [← hn]; exact (brd_true.1 hb).2.1
  have tg := deedGuard
  have te := run_equal_deed
  obtain ⟨j, rfl⟩ : ∃ j, n = j + 1 := ⟨n - 1, by omega⟩
  have HJ := Lib.hid (show ns.length - 1 = j by omega)
  rw [show j + 1 - 1 = j by omega]
  have k2 : (k == 2) = true := by simp [h2]
  clear h hb hn hk h2 hp
  have W3 := bx3 (w := w) [.int .i64 g, .slice a (j + 1) c] [.int .i64 k, .int .i64 q, .string t] [.int .i64 0, .slice none 0 0] 29 87 29
  obtain ⟨W, hWe, hWs, hW, b0, b1, b2⟩ := W3.out
  have HW := Lib.hid hW
  have HS := Lib.hid hWs
  have HWE := Lib.hid hWe
  have Y0 := Lib.hid b0
  have Y1 := Lib.hid b1
  have Y2 := Lib.hid b2
  clear W3 hWe hWs hW b0 b1 b2
  go_enter Tryd.func68, Tryd.ntmps68
  go_wp2_with fail
  rw [← HWE.out]
  refine (sbrd_any g _ ns _ (H.out.on HW.out) HL.out).mono ?_
  rintro e w1 ⟨rfl, hb1⟩
  rw [HB.out]
  have X0 := Lib.hid (Y0.out.on hb1)
  have X1 := Lib.hid (Y1.out.on hb1)
  have X2 := Lib.hid (Y2.out.on hb1)
  have B1 := Lib.hid (HW.out.trans (hb1.mono HW.out.size))
  clear hb1 Y0 Y1 Y2
  go_wp2_with fail
  apply wp_region_H (Z := Option (Value × List Nt) × Option (Nat × List Value)) (S := fun k => k == 2 || k == 5 || k == 7 || k == 8) (C := fun z w' => Hid (Zc w1 z.1 z.2 w')) [0, 1, 3, 4] (none, none)
  · kernel_rfl
  · kernel_rfl
  · kernel_rfl
  · exact ⟨rfl, rfl, rfl, rfl, trivial⟩
  · rfl
  · decide
  · exact Lib.hid (Zc.start (Below.refl _ _).drew)
  · intro z
    dsimp only [pickL, nthO]
    go_big_quiet_want; go_big_quiet_op; first | go_big_quiet_on | (refine ⟨_, fun _ _ => rfl, ?_⟩; go_big_quiet_on)
    go_big_quiet_want
    go_big_quiet_op
    refine ⟨.int .i64 g, fun w' hw' => ?_, ?_⟩
    · have q := (X0.out.on hw'.out.be).cell 0
      simp at q
      simp [go_sem, q]
    go_big_quiet_on
    go_big_quiet_want; go_big_quiet_op; first | go_big_quiet_on | (refine ⟨_, fun _ _ => rfl, ?_⟩; go_big_quiet_on)
    go_big_quiet_want
    go_big_quiet_op
    refine ⟨.slice a (j + 1) c, fun w' hw' => ?_, ?_⟩
    · have q := (X0.out.on hw'.out.be).cell 1
      simp at q
      simp [go_sem, q]
    go_big_quiet_on
    exact wpQuiet_nil rfl
  · skip
    refine wpAnyH_key (D := Nat × Value × Nat) (fun d => (some (d.2.1, ns), some (d.2.2, [.int .i64 g, d.2.1]))) (fun d a => ((((a.put (some 16) (.slice (some ⟨d.1, 0, none⟩) 0 0)).put (some 19) (d.2.1)).put (some 20) (.agg #[.int .i64 g, d.2.1])).put (some 6) (.pointer (some ⟨d.2.2, 0, none⟩)))) ?_ ?_
    · skip
      refine wpAnyH_two 2 7 (by kernel_rfl) ?_ ?_
      · skip
        refine hOp_special (d := some 16) rfl rfl rfl (by kernel_rfl) fun wm hc => ⟨.slice (some ⟨wm.heap.size, 0, none⟩) 0 0, wm.alloc (.cells #[] 47), (some (.slice (some ⟨wm.heap.size, 0, none⟩) 0 0, []), none), by kernel_rfl, Lib.hid hc.out.build, ?_⟩
        clear hc
        refine wpAnyH_two 5 7 (by kernel_rfl) ?_ ?_
        · skip
          refine hOp_appN (v := .slice (some ⟨wm.heap.size, 0, none⟩) 0 0) (u := .slice a (j + 1) c) (ns := ns) (B := w1.heap.size) (.tmp 16) (.tmp 18) (d := some 19) rfl rfl rfl (by kernel_rfl) rfl rfl rfl HL.out fun wp hc => ⟨hc.out.ow _ _ rfl, H.out.on (Below.on B1.out hc.out.be), hc.out.be.size, fun v9 w9 ho hg hk => ⟨(some (v9, ns), none), Lib.hid (hc.out.app ho hg hk), ?_⟩⟩
          obtain ⟨a9, c9, e9⟩ := OwnN.form ho
          subst e9
          clear hc ho hg hk
          refine wpAnyH_take (i := 6) (d := some 20) (.agg #[.int .i64 g, (.slice a9 ns.length c9)]) rfl (by kernel_rfl) rfl rfl (by kernel_rfl) (by kernel_rfl) (by kernel_rfl) (fun _ => by kernel_rfl) ?_
          refine wpAnyH_special (i := 7) (d := some 6) rfl (by kernel_rfl) rfl rfl (by kernel_rfl) fun wN hc => ⟨.pointer (some ⟨wN.heap.size, 0, none⟩), wN.alloc (.cells #[.int .i64 0, .slice none 0 0] 29), (some (.slice a9 ns.length c9, ns), some (wN.heap.size, [.int .i64 0, .slice none 0 0])), .inl (by kernel_rfl), Lib.hid (hc.out.made [.int .i64 0, .slice none 0 0] _), ?_⟩
          clear hc
          refine wpAnyH_special (i := 8) (d := none) rfl (by kernel_rfl) rfl rfl (by kernel_rfl) fun we he => ?_
          have kb := (he.out.bx _ _ rfl).2
          have k0 := kb.cell 0; have f0 := kb.frozen 0
          have k1 := kb.cell 1; have f1 := kb.frozen 1
          simp at k0 k1
          refine ⟨undef, (we.setCell ⟨wN.heap.size, 0, none⟩ (.int .i64 g)).setCell ⟨wN.heap.size, 1, none⟩ (.slice a9 ns.length c9), (some ((.slice a9 ns.length c9), ns), some (wN.heap.size, [.int .i64 g, (.slice a9 ns.length c9)])), .inr ⟨by simp [go_sem, Act.put, k0, k1, f0, f1], rfl⟩, Lib.hid ((he.out.put 0 _).put 1 _), ?_⟩
          clear he kb k0 k1 f0 f1
          exact ⟨by kernel_rfl, ⟨wm.heap.size, (.slice a9 ns.length c9), wN.heap.size⟩, rfl, by kernel_rfl⟩
        · skip
          refine hOp_special (d := some 6) rfl rfl rfl (by kernel_rfl) fun wN hc => ⟨.pointer (some ⟨wN.heap.size, 0, none⟩), wN.alloc (.cells #[.int .i64 0, .slice none 0 0] 29), (some (.slice (some ⟨wm.heap.size, 0, none⟩) 0 0, []), some (wN.heap.size, [.int .i64 0, .slice none 0 0])), by kernel_rfl, Lib.hid (hc.out.made [.int .i64 0, .slice none 0 0] _), ?_⟩
          clear hc
          refine wpAnyH_appN (i := 5) (v := .slice (some ⟨wm.heap.size, 0, none⟩) 0 0) (u := .slice a (j + 1) c) (ns := ns) (B := w1.heap.size) (.tmp 16) (.tmp 18) (d := some 19) rfl (by kernel_rfl) rfl rfl (by kernel_rfl) rfl rfl rfl HL.out fun wp hc => ⟨hc.out.ow _ _ rfl, H.out.on (Below.on B1.out hc.out.be), hc.out.be.size, fun v9 w9 ho hg hk => ⟨(some (v9, ns), some (wN.heap.size, [.int .i64 0, .slice none 0 0])), Lib.hid (hc.out.app ho hg hk), ?_⟩⟩
          obtain ⟨a9, c9, e9⟩ := OwnN.form ho
          subst e9
          clear hc ho hg hk
          refine wpAnyH_take (i := 6) (d := some 20) (.agg #[.int .i64 g, (.slice a9 ns.length c9)]) rfl (by kernel_rfl) rfl rfl (by kernel_rfl) (by kernel_rfl) (by kernel_rfl) (fun _ => by kernel_rfl) ?_
          refine wpAnyH_special (i := 8) (d := none) rfl (by kernel_rfl) rfl rfl (by kernel_rfl) fun we he => ?_
          have kb := (he.out.bx _ _ rfl).2
          have k0 := kb.cell 0; have f0 := kb.frozen 0
          have k1 := kb.cell 1; have f1 := kb.frozen 1
          simp at k0 k1
          refine ⟨undef, (we.setCell ⟨wN.heap.size, 0, none⟩ (.int .i64 g)).setCell ⟨wN.heap.size, 1, none⟩ (.slice a9 ns.length c9), (some ((.slice a9 ns.length c9), ns), some (wN.heap.size, [.int .i64 g, (.slice a9 ns.length c9)])), .inr ⟨by simp [go_sem, Act.put, k0, k1, f0, f1], rfl⟩, Lib.hid ((he.out.put 0 _).put 1 _), ?_⟩
          clear he kb k0 k1 f0 f1
          exact ⟨by kernel_rfl, ⟨wm.heap.size, (.slice a9 ns.length c9), wN.heap.size⟩, rfl, by kernel_rfl⟩
      · skip
        refine hOp_special (d := some 6) rfl rfl rfl (by kernel_rfl) fun wN hc => ⟨.pointer (some ⟨wN.heap.size, 0, none⟩), wN.alloc (.cells #[.int .i64 0, .slice none 0 0] 29), (none, some (wN.heap.size, [.int .i64 0, .slice none 0 0])), by kernel_rfl, Lib.hid (hc.out.made [.int .i64 0, .slice none 0 0] _), ?_⟩
        clear hc
        refine wpAnyH_special (i := 2) (d := some 16) rfl (by kernel_rfl) rfl rfl (by kernel_rfl) fun wm hc => ⟨.slice (some ⟨wm.heap.size, 0, none⟩) 0 0, wm.alloc (.cells #[] 47), (some (.slice (some ⟨wm.heap.size, 0, none⟩) 0 0, []), some (wN.heap.size, [.int .i64 0, .slice none 0 0])), .inl (by kernel_rfl), Lib.hid hc.out.build, ?_⟩
        clear hc
        refine wpAnyH_appN (i := 5) (v := .slice (some ⟨wm.heap.size, 0, none⟩) 0 0) (u := .slice a (j + 1) c) (ns := ns) (B := w1.heap.size) (.tmp 16) (.tmp 18) (d := some 19) rfl (by kernel_rfl) rfl rfl (by kernel_rfl) rfl rfl rfl HL.out fun wp hc => ⟨hc.out.ow _ _ rfl, H.out.on (Below.on B1.out hc.out.be), hc.out.be.size, fun v9 w9 ho hg hk => ⟨(some (v9, ns), some (wN.heap.size, [.int .i64 0, .slice none 0 0])), Lib.hid (hc.out.app ho hg hk), ?_⟩⟩
        obtain ⟨a9, c9, e9⟩ := OwnN.form ho
        subst e9
        clear hc ho hg hk
        refine wpAnyH_take (i := 6) (d := some 20) (.agg #[.int .i64 g, (.slice a9 ns.length c9)]) rfl (by kernel_rfl) rfl rfl (by kernel_rfl) (by kernel_rfl) (by kernel_rfl) (fun _ => by kernel_rfl) ?_
        refine wpAnyH_special (i := 8) (d := none) rfl (by kernel_rfl) rfl rfl (by kernel_rfl) fun we he => ?_
        have kb := (he.out.bx _ _ rfl).2
        have k0 := kb.cell 0; have f0 := kb.frozen 0
        have k1 := kb.cell 1; have f1 := kb.frozen 1
        simp at k0 k1
        refine ⟨undef, (we.setCell ⟨wN.heap.size, 0, none⟩ (.int .i64 g)).setCell ⟨wN.heap.size, 1, none⟩ (.slice a9 ns.length c9), (some ((.slice a9 ns.length c9), ns), some (wN.heap.size, [.int .i64 g, (.slice a9 ns.length c9)])), .inr ⟨by simp [go_sem, Act.put, k0, k1, f0, f1], rfl⟩, Lib.hid ((he.out.put 0 _).put 1 _), ?_⟩
        clear he kb k0 k1 f0 f1
        exact ⟨by kernel_rfl, ⟨wm.heap.size, (.slice a9 ns.length c9), wN.heap.size⟩, rfl, by kernel_rfl⟩
    · skip
      rintro ⟨m0, u, N⟩ w3 hz
      dsimp only at hz ⊢
      simp only [Act.put, List.setIfInBounds_toArray, List.set_cons_zero, List.set_cons_succ]
      have zb := hz.out.be
      obtain ⟨hN, zx⟩ := hz.out.bx _ _ rfl
      have zo := hz.out.ow _ _ rfl
      have za := hz.out.ap _ _ _ _ rfl rfl
      have zs := B1.out.size
      have x0 := X0.out.lt
      have x1 := X1.out.lt
      have x2 := X2.out.lt
      have S3 : Hid (Bd w [(N, [.int .i64 g, u]), (w.heap.size + 1 + 1, [.int .i64 0, .slice none 0 0]), (w.heap.size + 1, [.int .i64 k, .int .i64 q, .string t]), (w.heap.size, [.int .i64 g, .slice a (j + 1) c])] u ns w3) := Lib.hid ⟨Below.on B1.out zb, all_cons ⟨Nat.le_trans zs hN, zx⟩ (all_cons ⟨(by show w.heap.size ≤ w.heap.size + 1 + 1; omega), X2.out.on zb⟩ (all_cons ⟨(by show w.heap.size ≤ w.heap.size + 1; omega), X1.out.on zb⟩ (all_cons ⟨Nat.le_refl _, X0.out.on zb⟩ all_nil))), row5_lower zo zs, all_cons za (all_cons (fun e => by have := (zo.lt _ e).1; omega) (all_cons (fun e => by have := (zo.lt _ e).1; omega) (all_cons (fun e => by have := (zo.lt _ e).1; omega) all_nil)))⟩
      have HN : Hid (w.heap.size + 1 + 1 < N ∧ N < w3.heap.size) := Lib.hid ⟨by omega, zx.lt⟩
      have US := OwnN.form zo
      rw [HNL.out] at US
      obtain ⟨ua, uc, hu⟩ := US
      subst hu
      clear hz zb hN zx zo za zs x0 x1 x2 X0 X1 X2 B1
      have d1 := (S3.out.bx _ (.tail _ (.tail _ (.head _)))).2.cell 1
      simp at d1
      go_upto_region 5 with (fail)
      clear d1
      obtain ⟨w4, hw4⟩ : ∃ z, z = w3.alloc (.cells #[.int .i64 q, .int .i64 (-1), .int .i64 0, .int .i64 0, .int .i64 0] 47) := ⟨_, rfl⟩
      have S4 : Hid (Bd w [(w3.heap.size, [.int .i64 q, .int .i64 (-1), .int .i64 0, .int .i64 0, .int .i64 0]), (N, [.int .i64 g, .slice ua (j + 1) uc]), (w.heap.size + 1 + 1, [.int .i64 0, .slice none 0 0]), (w.heap.size + 1, [.int .i64 k, .int .i64 q, .string t]), (w.heap.size, [.int .i64 g, .slice a (j + 1) c])] (.slice ua (j + 1) uc) ns w4) := Lib.hid (by rw [hw4]; exact S3.out.made [.int .i64 q, .int .i64 (-1), .int .i64 0, .int .i64 0, .int .i64 0] _)
      rw [← hw4]
      clear hw4 S3
      obtain ⟨G9, rfl⟩ : ∃ G9, ua = some ⟨G9, 0, none⟩ := by
        rcases id S4.out.ow.2 with ⟨e, _⟩ | ⟨G9, cap, cur, e, _⟩
        · simp at e
        · simp only [Value.slice.injEq] at e; exact ⟨_, e.1⟩
      have hju : j ≤ uc := by
        rcases id S4.out.ow.2 with ⟨e, _⟩ | ⟨G8, cap, cur, e, _, _, h3, _⟩
        · simp at e
        · simp only [Value.slice.injEq] at e; rw [HNL.out] at h3; omega
      have hjz : j ≤ 12 := by omega
      have d0 := (S4.out.bx _ (.tail _ (.tail _ (.tail _ (.head _))))).2.cell 0
      have d1 := (S4.out.bx _ (.tail _ (.tail _ (.tail _ (.head _))))).2.cell 1
      have d2 := (S4.out.bx _ (.tail _ (.tail _ (.tail _ (.head _))))).2.cell 2
      have p0 := (S4.out.bx _ (.tail _ (.tail _ (.tail _ (.tail _ (.head _)))))).2.cell 0
      have p1 := (S4.out.bx _ (.tail _ (.tail _ (.tail _ (.tail _ (.head _)))))).2.cell 1
      simp at d0 d1 d2 p0 p1
      go_upto_region 6 with (fail)
      clear d0 d1 d2 p0 p1
      have n0 := (S4.out.bx _ (.tail _ (.head _))).2.cell 0
      have n1 := (S4.out.bx _ (.tail _ (.head _))).2.cell 1
      have r0 := (S4.out.bx _ (.tail _ (.tail _ (.head _)))).2.cell 0
      have r1 := (S4.out.bx _ (.tail _ (.tail _ (.head _)))).2.cell 1
      simp at n0 n1 r0 r1
      have m0 := (S4.out.bx _ (.tail _ (.head _))).2.frozen 0
      have m1 := (S4.out.bx _ (.tail _ (.head _))).2.frozen 1
      have f0 := (S4.out.bx _ (.tail _ (.tail _ (.head _)))).2.frozen 0
      have f1 := (S4.out.bx _ (.tail _ (.tail _ (.head _)))).2.frozen 1
      have hNr := HN.out.1
      have hNs := HN.out.2
      go_wp2
      refine bodyPost_ret (v := .tuple #[.agg #[.int .i64 g, .slice (some ⟨G9, 0, none⟩) j uc], .bool true]) ?_ rfl ⟨_, rfl, ?_, ?_⟩
      · simp [results, Tryd.results68, go_sem, r0, r1]
      · refine row5_heap (OwnN.cut S4.out.ow HNL.out (Nat.le_succ j)) fun k hk => ?_
        have hne := S4.out.ap _ (.tail _ (.tail _ (.head _)))
        have hnN := S4.out.ap _ (.tail _ (.head _))
        have hk1 : k ≠ w.heap.size + 1 + 1 := by intro e; subst e; exact hne hk
        have hk2 : k ≠ N := by intro e; subst e; exact hnN hk
        rw [Below.heap_setCell _ _ _ _ (by show k ≠ w.heap.size + 1 + 1; exact hk1), Below.heap_setCell _ _ _ _ (by show k ≠ w.heap.size + 1 + 1; exact hk1), Below.heap_setCell _ _ _ _ (by show k ≠ N; exact hk2)]
      · exact ((S4.out.be.setCell (by show w.heap.size ≤ N; omega) _).setCell (by show w.heap.size ≤ w.heap.size + 1 + 1; omega) _).setCell (by show w.heap.size ≤ w.heap.size + 1 + 1; omega) _
set_option maxRecDepth 20000 in
set_option maxHeartbeats 3200000 in
theorem sbdo_keyText (g : Int) (v : Value) (ns : List Nt) (k q : Int) (t : ByteArray) (w : World) (h : Nts w v ns) (hb : brdB g ns = true) (h0 : k = 0) (he : emB t = false) : Calls Tryd.prog 68 #[.agg #[.int .i64 g, v], .agg #[.int .i64 k, .int .i64 q, .string t]] w fun e w' => ∃ u, e = .returned (.tuple #[.agg #[.int .i64 g, u], .bool false]) ∧ OwnN w' w.heap.size u ns ∧ Below w.heap.size w w' := by
  obtain ⟨a, c, rfl, _⟩ := h.opened
  obtain ⟨n, hn⟩ : ∃ n, ns.length = n := ⟨_, rfl⟩
  rw [hn] at h ⊢
  have H := Lib.hid h
  have HNL := Lib.hid hn
  have HB := Lib.hid hb
  have HL := Lib.hid (show ns.length ≤ 2000000 from Nat.le_trans (brd_true.1 hb).2.1 (by omega))
  have hn12 : n ≤ 12 := by rw [← hn]; exact (brd_true.1 hb).2.1
  have tg := deedGuard
  have te := run_equal_deed
  have ht : (t.toList == (⟨#[]⟩ : ByteArray).toList) = false := he
  have ht2 : t.toList.isEmpty = false := by rw [emp_toList] at ht; rw [← ht]; cases t.toList <;> rfl
  clear he
  have k0 : (k == 0) = true := by simp [h0]
  have k0n : (k != 0) = false := by simp [h0]
  have k1 : (k == 1) = false := by simp [h0]
  have k2 : (k == 2) = false := by simp [h0]
  clear h hb hn h0
  have W3 := bx3 (w := w) [.int .i64 g, .slice a n c] [.int .i64 k, .int .i64 q, .string t] [.int .i64 0, .slice none 0 0] 29 87 29
  obtain ⟨W, hWe, hWs, hW, b0, b1, b2⟩ := W3.out
  have HW := Lib.hid hW
  have HS := Lib.hid hWs
  have HWE := Lib.hid hWe
  have Y0 := Lib.hid b0
  have Y1 := Lib.hid b1
  have Y2 := Lib.hid b2
  clear W3 hWe hWs hW b0 b1 b2
  go_enter Tryd.func68, Tryd.ntmps68
  go_wp2_with fail
  rw [← HWE.out]
  refine (sbrd_any g _ ns _ (H.out.on HW.out) HL.out).mono ?_
  rintro e w1 ⟨rfl, hb1⟩
  rw [HB.out]
  have X0 := Lib.hid (Y0.out.on hb1)
  have X1 := Lib.hid (Y1.out.on hb1)
  have X2 := Lib.hid (Y2.out.on hb1)
  have B1 := Lib.hid (HW.out.trans (hb1.mono HW.out.size))
  clear hb1 Y0 Y1 Y2
  go_wp2_with fail
  apply wp_region_H (Z := Option (Value × List Nt) × Option (Nat × List Value)) (S := fun k => k == 2 || k == 5 || k == 7 || k == 8) (C := fun z w' => Hid (Zc w1 z.1 z.2 w')) [0, 1, 3, 4] (none, none)
  · kernel_rfl
  · kernel_rfl
  · kernel_rfl
  · exact ⟨rfl, rfl, rfl, rfl, trivial⟩
  · rfl
  · decide
  · exact Lib.hid (Zc.start (Below.refl _ _).drew)
  · intro z
    dsimp only [pickL, nthO]
    go_big_quiet_want; go_big_quiet_op; first | go_big_quiet_on | (refine ⟨_, fun _ _ => rfl, ?_⟩; go_big_quiet_on)
    go_big_quiet_want
    go_big_quiet_op
    refine ⟨.int .i64 g, fun w' hw' => ?_, ?_⟩
    · have q := (X0.out.on hw'.out.be).cell 0
      simp at q
      simp [go_sem, q]
    go_big_quiet_on
    go_big_quiet_want; go_big_quiet_op; first | go_big_quiet_on | (refine ⟨_, fun _ _ => rfl, ?_⟩; go_big_quiet_on)
    go_big_quiet_want
    go_big_quiet_op
    refine ⟨.slice a n c, fun w' hw' => ?_, ?_⟩
    · have q := (X0.out.on hw'.out.be).cell 1
      simp at q
      simp [go_sem, q]
    go_big_quiet_on
    exact wpQuiet_nil rfl
  · skip
    refine wpAnyH_key (D := Nat × Value × Nat) (fun d => (some (d.2.1, ns), some (d.2.2, [.int .i64 g, d.2.1]))) (fun d a => ((((a.put (some 16) (.slice (some ⟨d.1, 0, none⟩) 0 0)).put (some 19) (d.2.1)).put (some 20) (.agg #[.int .i64 g, d.2.1])).put (some 6) (.pointer (some ⟨d.2.2, 0, none⟩)))) ?_ ?_
    · skip
      refine wpAnyH_two 2 7 (by kernel_rfl) ?_ ?_
      · skip
        refine hOp_special (d := some 16) rfl rfl rfl (by kernel_rfl) fun wm hc => ⟨.slice (some ⟨wm.heap.size, 0, none⟩) 0 0, wm.alloc (.cells #[] 47), (some (.slice (some ⟨wm.heap.size, 0, none⟩) 0 0, []), none), by kernel_rfl, Lib.hid hc.out.build, ?_⟩
        clear hc
        refine wpAnyH_two 5 7 (by kernel_rfl) ?_ ?_
        · skip
          refine hOp_appN (v := .slice (some ⟨wm.heap.size, 0, none⟩) 0 0) (u := .slice a n c) (ns := ns) (B := w1.heap.size) (.tmp 16) (.tmp 18) (d := some 19) rfl rfl rfl (by kernel_rfl) rfl rfl rfl HL.out fun wp hc => ⟨hc.out.ow _ _ rfl, H.out.on (Below.on B1.out hc.out.be), hc.out.be.size, fun v9 w9 ho hg hk => ⟨(some (v9, ns), none), Lib.hid (hc.out.app ho hg hk), ?_⟩⟩
          obtain ⟨a9, c9, e9⟩ := OwnN.form ho
          subst e9
          clear hc ho hg hk
          refine wpAnyH_take (i := 6) (d := some 20) (.agg #[.int .i64 g, (.slice a9 ns.length c9)]) rfl (by kernel_rfl) rfl rfl (by kernel_rfl) (by kernel_rfl) (by kernel_rfl) (fun _ => by kernel_rfl) ?_
          refine wpAnyH_special (i := 7) (d := some 6) rfl (by kernel_rfl) rfl rfl (by kernel_rfl) fun wN hc => ⟨.pointer (some ⟨wN.heap.size, 0, none⟩), wN.alloc (.cells #[.int .i64 0, .slice none 0 0] 29), (some (.slice a9 ns.length c9, ns), some (wN.heap.size, [.int .i64 0, .slice none 0 0])), .inl (by kernel_rfl), Lib.hid (hc.out.made [.int .i64 0, .slice none 0 0] _), ?_⟩
          clear hc
          refine wpAnyH_special (i := 8) (d := none) rfl (by kernel_rfl) rfl rfl (by kernel_rfl) fun we he => ?_
          have kb := (he.out.bx _ _ rfl).2
          have k0 := kb.cell 0; have f0 := kb.frozen 0
          have k1 := kb.cell 1; have f1 := kb.frozen 1
          simp at k0 k1
          refine ⟨undef, (we.setCell ⟨wN.heap.size, 0, none⟩ (.int .i64 g)).setCell ⟨wN.heap.size, 1, none⟩ (.slice a9 ns.length c9), (some ((.slice a9 ns.length c9), ns), some (wN.heap.size, [.int .i64 g, (.slice a9 ns.length c9)])), .inr ⟨by simp [go_sem, Act.put, k0, k1, f0, f1], rfl⟩, Lib.hid ((he.out.put 0 _).put 1 _), ?_⟩
          clear he kb k0 k1 f0 f1
          exact ⟨by kernel_rfl, ⟨wm.heap.size, (.slice a9 ns.length c9), wN.heap.size⟩, rfl, by kernel_rfl⟩
        · skip
          refine hOp_special (d := some 6) rfl rfl rfl (by kernel_rfl) fun wN hc => ⟨.pointer (some ⟨wN.heap.size, 0, none⟩), wN.alloc (.cells #[.int .i64 0, .slice none 0 0] 29), (some (.slice (some ⟨wm.heap.size, 0, none⟩) 0 0, []), some (wN.heap.size, [.int .i64 0, .slice none 0 0])), by kernel_rfl, Lib.hid (hc.out.made [.int .i64 0, .slice none 0 0] _), ?_⟩
          clear hc
          refine wpAnyH_appN (i := 5) (v := .slice (some ⟨wm.heap.size, 0, none⟩) 0 0) (u := .slice a n c) (ns := ns) (B := w1.heap.size) (.tmp 16) (.tmp 18) (d := some 19) rfl (by kernel_rfl) rfl rfl (by kernel_rfl) rfl rfl rfl HL.out fun wp hc => ⟨hc.out.ow _ _ rfl, H.out.on (Below.on B1.out hc.out.be), hc.out.be.size, fun v9 w9 ho hg hk => ⟨(some (v9, ns), some (wN.heap.size, [.int .i64 0, .slice none 0 0])), Lib.hid (hc.out.app ho hg hk), ?_⟩⟩
          obtain ⟨a9, c9, e9⟩ := OwnN.form ho
          subst e9
          clear hc ho hg hk
          refine wpAnyH_take (i := 6) (d := some 20) (.agg #[.int .i64 g, (.slice a9 ns.length c9)]) rfl (by kernel_rfl) rfl rfl (by kernel_rfl) (by kernel_rfl) (by kernel_rfl) (fun _ => by kernel_rfl) ?_
          refine wpAnyH_special (i := 8) (d := none) rfl (by kernel_rfl) rfl rfl (by kernel_rfl) fun we he => ?_
          have kb := (he.out.bx _ _ rfl).2
          have k0 := kb.cell 0; have f0 := kb.frozen 0
          have k1 := kb.cell 1; have f1 := kb.frozen 1
          simp at k0 k1
          refine ⟨undef, (we.setCell ⟨wN.heap.size, 0, none⟩ (.int .i64 g)).setCell ⟨wN.heap.size, 1, none⟩ (.slice a9 ns.length c9), (some ((.slice a9 ns.length c9), ns), some (wN.heap.size, [.int .i64 g, (.slice a9 ns.length c9)])), .inr ⟨by simp [go_sem, Act.put, k0, k1, f0, f1], rfl⟩, Lib.hid ((he.out.put 0 _).put 1 _), ?_⟩
          clear he kb k0 k1 f0 f1
          exact ⟨by kernel_rfl, ⟨wm.heap.size, (.slice a9 ns.length c9), wN.heap.size⟩, rfl, by kernel_rfl⟩
      · skip
        refine hOp_special (d := some 6) rfl rfl rfl (by kernel_rfl) fun wN hc => ⟨.pointer (some ⟨wN.heap.size, 0, none⟩), wN.alloc (.cells #[.int .i64 0, .slice none 0 0] 29), (none, some (wN.heap.size, [.int .i64 0, .slice none 0 0])), by kernel_rfl, Lib.hid (hc.out.made [.int .i64 0, .slice none 0 0] _), ?_⟩
        clear hc
        refine wpAnyH_special (i := 2) (d := some 16) rfl (by kernel_rfl) rfl rfl (by kernel_rfl) fun wm hc => ⟨.slice (some ⟨wm.heap.size, 0, none⟩) 0 0, wm.alloc (.cells #[] 47), (some (.slice (some ⟨wm.heap.size, 0, none⟩) 0 0, []), some (wN.heap.size, [.int .i64 0, .slice none 0 0])), .inl (by kernel_rfl), Lib.hid hc.out.build, ?_⟩
        clear hc
        refine wpAnyH_appN (i := 5) (v := .slice (some ⟨wm.heap.size, 0, none⟩) 0 0) (u := .slice a n c) (ns := ns) (B := w1.heap.size) (.tmp 16) (.tmp 18) (d := some 19) rfl (by kernel_rfl) rfl rfl (by kernel_rfl) rfl rfl rfl HL.out fun wp hc => ⟨hc.out.ow _ _ rfl, H.out.on (Below.on B1.out hc.out.be), hc.out.be.size, fun v9 w9 ho hg hk => ⟨(some (v9, ns), some (wN.heap.size, [.int .i64 0, .slice none 0 0])), Lib.hid (hc.out.app ho hg hk), ?_⟩⟩
        obtain ⟨a9, c9, e9⟩ := OwnN.form ho
        subst e9
        clear hc ho hg hk
        refine wpAnyH_take (i := 6) (d := some 20) (.agg #[.int .i64 g, (.slice a9 ns.length c9)]) rfl (by kernel_rfl) rfl rfl (by kernel_rfl) (by kernel_rfl) (by kernel_rfl) (fun _ => by kernel_rfl) ?_
        refine wpAnyH_special (i := 8) (d := none) rfl (by kernel_rfl) rfl rfl (by kernel_rfl) fun we he => ?_
        have kb := (he.out.bx _ _ rfl).2
        have k0 := kb.cell 0; have f0 := kb.frozen 0
        have k1 := kb.cell 1; have f1 := kb.frozen 1
        simp at k0 k1
        refine ⟨undef, (we.setCell ⟨wN.heap.size, 0, none⟩ (.int .i64 g)).setCell ⟨wN.heap.size, 1, none⟩ (.slice a9 ns.length c9), (some ((.slice a9 ns.length c9), ns), some (wN.heap.size, [.int .i64 g, (.slice a9 ns.length c9)])), .inr ⟨by simp [go_sem, Act.put, k0, k1, f0, f1], rfl⟩, Lib.hid ((he.out.put 0 _).put 1 _), ?_⟩
        clear he kb k0 k1 f0 f1
        exact ⟨by kernel_rfl, ⟨wm.heap.size, (.slice a9 ns.length c9), wN.heap.size⟩, rfl, by kernel_rfl⟩
    · skip
      rintro ⟨m0, u, N⟩ w3 hz
      dsimp only at hz ⊢
      simp only [Act.put, List.setIfInBounds_toArray, List.set_cons_zero, List.set_cons_succ]
      have zb := hz.out.be
      obtain ⟨hN, zx⟩ := hz.out.bx _ _ rfl
      have zo := hz.out.ow _ _ rfl
      have za := hz.out.ap _ _ _ _ rfl rfl
      have zs := B1.out.size
      have x0 := X0.out.lt
      have x1 := X1.out.lt
      have x2 := X2.out.lt
      have S3 : Hid (Bd w [(N, [.int .i64 g, u]), (w.heap.size + 1 + 1, [.int .i64 0, .slice none 0 0]), (w.heap.size + 1, [.int .i64 k, .int .i64 q, .string t]), (w.heap.size, [.int .i64 g, .slice a n c])] u ns w3) := Lib.hid ⟨Below.on B1.out zb, all_cons ⟨Nat.le_trans zs hN, zx⟩ (all_cons ⟨(by show w.heap.size ≤ w.heap.size + 1 + 1; omega), X2.out.on zb⟩ (all_cons ⟨(by show w.heap.size ≤ w.heap.size + 1; omega), X1.out.on zb⟩ (all_cons ⟨Nat.le_refl _, X0.out.on zb⟩ all_nil))), row5_lower zo zs, all_cons za (all_cons (fun e => by have := (zo.lt _ e).1; omega) (all_cons (fun e => by have := (zo.lt _ e).1; omega) (all_cons (fun e => by have := (zo.lt _ e).1; omega) all_nil)))⟩
      have HN : Hid (w.heap.size + 1 + 1 < N ∧ N < w3.heap.size) := Lib.hid ⟨by omega, zx.lt⟩
      have US := OwnN.form zo
      rw [HNL.out] at US
      obtain ⟨ua, uc, hu⟩ := US
      subst hu
      clear hz zb hN zx zo za zs x0 x1 x2 X0 X1 X2 B1
      have d1 := (S3.out.bx _ (.tail _ (.tail _ (.head _)))).2.cell 1
      simp at d1
      go_upto_region 5 with (fail)
      clear d1
      obtain ⟨w4, hw4⟩ : ∃ z, z = w3.alloc (.cells #[.int .i64 q, .int .i64 (-1), .int .i64 0, .int .i64 0, .int .i64 0] 47) := ⟨_, rfl⟩
      have S4 : Hid (Bd w [(w3.heap.size, [.int .i64 q, .int .i64 (-1), .int .i64 0, .int .i64 0, .int .i64 0]), (N, [.int .i64 g, .slice ua n uc]), (w.heap.size + 1 + 1, [.int .i64 0, .slice none 0 0]), (w.heap.size + 1, [.int .i64 k, .int .i64 q, .string t]), (w.heap.size, [.int .i64 g, .slice a n c])] (.slice ua n uc) ns w4) := Lib.hid (by rw [hw4]; exact S3.out.made [.int .i64 q, .int .i64 (-1), .int .i64 0, .int .i64 0, .int .i64 0] _)
      rw [← hw4]
      clear hw4 S3
      have d0 := (S4.out.bx _ (.tail _ (.tail _ (.tail _ (.head _))))).2.cell 0
      have d1 := (S4.out.bx _ (.tail _ (.tail _ (.tail _ (.head _))))).2.cell 1
      have d2 := (S4.out.bx _ (.tail _ (.tail _ (.tail _ (.head _))))).2.cell 2
      have p0 := (S4.out.bx _ (.tail _ (.tail _ (.tail _ (.tail _ (.head _)))))).2.cell 0
      have p1 := (S4.out.bx _ (.tail _ (.tail _ (.tail _ (.tail _ (.head _)))))).2.cell 1
      simp at d0 d1 d2 p0 p1
      go_upto_region 8 with (fail)
      clear p0 p1
      go_upto_region 13 with (fail)
      go_upto_region 14 with (fail)
      clear d0 d1 d2
      have n0 := (S4.out.bx _ (.tail _ (.head _))).2.cell 0
      have n1 := (S4.out.bx _ (.tail _ (.head _))).2.cell 1
      have r0 := (S4.out.bx _ (.tail _ (.tail _ (.head _)))).2.cell 0
      have r1 := (S4.out.bx _ (.tail _ (.tail _ (.head _)))).2.cell 1
      simp at n0 n1 r0 r1
      have f0 := (S4.out.bx _ (.tail _ (.tail _ (.head _)))).2.frozen 0
      have f1 := (S4.out.bx _ (.tail _ (.tail _ (.head _)))).2.frozen 1
      have hNr := HN.out.1
      go_wp2
      refine bodyPost_ret (v := .tuple #[.agg #[.int .i64 g, .slice ua n uc], .bool false]) ?_ rfl ⟨_, rfl, ?_, ?_⟩
      · simp [results, Tryd.results68, go_sem, r0, r1]
      · refine row5_heap S4.out.ow fun k hk => ?_
        have hne := S4.out.ap _ (.tail _ (.tail _ (.head _)))
        rw [Below.heap_setCell _ _ _ _ (by show k ≠ w.heap.size + 1 + 1; intro e; subst e; exact hne hk), Below.heap_setCell _ _ _ _ (by show k ≠ w.heap.size + 1 + 1; intro e; subst e; exact hne hk)]
      · exact (S4.out.be.setCell (by show w.heap.size ≤ w.heap.size + 1 + 1; omega) _).setCell (by show w.heap.size ≤ w.heap.size + 1 + 1; omega) _
set_option maxRecDepth 20000 in
set_option maxHeartbeats 3200000 in
theorem sbdo_keyNo (g : Int) (v : Value) (ns : List Nt) (k q : Int) (t : ByteArray) (w : World) (h : Nts w v ns) (hb : brdB g ns = true) (h0 : k = 0) (he : emB t = true) (hf : fitB g ns (⟨q, -1, 0, 0, 0⟩ : Nt) = false) : Calls Tryd.prog 68 #[.agg #[.int .i64 g, v], .agg #[.int .i64 k, .int .i64 q, .string t]] w fun e w' => ∃ u, e = .returned (.tuple #[.agg #[.int .i64 g, u], .bool false]) ∧ OwnN w' w.heap.size u ns ∧ Below w.heap.size w w' := by
  obtain ⟨a, c, rfl, _⟩ := h.opened
  obtain ⟨n, hn⟩ : ∃ n, ns.length = n := ⟨_, rfl⟩
  rw [hn] at h ⊢
  have H := Lib.hid h
  have HNL := Lib.hid hn
  have HB := Lib.hid hb
  have HL := Lib.hid (show ns.length ≤ 2000000 from Nat.le_trans (brd_true.1 hb).2.1 (by omega))
  have hn12 : n ≤ 12 := by rw [← hn]; exact (brd_true.1 hb).2.1
  have tg := deedGuard
  have te := run_equal_deed
  have ht : (t.toList == (⟨#[]⟩ : ByteArray).toList) = true := he
  have ht2 : t.toList.isEmpty = true := by rw [emp_toList] at ht; rw [← ht]; cases t.toList <;> rfl
  have HF := Lib.hid hf
  clear he hf
  have k0 : (k == 0) = true := by simp [h0]
  have k0n : (k != 0) = false := by simp [h0]
  have k1 : (k == 1) = false := by simp [h0]
  have k2 : (k == 2) = false := by simp [h0]
  clear h hb hn h0
  have W3 := bx3 (w := w) [.int .i64 g, .slice a n c] [.int .i64 k, .int .i64 q, .string t] [.int .i64 0, .slice none 0 0] 29 87 29
  obtain ⟨W, hWe, hWs, hW, b0, b1, b2⟩ := W3.out
  have HW := Lib.hid hW
  have HS := Lib.hid hWs
  have HWE := Lib.hid hWe
  have Y0 := Lib.hid b0
  have Y1 := Lib.hid b1
  have Y2 := Lib.hid b2
  clear W3 hWe hWs hW b0 b1 b2
  go_enter Tryd.func68, Tryd.ntmps68
  go_wp2_with fail
  rw [← HWE.out]
  refine (sbrd_any g _ ns _ (H.out.on HW.out) HL.out).mono ?_
  rintro e w1 ⟨rfl, hb1⟩
  rw [HB.out]
  have X0 := Lib.hid (Y0.out.on hb1)
  have X1 := Lib.hid (Y1.out.on hb1)
  have X2 := Lib.hid (Y2.out.on hb1)
  have B1 := Lib.hid (HW.out.trans (hb1.mono HW.out.size))
  clear hb1 Y0 Y1 Y2
  go_wp2_with fail
  apply wp_region_H (Z := Option (Value × List Nt) × Option (Nat × List Value)) (S := fun k => k == 2 || k == 5 || k == 7 || k == 8) (C := fun z w' => Hid (Zc w1 z.1 z.2 w')) [0, 1, 3, 4] (none, none)
  · kernel_rfl
  · kernel_rfl
  · kernel_rfl
  · exact ⟨rfl, rfl, rfl, rfl, trivial⟩
  · rfl
  · decide
  · exact Lib.hid (Zc.start (Below.refl _ _).drew)
  · intro z
    dsimp only [pickL, nthO]
    go_big_quiet_want; go_big_quiet_op; first | go_big_quiet_on | (refine ⟨_, fun _ _ => rfl, ?_⟩; go_big_quiet_on)
    go_big_quiet_want
    go_big_quiet_op
    refine ⟨.int .i64 g, fun w' hw' => ?_, ?_⟩
    · have q := (X0.out.on hw'.out.be).cell 0
      simp at q
      simp [go_sem, q]
    go_big_quiet_on
    go_big_quiet_want; go_big_quiet_op; first | go_big_quiet_on | (refine ⟨_, fun _ _ => rfl, ?_⟩; go_big_quiet_on)
    go_big_quiet_want
    go_big_quiet_op
    refine ⟨.slice a n c, fun w' hw' => ?_, ?_⟩
    · have q := (X0.out.on hw'.out.be).cell 1
      simp at q
      simp [go_sem, q]
    go_big_quiet_on
    exact wpQuiet_nil rfl
  · skip
    refine wpAnyH_key (D := Nat × Value × Nat) (fun d => (some (d.2.1, ns), some (d.2.2, [.int .i64 g, d.2.1]))) (fun d a => ((((a.put (some 16) (.slice (some ⟨d.1, 0, none⟩) 0 0)).put (some 19) (d.2.1)).put (some 20) (.agg #[.int .i64 g, d.2.1])).put (some 6) (.pointer (some ⟨d.2.2, 0, none⟩)))) ?_ ?_
    · skip
      refine wpAnyH_two 2 7 (by kernel_rfl) ?_ ?_
      · skip
        refine hOp_special (d := some 16) rfl rfl rfl (by kernel_rfl) fun wm hc => ⟨.slice (some ⟨wm.heap.size, 0, none⟩) 0 0, wm.alloc (.cells #[] 47), (some (.slice (some ⟨wm.heap.size, 0, none⟩) 0 0, []), none), by kernel_rfl, Lib.hid hc.out.build, ?_⟩
        clear hc
        refine wpAnyH_two 5 7 (by kernel_rfl) ?_ ?_
        · skip
          refine hOp_appN (v := .slice (some ⟨wm.heap.size, 0, none⟩) 0 0) (u := .slice a n c) (ns := ns) (B := w1.heap.size) (.tmp 16) (.tmp 18) (d := some 19) rfl rfl rfl (by kernel_rfl) rfl rfl rfl HL.out fun wp hc => ⟨hc.out.ow _ _ rfl, H.out.on (Below.on B1.out hc.out.be), hc.out.be.size, fun v9 w9 ho hg hk => ⟨(some (v9, ns), none), Lib.hid (hc.out.app ho hg hk), ?_⟩⟩
          obtain ⟨a9, c9, e9⟩ := OwnN.form ho
          subst e9
          clear hc ho hg hk
          refine wpAnyH_take (i := 6) (d := some 20) (.agg #[.int .i64 g, (.slice a9 ns.length c9)]) rfl (by kernel_rfl) rfl rfl (by kernel_rfl) (by kernel_rfl) (by kernel_rfl) (fun _ => by kernel_rfl) ?_
          refine wpAnyH_special (i := 7) (d := some 6) rfl (by kernel_rfl) rfl rfl (by kernel_rfl) fun wN hc => ⟨.pointer (some ⟨wN.heap.size, 0, none⟩), wN.alloc (.cells #[.int .i64 0, .slice none 0 0] 29), (some (.slice a9 ns.length c9, ns), some (wN.heap.size, [.int .i64 0, .slice none 0 0])), .inl (by kernel_rfl), Lib.hid (hc.out.made [.int .i64 0, .slice none 0 0] _), ?_⟩
          clear hc
          refine wpAnyH_special (i := 8) (d := none) rfl (by kernel_rfl) rfl rfl (by kernel_rfl) fun we he => ?_
          have kb := (he.out.bx _ _ rfl).2
          have k0 := kb.cell 0; have f0 := kb.frozen 0
          have k1 := kb.cell 1; have f1 := kb.frozen 1
          simp at k0 k1
          refine ⟨undef, (we.setCell ⟨wN.heap.size, 0, none⟩ (.int .i64 g)).setCell ⟨wN.heap.size, 1, none⟩ (.slice a9 ns.length c9), (some ((.slice a9 ns.length c9), ns), some (wN.heap.size, [.int .i64 g, (.slice a9 ns.length c9)])), .inr ⟨by simp [go_sem, Act.put, k0, k1, f0, f1], rfl⟩, Lib.hid ((he.out.put 0 _).put 1 _), ?_⟩
          clear he kb k0 k1 f0 f1
          exact ⟨by kernel_rfl, ⟨wm.heap.size, (.slice a9 ns.length c9), wN.heap.size⟩, rfl, by kernel_rfl⟩
        · skip
          refine hOp_special (d := some 6) rfl rfl rfl (by kernel_rfl) fun wN hc => ⟨.pointer (some ⟨wN.heap.size, 0, none⟩), wN.alloc (.cells #[.int .i64 0, .slice none 0 0] 29), (some (.slice (some ⟨wm.heap.size, 0, none⟩) 0 0, []), some (wN.heap.size, [.int .i64 0, .slice none 0 0])), by kernel_rfl, Lib.hid (hc.out.made [.int .i64 0, .slice none 0 0] _), ?_⟩
          clear hc
          refine wpAnyH_appN (i := 5) (v := .slice (some ⟨wm.heap.size, 0, none⟩) 0 0) (u := .slice a n c) (ns := ns) (B := w1.heap.size) (.tmp 16) (.tmp 18) (d := some 19) rfl (by kernel_rfl) rfl rfl (by kernel_rfl) rfl rfl rfl HL.out fun wp hc => ⟨hc.out.ow _ _ rfl, H.out.on (Below.on B1.out hc.out.be), hc.out.be.size, fun v9 w9 ho hg hk => ⟨(some (v9, ns), some (wN.heap.size, [.int .i64 0, .slice none 0 0])), Lib.hid (hc.out.app ho hg hk), ?_⟩⟩
          obtain ⟨a9, c9, e9⟩ := OwnN.form ho
          subst e9
          clear hc ho hg hk
          refine wpAnyH_take (i := 6) (d := some 20) (.agg #[.int .i64 g, (.slice a9 ns.length c9)]) rfl (by kernel_rfl) rfl rfl (by kernel_rfl) (by kernel_rfl) (by kernel_rfl) (fun _ => by kernel_rfl) ?_
          refine wpAnyH_special (i := 8) (d := none) rfl (by kernel_rfl) rfl rfl (by kernel_rfl) fun we he => ?_
          have kb := (he.out.bx _ _ rfl).2
          have k0 := kb.cell 0; have f0 := kb.frozen 0
          have k1 := kb.cell 1; have f1 := kb.frozen 1
          simp at k0 k1
          refine ⟨undef, (we.setCell ⟨wN.heap.size, 0, none⟩ (.int .i64 g)).setCell ⟨wN.heap.size, 1, none⟩ (.slice a9 ns.length c9), (some ((.slice a9 ns.length c9), ns), some (wN.heap.size, [.int .i64 g, (.slice a9 ns.length c9)])), .inr ⟨by simp [go_sem, Act.put, k0, k1, f0, f1], rfl⟩, Lib.hid ((he.out.put 0 _).put 1 _), ?_⟩
          clear he kb k0 k1 f0 f1
          exact ⟨by kernel_rfl, ⟨wm.heap.size, (.slice a9 ns.length c9), wN.heap.size⟩, rfl, by kernel_rfl⟩
      · skip
        refine hOp_special (d := some 6) rfl rfl rfl (by kernel_rfl) fun wN hc => ⟨.pointer (some ⟨wN.heap.size, 0, none⟩), wN.alloc (.cells #[.int .i64 0, .slice none 0 0] 29), (none, some (wN.heap.size, [.int .i64 0, .slice none 0 0])), by kernel_rfl, Lib.hid (hc.out.made [.int .i64 0, .slice none 0 0] _), ?_⟩
        clear hc
        refine wpAnyH_special (i := 2) (d := some 16) rfl (by kernel_rfl) rfl rfl (by kernel_rfl) fun wm hc => ⟨.slice (some ⟨wm.heap.size, 0, none⟩) 0 0, wm.alloc (.cells #[] 47), (some (.slice (some ⟨wm.heap.size, 0, none⟩) 0 0, []), some (wN.heap.size, [.int .i64 0, .slice none 0 0])), .inl (by kernel_rfl), Lib.hid hc.out.build, ?_⟩
        clear hc
        refine wpAnyH_appN (i := 5) (v := .slice (some ⟨wm.heap.size, 0, none⟩) 0 0) (u := .slice a n c) (ns := ns) (B := w1.heap.size) (.tmp 16) (.tmp 18) (d := some 19) rfl (by kernel_rfl) rfl rfl (by kernel_rfl) rfl rfl rfl HL.out fun wp hc => ⟨hc.out.ow _ _ rfl, H.out.on (Below.on B1.out hc.out.be), hc.out.be.size, fun v9 w9 ho hg hk => ⟨(some (v9, ns), some (wN.heap.size, [.int .i64 0, .slice none 0 0])), Lib.hid (hc.out.app ho hg hk), ?_⟩⟩
        obtain ⟨a9, c9, e9⟩ := OwnN.form ho
        subst e9
        clear hc ho hg hk
        refine wpAnyH_take (i := 6) (d := some 20) (.agg #[.int .i64 g, (.slice a9 ns.length c9)]) rfl (by kernel_rfl) rfl rfl (by kernel_rfl) (by kernel_rfl) (by kernel_rfl) (fun _ => by kernel_rfl) ?_
        refine wpAnyH_special (i := 8) (d := none) rfl (by kernel_rfl) rfl rfl (by kernel_rfl) fun we he => ?_
        have kb := (he.out.bx _ _ rfl).2
        have k0 := kb.cell 0; have f0 := kb.frozen 0
        have k1 := kb.cell 1; have f1 := kb.frozen 1
        simp at k0 k1
        refine ⟨undef, (we.setCell ⟨wN.heap.size, 0, none⟩ (.int .i64 g)).setCell ⟨wN.heap.size, 1, none⟩ (.slice a9 ns.length c9), (some ((.slice a9 ns.length c9), ns), some (wN.heap.size, [.int .i64 g, (.slice a9 ns.length c9)])), .inr ⟨by simp [go_sem, Act.put, k0, k1, f0, f1], rfl⟩, Lib.hid ((he.out.put 0 _).put 1 _), ?_⟩
        clear he kb k0 k1 f0 f1
        exact ⟨by kernel_rfl, ⟨wm.heap.size, (.slice a9 ns.length c9), wN.heap.size⟩, rfl, by kernel_rfl⟩
    · skip
      rintro ⟨m0, u, N⟩ w3 hz
      dsimp only at hz ⊢
      simp only [Act.put, List.setIfInBounds_toArray, List.set_cons_zero, List.set_cons_succ]
      have zb := hz.out.be
      obtain ⟨hN, zx⟩ := hz.out.bx _ _ rfl
      have zo := hz.out.ow _ _ rfl
      have za := hz.out.ap _ _ _ _ rfl rfl
      have zs := B1.out.size
      have x0 := X0.out.lt
      have x1 := X1.out.lt
      have x2 := X2.out.lt
      have S3 : Hid (Bd w [(N, [.int .i64 g, u]), (w.heap.size + 1 + 1, [.int .i64 0, .slice none 0 0]), (w.heap.size + 1, [.int .i64 k, .int .i64 q, .string t]), (w.heap.size, [.int .i64 g, .slice a n c])] u ns w3) := Lib.hid ⟨Below.on B1.out zb, all_cons ⟨Nat.le_trans zs hN, zx⟩ (all_cons ⟨(by show w.heap.size ≤ w.heap.size + 1 + 1; omega), X2.out.on zb⟩ (all_cons ⟨(by show w.heap.size ≤ w.heap.size + 1; omega), X1.out.on zb⟩ (all_cons ⟨Nat.le_refl _, X0.out.on zb⟩ all_nil))), row5_lower zo zs, all_cons za (all_cons (fun e => by have := (zo.lt _ e).1; omega) (all_cons (fun e => by have := (zo.lt _ e).1; omega) (all_cons (fun e => by have := (zo.lt _ e).1; omega) all_nil)))⟩
      have HN : Hid (w.heap.size + 1 + 1 < N ∧ N < w3.heap.size) := Lib.hid ⟨by omega, zx.lt⟩
      have US := OwnN.form zo
      rw [HNL.out] at US
      obtain ⟨ua, uc, hu⟩ := US
      subst hu
      clear hz zb hN zx zo za zs x0 x1 x2 X0 X1 X2 B1
      have d1 := (S3.out.bx _ (.tail _ (.tail _ (.head _)))).2.cell 1
      simp at d1
      go_upto_region 5 with (fail)
      clear d1
      obtain ⟨w4, hw4⟩ : ∃ z, z = w3.alloc (.cells #[.int .i64 q, .int .i64 (-1), .int .i64 0, .int .i64 0, .int .i64 0] 47) := ⟨_, rfl⟩
      have S4 : Hid (Bd w [(w3.heap.size, [.int .i64 q, .int .i64 (-1), .int .i64 0, .int .i64 0, .int .i64 0]), (N, [.int .i64 g, .slice ua n uc]), (w.heap.size + 1 + 1, [.int .i64 0, .slice none 0 0]), (w.heap.size + 1, [.int .i64 k, .int .i64 q, .string t]), (w.heap.size, [.int .i64 g, .slice a n c])] (.slice ua n uc) ns w4) := Lib.hid (by rw [hw4]; exact S3.out.made [.int .i64 q, .int .i64 (-1), .int .i64 0, .int .i64 0, .int .i64 0] _)
      rw [← hw4]
      clear hw4 S3
      have d0 := (S4.out.bx _ (.tail _ (.tail _ (.tail _ (.head _))))).2.cell 0
      have d1 := (S4.out.bx _ (.tail _ (.tail _ (.tail _ (.head _))))).2.cell 1
      have d2 := (S4.out.bx _ (.tail _ (.tail _ (.tail _ (.head _))))).2.cell 2
      have p0 := (S4.out.bx _ (.tail _ (.tail _ (.tail _ (.tail _ (.head _)))))).2.cell 0
      have p1 := (S4.out.bx _ (.tail _ (.tail _ (.tail _ (.tail _ (.head _)))))).2.cell 1
      simp at d0 d1 d2 p0 p1
      go_upto_region 8 with (fail)
      clear p0 p1
      go_upto_region 13 with (fail)
      go_upto_region 15 with (fail)
      clear d0 d1 d2
      have p0 := (S4.out.bx _ (.tail _ (.tail _ (.tail _ (.tail _ (.head _)))))).2.cell 0
      have p1 := (S4.out.bx _ (.tail _ (.tail _ (.tail _ (.tail _ (.head _)))))).2.cell 1
      have z0 := (S4.out.bx _ (.head _)).2.cell 0
      have z1 := (S4.out.bx _ (.head _)).2.cell 1
      have z2 := (S4.out.bx _ (.head _)).2.cell 2
      have z3 := (S4.out.bx _ (.head _)).2.cell 3
      have z4 := (S4.out.bx _ (.head _)).2.cell 4
      simp at p0 p1 z0 z1 z2 z3 z4
      go_wp2_with fail
      refine (snt_is (x := (⟨q, -1, 0, 0, 0⟩ : Nt)) HF.out (H.out.on S4.out.be) HL.out).mono ?_
      rintro e w9 ⟨rfl, hb9⟩
      have S9 := Lib.hid (S4.out.on hb9)
      clear hb9 p0 p1 z0 z1 z2 z3 z4
      have p0 := (S9.out.bx _ (.tail _ (.tail _ (.tail _ (.tail _ (.head _)))))).2.cell 0
      have p1 := (S9.out.bx _ (.tail _ (.tail _ (.tail _ (.tail _ (.head _)))))).2.cell 1
      simp at p0 p1
      go_upto_region 16 with (fail)
      clear p0 p1
      have n0 := (S9.out.bx _ (.tail _ (.head _))).2.cell 0
      have n1 := (S9.out.bx _ (.tail _ (.head _))).2.cell 1
      have r0 := (S9.out.bx _ (.tail _ (.tail _ (.head _)))).2.cell 0
      have r1 := (S9.out.bx _ (.tail _ (.tail _ (.head _)))).2.cell 1
      simp at n0 n1 r0 r1
      have f0 := (S9.out.bx _ (.tail _ (.tail _ (.head _)))).2.frozen 0
      have f1 := (S9.out.bx _ (.tail _ (.tail _ (.head _)))).2.frozen 1
      have hNr := HN.out.1
      go_wp2
      refine bodyPost_ret (v := .tuple #[.agg #[.int .i64 g, .slice ua n uc], .bool false]) ?_ rfl ⟨_, rfl, ?_, ?_⟩
      · simp [results, Tryd.results68, go_sem, r0, r1]
      · refine row5_heap S9.out.ow fun k hk => ?_
        have hne := S9.out.ap _ (.tail _ (.tail _ (.head _)))
        rw [Below.heap_setCell _ _ _ _ (by show k ≠ w.heap.size + 1 + 1; intro e; subst e; exact hne hk), Below.heap_setCell _ _ _ _ (by show k ≠ w.heap.size + 1 + 1; intro e; subst e; exact hne hk)]
      · exact (S9.out.be.setCell (by show w.heap.size ≤ w.heap.size + 1 + 1; omega) _).setCell (by show w.heap.size ≤ w.heap.size + 1 + 1; omega) _
set_option maxRecDepth 20000 in
set_option maxHeartbeats 3200000 in
theorem sbdo_keyFull (g : Int) (v : Value) (ns : List Nt) (k q : Int) (t : ByteArray) (w : World) (h : Nts w v ns) (hb : brdB g ns = true) (h0 : k = 0) (he : emB t = true) (hf : fitB g ns (⟨q, -1, 0, 0, 0⟩ : Nt) = true) (h12 : ¬ ns.length < 12) : Calls Tryd.prog 68 #[.agg #[.int .i64 g, v], .agg #[.int .i64 k, .int .i64 q, .string t]] w fun e w' => ∃ u, e = .returned (.tuple #[.agg #[.int .i64 g, u], .bool false]) ∧ OwnN w' w.heap.size u ns ∧ Below w.heap.size w w' := by
  obtain ⟨a, c, rfl, _⟩ := h.opened
  obtain ⟨n, hn⟩ : ∃ n, ns.length = n := ⟨_, rfl⟩
  rw [hn] at h ⊢
  have H := Lib.hid h
  have HNL := Lib.hid hn
  have HB := Lib.hid hb
  have HL := Lib.hid (show ns.length ≤ 2000000 from Nat.le_trans (brd_true.1 hb).2.1 (by omega))
  have hn12 : n ≤ 12 := by rw [← hn]; exact (brd_true.1 hb).2.1
  have tg := deedGuard
  have te := run_equal_deed
  have ht : (t.toList == (⟨#[]⟩ : ByteArray).toList) = true := he
  have ht2 : t.toList.isEmpty = true := by rw [emp_toList] at ht; rw [← ht]; cases t.toList <;> rfl
  have HF := Lib.hid hf
  rw [hn] at h12
  have hd12 : decide (12 ≤ n) = true := by simp; omega
  have hd12i : decide ((12 : Int) ≤ (n : Int)) = true := by simp; omega
  clear he hf h12
  have k0 : (k == 0) = true := by simp [h0]
  have k0n : (k != 0) = false := by simp [h0]
  have k1 : (k == 1) = false := by simp [h0]
  have k2 : (k == 2) = false := by simp [h0]
  clear h hb hn h0
  have W3 := bx3 (w := w) [.int .i64 g, .slice a n c] [.int .i64 k, .int .i64 q, .string t] [.int .i64 0, .slice none 0 0] 29 87 29
  obtain ⟨W, hWe, hWs, hW, b0, b1, b2⟩ := W3.out
  have HW := Lib.hid hW
  have HS := Lib.hid hWs
  have HWE := Lib.hid hWe
  have Y0 := Lib.hid b0
  have Y1 := Lib.hid b1
  have Y2 := Lib.hid b2
  clear W3 hWe hWs hW b0 b1 b2
  go_enter Tryd.func68, Tryd.ntmps68
  go_wp2_with fail
  rw [← HWE.out]
  refine (sbrd_any g _ ns _ (H.out.on HW.out) HL.out).mono ?_
  rintro e w1 ⟨rfl, hb1⟩
  rw [HB.out]
  have X0 := Lib.hid (Y0.out.on hb1)
  have X1 := Lib.hid (Y1.out.on hb1)
  have X2 := Lib.hid (Y2.out.on hb1)
  have B1 := Lib.hid (HW.out.trans (hb1.mono HW.out.size))
  clear hb1 Y0 Y1 Y2
  go_wp2_with fail
  apply wp_region_H (Z := Option (Value × List Nt) × Option (Nat × List Value)) (S := fun k => k == 2 || k == 5 || k == 7 || k == 8) (C := fun z w' => Hid (Zc w1 z.1 z.2 w')) [0, 1, 3, 4] (none, none)
  · kernel_rfl
  · kernel_rfl
  · kernel_rfl
  · exact ⟨rfl, rfl, rfl, rfl, trivial⟩
  · rfl
  · decide
  · exact Lib.hid (Zc.start (Below.refl _ _).drew)
  · intro z
    dsimp only [pickL, nthO]
    go_big_quiet_want; go_big_quiet_op; first | go_big_quiet_on | (refine ⟨_, fun _ _ => rfl, ?_⟩; go_big_quiet_on)
    go_big_quiet_want
    go_big_quiet_op
    refine ⟨.int .i64 g, fun w' hw' => ?_, ?_⟩
    · have q := (X0.out.on hw'.out.be).cell 0
      simp at q
      simp [go_sem, q]
    go_big_quiet_on
    go_big_quiet_want; go_big_quiet_op; first | go_big_quiet_on | (refine ⟨_, fun _ _ => rfl, ?_⟩; go_big_quiet_on)
    go_big_quiet_want
    go_big_quiet_op
    refine ⟨.slice a n c, fun w' hw' => ?_, ?_⟩
    · have q := (X0.out.on hw'.out.be).cell 1
      simp at q
      simp [go_sem, q]
    go_big_quiet_on
    exact wpQuiet_nil rfl
  · skip
    refine wpAnyH_key (D := Nat × Value × Nat) (fun d => (some (d.2.1, ns), some (d.2.2, [.int .i64 g, d.2.1]))) (fun d a => ((((a.put (some 16) (.slice (some ⟨d.1, 0, none⟩) 0 0)).put (some 19) (d.2.1)).put (some 20) (.agg #[.int .i64 g, d.2.1])).put (some 6) (.pointer (some ⟨d.2.2, 0, none⟩)))) ?_ ?_
    · skip
      refine wpAnyH_two 2 7 (by kernel_rfl) ?_ ?_
      · skip
        refine hOp_special (d := some 16) rfl rfl rfl (by kernel_rfl) fun wm hc => ⟨.slice (some ⟨wm.heap.size, 0, none⟩) 0 0, wm.alloc (.cells #[] 47), (some (.slice (some ⟨wm.heap.size, 0, none⟩) 0 0, []), none), by kernel_rfl, Lib.hid hc.out.build, ?_⟩
        clear hc
        refine wpAnyH_two 5 7 (by kernel_rfl) ?_ ?_
        · skip
          refine hOp_appN (v := .slice (some ⟨wm.heap.size, 0, none⟩) 0 0) (u := .slice a n c) (ns := ns) (B := w1.heap.size) (.tmp 16) (.tmp 18) (d := some 19) rfl rfl rfl (by kernel_rfl) rfl rfl rfl HL.out fun wp hc => ⟨hc.out.ow _ _ rfl, H.out.on (Below.on B1.out hc.out.be), hc.out.be.size, fun v9 w9 ho hg hk => ⟨(some (v9, ns), none), Lib.hid (hc.out.app ho hg hk), ?_⟩⟩
          obtain ⟨a9, c9, e9⟩ := OwnN.form ho
          subst e9
          clear hc ho hg hk
          refine wpAnyH_take (i := 6) (d := some 20) (.agg #[.int .i64 g, (.slice a9 ns.length c9)]) rfl (by kernel_rfl) rfl rfl (by kernel_rfl) (by kernel_rfl) (by kernel_rfl) (fun _ => by kernel_rfl) ?_
          refine wpAnyH_special (i := 7) (d := some 6) rfl (by kernel_rfl) rfl rfl (by kernel_rfl) fun wN hc => ⟨.pointer (some ⟨wN.heap.size, 0, none⟩), wN.alloc (.cells #[.int .i64 0, .slice none 0 0] 29), (some (.slice a9 ns.length c9, ns), some (wN.heap.size, [.int .i64 0, .slice none 0 0])), .inl (by kernel_rfl), Lib.hid (hc.out.made [.int .i64 0, .slice none 0 0] _), ?_⟩
          clear hc
          refine wpAnyH_special (i := 8) (d := none) rfl (by kernel_rfl) rfl rfl (by kernel_rfl) fun we he => ?_
          have kb := (he.out.bx _ _ rfl).2
          have k0 := kb.cell 0; have f0 := kb.frozen 0
          have k1 := kb.cell 1; have f1 := kb.frozen 1
          simp at k0 k1
          refine ⟨undef, (we.setCell ⟨wN.heap.size, 0, none⟩ (.int .i64 g)).setCell ⟨wN.heap.size, 1, none⟩ (.slice a9 ns.length c9), (some ((.slice a9 ns.length c9), ns), some (wN.heap.size, [.int .i64 g, (.slice a9 ns.length c9)])), .inr ⟨by simp [go_sem, Act.put, k0, k1, f0, f1], rfl⟩, Lib.hid ((he.out.put 0 _).put 1 _), ?_⟩
          clear he kb k0 k1 f0 f1
          exact ⟨by kernel_rfl, ⟨wm.heap.size, (.slice a9 ns.length c9), wN.heap.size⟩, rfl, by kernel_rfl⟩
        · skip
          refine hOp_special (d := some 6) rfl rfl rfl (by kernel_rfl) fun wN hc => ⟨.pointer (some ⟨wN.heap.size, 0, none⟩), wN.alloc (.cells #[.int .i64 0, .slice none 0 0] 29), (some (.slice (some ⟨wm.heap.size, 0, none⟩) 0 0, []), some (wN.heap.size, [.int .i64 0, .slice none 0 0])), by kernel_rfl, Lib.hid (hc.out.made [.int .i64 0, .slice none 0 0] _), ?_⟩
          clear hc
          refine wpAnyH_appN (i := 5) (v := .slice (some ⟨wm.heap.size, 0, none⟩) 0 0) (u := .slice a n c) (ns := ns) (B := w1.heap.size) (.tmp 16) (.tmp 18) (d := some 19) rfl (by kernel_rfl) rfl rfl (by kernel_rfl) rfl rfl rfl HL.out fun wp hc => ⟨hc.out.ow _ _ rfl, H.out.on (Below.on B1.out hc.out.be), hc.out.be.size, fun v9 w9 ho hg hk => ⟨(some (v9, ns), some (wN.heap.size, [.int .i64 0, .slice none 0 0])), Lib.hid (hc.out.app ho hg hk), ?_⟩⟩
          obtain ⟨a9, c9, e9⟩ := OwnN.form ho
          subst e9
          clear hc ho hg hk
          refine wpAnyH_take (i := 6) (d := some 20) (.agg #[.int .i64 g, (.slice a9 ns.length c9)]) rfl (by kernel_rfl) rfl rfl (by kernel_rfl) (by kernel_rfl) (by kernel_rfl) (fun _ => by kernel_rfl) ?_
          refine wpAnyH_special (i := 8) (d := none) rfl (by kernel_rfl) rfl rfl (by kernel_rfl) fun we he => ?_
          have kb := (he.out.bx _ _ rfl).2
          have k0 := kb.cell 0; have f0 := kb.frozen 0
          have k1 := kb.cell 1; have f1 := kb.frozen 1
          simp at k0 k1
          refine ⟨undef, (we.setCell ⟨wN.heap.size, 0, none⟩ (.int .i64 g)).setCell ⟨wN.heap.size, 1, none⟩ (.slice a9 ns.length c9), (some ((.slice a9 ns.length c9), ns), some (wN.heap.size, [.int .i64 g, (.slice a9 ns.length c9)])), .inr ⟨by simp [go_sem, Act.put, k0, k1, f0, f1], rfl⟩, Lib.hid ((he.out.put 0 _).put 1 _), ?_⟩
          clear he kb k0 k1 f0 f1
          exact ⟨by kernel_rfl, ⟨wm.heap.size, (.slice a9 ns.length c9), wN.heap.size⟩, rfl, by kernel_rfl⟩
      · skip
        refine hOp_special (d := some 6) rfl rfl rfl (by kernel_rfl) fun wN hc => ⟨.pointer (some ⟨wN.heap.size, 0, none⟩), wN.alloc (.cells #[.int .i64 0, .slice none 0 0] 29), (none, some (wN.heap.size, [.int .i64 0, .slice none 0 0])), by kernel_rfl, Lib.hid (hc.out.made [.int .i64 0, .slice none 0 0] _), ?_⟩
        clear hc
        refine wpAnyH_special (i := 2) (d := some 16) rfl (by kernel_rfl) rfl rfl (by kernel_rfl) fun wm hc => ⟨.slice (some ⟨wm.heap.size, 0, none⟩) 0 0, wm.alloc (.cells #[] 47), (some (.slice (some ⟨wm.heap.size, 0, none⟩) 0 0, []), some (wN.heap.size, [.int .i64 0, .slice none 0 0])), .inl (by kernel_rfl), Lib.hid hc.out.build, ?_⟩
        clear hc
        refine wpAnyH_appN (i := 5) (v := .slice (some ⟨wm.heap.size, 0, none⟩) 0 0) (u := .slice a n c) (ns := ns) (B := w1.heap.size) (.tmp 16) (.tmp 18) (d := some 19) rfl (by kernel_rfl) rfl rfl (by kernel_rfl) rfl rfl rfl HL.out fun wp hc => ⟨hc.out.ow _ _ rfl, H.out.on (Below.on B1.out hc.out.be), hc.out.be.size, fun v9 w9 ho hg hk => ⟨(some (v9, ns), some (wN.heap.size, [.int .i64 0, .slice none 0 0])), Lib.hid (hc.out.app ho hg hk), ?_⟩⟩
        obtain ⟨a9, c9, e9⟩ := OwnN.form ho
        subst e9
        clear hc ho hg hk
        refine wpAnyH_take (i := 6) (d := some 20) (.agg #[.int .i64 g, (.slice a9 ns.length c9)]) rfl (by kernel_rfl) rfl rfl (by kernel_rfl) (by kernel_rfl) (by kernel_rfl) (fun _ => by kernel_rfl) ?_
        refine wpAnyH_special (i := 8) (d := none) rfl (by kernel_rfl) rfl rfl (by kernel_rfl) fun we he => ?_
        have kb := (he.out.bx _ _ rfl).2
        have k0 := kb.cell 0; have f0 := kb.frozen 0
        have k1 := kb.cell 1; have f1 := kb.frozen 1
        simp at k0 k1
        refine ⟨undef, (we.setCell ⟨wN.heap.size, 0, none⟩ (.int .i64 g)).setCell ⟨wN.heap.size, 1, none⟩ (.slice a9 ns.length c9), (some ((.slice a9 ns.length c9), ns), some (wN.heap.size, [.int .i64 g, (.slice a9 ns.length c9)])), .inr ⟨by simp [go_sem, Act.put, k0, k1, f0, f1], rfl⟩, Lib.hid ((he.out.put 0 _).put 1 _), ?_⟩
        clear he kb k0 k1 f0 f1
        exact ⟨by kernel_rfl, ⟨wm.heap.size, (.slice a9 ns.length c9), wN.heap.size⟩, rfl, by kernel_rfl⟩
    · skip
      rintro ⟨m0, u, N⟩ w3 hz
      dsimp only at hz ⊢
      simp only [Act.put, List.setIfInBounds_toArray, List.set_cons_zero, List.set_cons_succ]
      have zb := hz.out.be
      obtain ⟨hN, zx⟩ := hz.out.bx _ _ rfl
      have zo := hz.out.ow _ _ rfl
      have za := hz.out.ap _ _ _ _ rfl rfl
      have zs := B1.out.size
      have x0 := X0.out.lt
      have x1 := X1.out.lt
      have x2 := X2.out.lt
      have S3 : Hid (Bd w [(N, [.int .i64 g, u]), (w.heap.size + 1 + 1, [.int .i64 0, .slice none 0 0]), (w.heap.size + 1, [.int .i64 k, .int .i64 q, .string t]), (w.heap.size, [.int .i64 g, .slice a n c])] u ns w3) := Lib.hid ⟨Below.on B1.out zb, all_cons ⟨Nat.le_trans zs hN, zx⟩ (all_cons ⟨(by show w.heap.size ≤ w.heap.size + 1 + 1; omega), X2.out.on zb⟩ (all_cons ⟨(by show w.heap.size ≤ w.heap.size + 1; omega), X1.out.on zb⟩ (all_cons ⟨Nat.le_refl _, X0.out.on zb⟩ all_nil))), row5_lower zo zs, all_cons za (all_cons (fun e => by have := (zo.lt _ e).1; omega) (all_cons (fun e => by have := (zo.lt _ e).1; omega) (all_cons (fun e => by have := (zo.lt _ e).1; omega) all_nil)))⟩
      have HN : Hid (w.heap.size + 1 + 1 < N ∧ N < w3.heap.size) := Lib.hid ⟨by omega, zx.lt⟩
      have US := OwnN.form zo
      rw [HNL.out] at US
      obtain ⟨ua, uc, hu⟩ := US
      subst hu
      clear hz zb hN zx zo za zs x0 x1 x2 X0 X1 X2 B1
      have d1 := (S3.out.bx _ (.tail _ (.tail _ (.head _)))).2.cell 1
      simp at d1
      go_upto_region 5 with (fail)
      clear d1
      obtain ⟨w4, hw4⟩ : ∃ z, z = w3.alloc (.cells #[.int .i64 q, .int .i64 (-1), .int .i64 0, .int .i64 0, .int .i64 0] 47) := ⟨_, rfl⟩
      have S4 : Hid (Bd w [(w3.heap.size, [.int .i64 q, .int .i64 (-1), .int .i64 0, .int .i64 0, .int .i64 0]), (N, [.int .i64 g, .slice ua n uc]), (w.heap.size + 1 + 1, [.int .i64 0, .slice none 0 0]), (w.heap.size + 1, [.int .i64 k, .int .i64 q, .string t]), (w.heap.size, [.int .i64 g, .slice a n c])] (.slice ua n uc) ns w4) := Lib.hid (by rw [hw4]; exact S3.out.made [.int .i64 q, .int .i64 (-1), .int .i64 0, .int .i64 0, .int .i64 0] _)
      rw [← hw4]
      clear hw4 S3
      have d0 := (S4.out.bx _ (.tail _ (.tail _ (.tail _ (.head _))))).2.cell 0
      have d1 := (S4.out.bx _ (.tail _ (.tail _ (.tail _ (.head _))))).2.cell 1
      have d2 := (S4.out.bx _ (.tail _ (.tail _ (.tail _ (.head _))))).2.cell 2
      have p0 := (S4.out.bx _ (.tail _ (.tail _ (.tail _ (.tail _ (.head _)))))).2.cell 0
      have p1 := (S4.out.bx _ (.tail _ (.tail _ (.tail _ (.tail _ (.head _)))))).2.cell 1
      simp at d0 d1 d2 p0 p1
      go_upto_region 8 with (fail)
      clear p0 p1
      go_upto_region 13 with (fail)
      go_upto_region 15 with (fail)
      clear d0 d1 d2
      have p0 := (S4.out.bx _ (.tail _ (.tail _ (.tail _ (.tail _ (.head _)))))).2.cell 0
      have p1 := (S4.out.bx _ (.tail _ (.tail _ (.tail _ (.tail _ (.head _)))))).2.cell 1
      have z0 := (S4.out.bx _ (.head _)).2.cell 0
      have z1 := (S4.out.bx _ (.head _)).2.cell 1
      have z2 := (S4.out.bx _ (.head _)).2.cell 2
      have z3 := (S4.out.bx _ (.head _)).2.cell 3
      have z4 := (S4.out.bx _ (.head _)).2.cell 4
      simp at p0 p1 z0 z1 z2 z3 z4
      go_wp2_with fail
      refine (snt_is (x := (⟨q, -1, 0, 0, 0⟩ : Nt)) HF.out (H.out.on S4.out.be) HL.out).mono ?_
      rintro e w9 ⟨rfl, hb9⟩
      have S9 := Lib.hid (S4.out.on hb9)
      clear hb9 p0 p1 z0 z1 z2 z3 z4
      have p0 := (S9.out.bx _ (.tail _ (.tail _ (.tail _ (.tail _ (.head _)))))).2.cell 0
      have p1 := (S9.out.bx _ (.tail _ (.tail _ (.tail _ (.tail _ (.head _)))))).2.cell 1
      simp at p0 p1
      go_upto_region 16 with (fail)
      clear p0 p1
      have n0 := (S9.out.bx _ (.tail _ (.head _))).2.cell 0
      have n1 := (S9.out.bx _ (.tail _ (.head _))).2.cell 1
      have r0 := (S9.out.bx _ (.tail _ (.tail _ (.head _)))).2.cell 0
      have r1 := (S9.out.bx _ (.tail _ (.tail _ (.head _)))).2.cell 1
      simp at n0 n1 r0 r1
      have f0 := (S9.out.bx _ (.tail _ (.tail _ (.head _)))).2.frozen 0
      have f1 := (S9.out.bx _ (.tail _ (.tail _ (.head _)))).2.frozen 1
      have hNr := HN.out.1
      go_wp2
      refine bodyPost_ret (v := .tuple #[.agg #[.int .i64 g, .slice ua n uc], .bool false]) ?_ rfl ⟨_, rfl, ?_, ?_⟩
      · simp [results, Tryd.results68, go_sem, r0, r1]
      · refine row5_heap S9.out.ow fun k hk => ?_
        have hne := S9.out.ap _ (.tail _ (.tail _ (.head _)))
        rw [Below.heap_setCell _ _ _ _ (by show k ≠ w.heap.size + 1 + 1; intro e; subst e; exact hne hk), Below.heap_setCell _ _ _ _ (by show k ≠ w.heap.size + 1 + 1; intro e; subst e; exact hne hk)]
      · exact (S9.out.be.setCell (by show w.heap.size ≤ w.heap.size + 1 + 1; omega) _).setCell (by show w.heap.size ≤ w.heap.size + 1 + 1; omega) _
set_option maxRecDepth 20000 in
set_option maxHeartbeats 3200000 in
theorem sbdo_key (g : Int) (v : Value) (ns : List Nt) (k q : Int) (t : ByteArray) (w : World) (h : Nts w v ns) (hb : brdB g ns = true) (h0 : k = 0) (he : emB t = true) (hf : fitB g ns (⟨q, -1, 0, 0, 0⟩ : Nt) = true) (h12 : ns.length < 12) : Calls Tryd.prog 68 #[.agg #[.int .i64 g, v], .agg #[.int .i64 k, .int .i64 q, .string t]] w fun e w' => ∃ u, e = .returned (.tuple #[.agg #[.int .i64 g, u], .bool true]) ∧ OwnN w' w.heap.size u (ns ++ [(⟨q, -1, 0, 0, 0⟩ : Nt)]) ∧ Below w.heap.size w w' := by
  obtain ⟨a, c, rfl, _⟩ := h.opened
  obtain ⟨n, hn⟩ : ∃ n, ns.length = n := ⟨_, rfl⟩
  rw [hn] at h ⊢
  have H := Lib.hid h
  have HNL := Lib.hid hn
  have HB := Lib.hid hb
  have HL := Lib.hid (show ns.length ≤ 2000000 from Nat.le_trans (brd_true.1 hb).2.1 (by omega))
  have hn12 : n ≤ 12 := by rw [← hn]; exact (brd_true.1 hb).2.1
  have tg := deedGuard
  have te := run_equal_deed
  have ht : (t.toList == (⟨#[]⟩ : ByteArray).toList) = true := he
  have ht2 : t.toList.isEmpty = true := by rw [emp_toList] at ht; rw [← ht]; cases t.toList <;> rfl
  have HF := Lib.hid hf
  rw [hn] at h12
  have hd12 : decide (12 ≤ n) = false := by simp; omega
  have hd12i : decide ((12 : Int) ≤ (n : Int)) = false := by simp; omega
  clear he hf
  have k0 : (k == 0) = true := by simp [h0]
  have k0n : (k != 0) = false := by simp [h0]
  have k1 : (k == 1) = false := by simp [h0]
  have k2 : (k == 2) = false := by simp [h0]
  clear h hb hn h0
  have W3 := bx3 (w := w) [.int .i64 g, .slice a n c] [.int .i64 k, .int .i64 q, .string t] [.int .i64 0, .slice none 0 0] 29 87 29
  obtain ⟨W, hWe, hWs, hW, b0, b1, b2⟩ := W3.out
  have HW := Lib.hid hW
  have HS := Lib.hid hWs
  have HWE := Lib.hid hWe
  have Y0 := Lib.hid b0
  have Y1 := Lib.hid b1
  have Y2 := Lib.hid b2
  clear W3 hWe hWs hW b0 b1 b2
  go_enter Tryd.func68, Tryd.ntmps68
  go_wp2_with fail
  rw [← HWE.out]
  refine (sbrd_any g _ ns _ (H.out.on HW.out) HL.out).mono ?_
  rintro e w1 ⟨rfl, hb1⟩
  rw [HB.out]
  have X0 := Lib.hid (Y0.out.on hb1)
  have X1 := Lib.hid (Y1.out.on hb1)
  have X2 := Lib.hid (Y2.out.on hb1)
  have B1 := Lib.hid (HW.out.trans (hb1.mono HW.out.size))
  clear hb1 Y0 Y1 Y2
  go_wp2_with fail
  apply wp_region_H (Z := Option (Value × List Nt) × Option (Nat × List Value)) (S := fun k => k == 2 || k == 5 || k == 7 || k == 8) (C := fun z w' => Hid (Zc w1 z.1 z.2 w')) [0, 1, 3, 4] (none, none)
  · kernel_rfl
  · kernel_rfl
  · kernel_rfl
  · exact ⟨rfl, rfl, rfl, rfl, trivial⟩
  · rfl
  · decide
  · exact Lib.hid (Zc.start (Below.refl _ _).drew)
  · intro z
    dsimp only [pickL, nthO]
    go_big_quiet_want; go_big_quiet_op; first | go_big_quiet_on | (refine ⟨_, fun _ _ => rfl, ?_⟩; go_big_quiet_on)
    go_big_quiet_want
    go_big_quiet_op
    refine ⟨.int .i64 g, fun w' hw' => ?_, ?_⟩
    · have q := (X0.out.on hw'.out.be).cell 0
      simp at q
      simp [go_sem, q]
    go_big_quiet_on
    go_big_quiet_want; go_big_quiet_op; first | go_big_quiet_on | (refine ⟨_, fun _ _ => rfl, ?_⟩; go_big_quiet_on)
    go_big_quiet_want
    go_big_quiet_op
    refine ⟨.slice a n c, fun w' hw' => ?_, ?_⟩
    · have q := (X0.out.on hw'.out.be).cell 1
      simp at q
      simp [go_sem, q]
    go_big_quiet_on
    exact wpQuiet_nil rfl
  · skip
    refine wpAnyH_key (D := Nat × Value × Nat) (fun d => (some (d.2.1, ns), some (d.2.2, [.int .i64 g, d.2.1]))) (fun d a => ((((a.put (some 16) (.slice (some ⟨d.1, 0, none⟩) 0 0)).put (some 19) (d.2.1)).put (some 20) (.agg #[.int .i64 g, d.2.1])).put (some 6) (.pointer (some ⟨d.2.2, 0, none⟩)))) ?_ ?_
    · skip
      refine wpAnyH_two 2 7 (by kernel_rfl) ?_ ?_
      · skip
        refine hOp_special (d := some 16) rfl rfl rfl (by kernel_rfl) fun wm hc => ⟨.slice (some ⟨wm.heap.size, 0, none⟩) 0 0, wm.alloc (.cells #[] 47), (some (.slice (some ⟨wm.heap.size, 0, none⟩) 0 0, []), none), by kernel_rfl, Lib.hid hc.out.build, ?_⟩
        clear hc
        refine wpAnyH_two 5 7 (by kernel_rfl) ?_ ?_
        · skip
          refine hOp_appN (v := .slice (some ⟨wm.heap.size, 0, none⟩) 0 0) (u := .slice a n c) (ns := ns) (B := w1.heap.size) (.tmp 16) (.tmp 18) (d := some 19) rfl rfl rfl (by kernel_rfl) rfl rfl rfl HL.out fun wp hc => ⟨hc.out.ow _ _ rfl, H.out.on (Below.on B1.out hc.out.be), hc.out.be.size, fun v9 w9 ho hg hk => ⟨(some (v9, ns), none), Lib.hid (hc.out.app ho hg hk), ?_⟩⟩
          obtain ⟨a9, c9, e9⟩ := OwnN.form ho
          subst e9
          clear hc ho hg hk
          refine wpAnyH_take (i := 6) (d := some 20) (.agg #[.int .i64 g, (.slice a9 ns.length c9)]) rfl (by kernel_rfl) rfl rfl (by kernel_rfl) (by kernel_rfl) (by kernel_rfl) (fun _ => by kernel_rfl) ?_
          refine wpAnyH_special (i := 7) (d := some 6) rfl (by kernel_rfl) rfl rfl (by kernel_rfl) fun wN hc => ⟨.pointer (some ⟨wN.heap.size, 0, none⟩), wN.alloc (.cells #[.int .i64 0, .slice none 0 0] 29), (some (.slice a9 ns.length c9, ns), some (wN.heap.size, [.int .i64 0, .slice none 0 0])), .inl (by kernel_rfl), Lib.hid (hc.out.made [.int .i64 0, .slice none 0 0] _), ?_⟩
          clear hc
          refine wpAnyH_special (i := 8) (d := none) rfl (by kernel_rfl) rfl rfl (by kernel_rfl) fun we he => ?_
          have kb := (he.out.bx _ _ rfl).2
          have k0 := kb.cell 0; have f0 := kb.frozen 0
          have k1 := kb.cell 1; have f1 := kb.frozen 1
          simp at k0 k1
          refine ⟨undef, (we.setCell ⟨wN.heap.size, 0, none⟩ (.int .i64 g)).setCell ⟨wN.heap.size, 1, none⟩ (.slice a9 ns.length c9), (some ((.slice a9 ns.length c9), ns), some (wN.heap.size, [.int .i64 g, (.slice a9 ns.length c9)])), .inr ⟨by simp [go_sem, Act.put, k0, k1, f0, f1], rfl⟩, Lib.hid ((he.out.put 0 _).put 1 _), ?_⟩
          clear he kb k0 k1 f0 f1
          exact ⟨by kernel_rfl, ⟨wm.heap.size, (.slice a9 ns.length c9), wN.heap.size⟩, rfl, by kernel_rfl⟩
        · skip
          refine hOp_special (d := some 6) rfl rfl rfl (by kernel_rfl) fun wN hc => ⟨.pointer (some ⟨wN.heap.size, 0, none⟩), wN.alloc (.cells #[.int .i64 0, .slice none 0 0] 29), (some (.slice (some ⟨wm.heap.size, 0, none⟩) 0 0, []), some (wN.heap.size, [.int .i64 0, .slice none 0 0])), by kernel_rfl, Lib.hid (hc.out.made [.int .i64 0, .slice none 0 0] _), ?_⟩
          clear hc
          refine wpAnyH_appN (i := 5) (v := .slice (some ⟨wm.heap.size, 0, none⟩) 0 0) (u := .slice a n c) (ns := ns) (B := w1.heap.size) (.tmp 16) (.tmp 18) (d := some 19) rfl (by kernel_rfl) rfl rfl (by kernel_rfl) rfl rfl rfl HL.out fun wp hc => ⟨hc.out.ow _ _ rfl, H.out.on (Below.on B1.out hc.out.be), hc.out.be.size, fun v9 w9 ho hg hk => ⟨(some (v9, ns), some (wN.heap.size, [.int .i64 0, .slice none 0 0])), Lib.hid (hc.out.app ho hg hk), ?_⟩⟩
          obtain ⟨a9, c9, e9⟩ := OwnN.form ho
          subst e9
          clear hc ho hg hk
          refine wpAnyH_take (i := 6) (d := some 20) (.agg #[.int .i64 g, (.slice a9 ns.length c9)]) rfl (by kernel_rfl) rfl rfl (by kernel_rfl) (by kernel_rfl) (by kernel_rfl) (fun _ => by kernel_rfl) ?_
          refine wpAnyH_special (i := 8) (d := none) rfl (by kernel_rfl) rfl rfl (by kernel_rfl) fun we he => ?_
          have kb := (he.out.bx _ _ rfl).2
          have k0 := kb.cell 0; have f0 := kb.frozen 0
          have k1 := kb.cell 1; have f1 := kb.frozen 1
          simp at k0 k1
          refine ⟨undef, (we.setCell ⟨wN.heap.size, 0, none⟩ (.int .i64 g)).setCell ⟨wN.heap.size, 1, none⟩ (.slice a9 ns.length c9), (some ((.slice a9 ns.length c9), ns), some (wN.heap.size, [.int .i64 g, (.slice a9 ns.length c9)])), .inr ⟨by simp [go_sem, Act.put, k0, k1, f0, f1], rfl⟩, Lib.hid ((he.out.put 0 _).put 1 _), ?_⟩
          clear he kb k0 k1 f0 f1
          exact ⟨by kernel_rfl, ⟨wm.heap.size, (.slice a9 ns.length c9), wN.heap.size⟩, rfl, by kernel_rfl⟩
      · skip
        refine hOp_special (d := some 6) rfl rfl rfl (by kernel_rfl) fun wN hc => ⟨.pointer (some ⟨wN.heap.size, 0, none⟩), wN.alloc (.cells #[.int .i64 0, .slice none 0 0] 29), (none, some (wN.heap.size, [.int .i64 0, .slice none 0 0])), by kernel_rfl, Lib.hid (hc.out.made [.int .i64 0, .slice none 0 0] _), ?_⟩
        clear hc
        refine wpAnyH_special (i := 2) (d := some 16) rfl (by kernel_rfl) rfl rfl (by kernel_rfl) fun wm hc => ⟨.slice (some ⟨wm.heap.size, 0, none⟩) 0 0, wm.alloc (.cells #[] 47), (some (.slice (some ⟨wm.heap.size, 0, none⟩) 0 0, []), some (wN.heap.size, [.int .i64 0, .slice none 0 0])), .inl (by kernel_rfl), Lib.hid hc.out.build, ?_⟩
        clear hc
        refine wpAnyH_appN (i := 5) (v := .slice (some ⟨wm.heap.size, 0, none⟩) 0 0) (u := .slice a n c) (ns := ns) (B := w1.heap.size) (.tmp 16) (.tmp 18) (d := some 19) rfl (by kernel_rfl) rfl rfl (by kernel_rfl) rfl rfl rfl HL.out fun wp hc => ⟨hc.out.ow _ _ rfl, H.out.on (Below.on B1.out hc.out.be), hc.out.be.size, fun v9 w9 ho hg hk => ⟨(some (v9, ns), some (wN.heap.size, [.int .i64 0, .slice none 0 0])), Lib.hid (hc.out.app ho hg hk), ?_⟩⟩
        obtain ⟨a9, c9, e9⟩ := OwnN.form ho
        subst e9
        clear hc ho hg hk
        refine wpAnyH_take (i := 6) (d := some 20) (.agg #[.int .i64 g, (.slice a9 ns.length c9)]) rfl (by kernel_rfl) rfl rfl (by kernel_rfl) (by kernel_rfl) (by kernel_rfl) (fun _ => by kernel_rfl) ?_
        refine wpAnyH_special (i := 8) (d := none) rfl (by kernel_rfl) rfl rfl (by kernel_rfl) fun we he => ?_
        have kb := (he.out.bx _ _ rfl).2
        have k0 := kb.cell 0; have f0 := kb.frozen 0
        have k1 := kb.cell 1; have f1 := kb.frozen 1
        simp at k0 k1
        refine ⟨undef, (we.setCell ⟨wN.heap.size, 0, none⟩ (.int .i64 g)).setCell ⟨wN.heap.size, 1, none⟩ (.slice a9 ns.length c9), (some ((.slice a9 ns.length c9), ns), some (wN.heap.size, [.int .i64 g, (.slice a9 ns.length c9)])), .inr ⟨by simp [go_sem, Act.put, k0, k1, f0, f1], rfl⟩, Lib.hid ((he.out.put 0 _).put 1 _), ?_⟩
        clear he kb k0 k1 f0 f1
        exact ⟨by kernel_rfl, ⟨wm.heap.size, (.slice a9 ns.length c9), wN.heap.size⟩, rfl, by kernel_rfl⟩
    · skip
      rintro ⟨m0, u, N⟩ w3 hz
      dsimp only at hz ⊢
      simp only [Act.put, List.setIfInBounds_toArray, List.set_cons_zero, List.set_cons_succ]
      have zb := hz.out.be
      obtain ⟨hN, zx⟩ := hz.out.bx _ _ rfl
      have zo := hz.out.ow _ _ rfl
      have za := hz.out.ap _ _ _ _ rfl rfl
      have zs := B1.out.size
      have x0 := X0.out.lt
      have x1 := X1.out.lt
      have x2 := X2.out.lt
      have S3 : Hid (Bd w [(N, [.int .i64 g, u]), (w.heap.size + 1 + 1, [.int .i64 0, .slice none 0 0]), (w.heap.size + 1, [.int .i64 k, .int .i64 q, .string t]), (w.heap.size, [.int .i64 g, .slice a n c])] u ns w3) := Lib.hid ⟨Below.on B1.out zb, all_cons ⟨Nat.le_trans zs hN, zx⟩ (all_cons ⟨(by show w.heap.size ≤ w.heap.size + 1 + 1; omega), X2.out.on zb⟩ (all_cons ⟨(by show w.heap.size ≤ w.heap.size + 1; omega), X1.out.on zb⟩ (all_cons ⟨Nat.le_refl _, X0.out.on zb⟩ all_nil))), row5_lower zo zs, all_cons za (all_cons (fun e => by have := (zo.lt _ e).1; omega) (all_cons (fun e => by have := (zo.lt _ e).1; omega) (all_cons (fun e => by have := (zo.lt _ e).1; omega) all_nil)))⟩
      have HN : Hid (w.heap.size + 1 + 1 < N ∧ N < w3.heap.size) := Lib.hid ⟨by omega, zx.lt⟩
      have US := OwnN.form zo
      rw [HNL.out] at US
      obtain ⟨ua, uc, hu⟩ := US
      subst hu
      clear hz zb hN zx zo za zs x0 x1 x2 X0 X1 X2 B1
      have d1 := (S3.out.bx _ (.tail _ (.tail _ (.head _)))).2.cell 1
      simp at d1
      go_upto_region 5 with (fail)
      clear d1
      obtain ⟨w4, hw4⟩ : ∃ z, z = w3.alloc (.cells #[.int .i64 q, .int .i64 (-1), .int .i64 0, .int .i64 0, .int .i64 0] 47) := ⟨_, rfl⟩
      have S4 : Hid (Bd w [(w3.heap.size, [.int .i64 q, .int .i64 (-1), .int .i64 0, .int .i64 0, .int .i64 0]), (N, [.int .i64 g, .slice ua n uc]), (w.heap.size + 1 + 1, [.int .i64 0, .slice none 0 0]), (w.heap.size + 1, [.int .i64 k, .int .i64 q, .string t]), (w.heap.size, [.int .i64 g, .slice a n c])] (.slice ua n uc) ns w4) := Lib.hid (by rw [hw4]; exact S3.out.made [.int .i64 q, .int .i64 (-1), .int .i64 0, .int .i64 0, .int .i64 0] _)
      rw [← hw4]
      clear hw4 S3
      have d0 := (S4.out.bx _ (.tail _ (.tail _ (.tail _ (.head _))))).2.cell 0
      have d1 := (S4.out.bx _ (.tail _ (.tail _ (.tail _ (.head _))))).2.cell 1
      have d2 := (S4.out.bx _ (.tail _ (.tail _ (.tail _ (.head _))))).2.cell 2
      have p0 := (S4.out.bx _ (.tail _ (.tail _ (.tail _ (.tail _ (.head _)))))).2.cell 0
      have p1 := (S4.out.bx _ (.tail _ (.tail _ (.tail _ (.tail _ (.head _)))))).2.cell 1
      simp at d0 d1 d2 p0 p1
      go_upto_region 8 with (fail)
      clear p0 p1
      go_upto_region 13 with (fail)
      go_upto_region 15 with (fail)
      clear d0 d1 d2
      have p0 := (S4.out.bx _ (.tail _ (.tail _ (.tail _ (.tail _ (.head _)))))).2.cell 0
      have p1 := (S4.out.bx _ (.tail _ (.tail _ (.tail _ (.tail _ (.head _)))))).2.cell 1
      have z0 := (S4.out.bx _ (.head _)).2.cell 0
      have z1 := (S4.out.bx _ (.head _)).2.cell 1
      have z2 := (S4.out.bx _ (.head _)).2.cell 2
      have z3 := (S4.out.bx _ (.head _)).2.cell 3
      have z4 := (S4.out.bx _ (.head _)).2.cell 4
      simp at p0 p1 z0 z1 z2 z3 z4
      go_wp2_with fail
      refine (snt_is (x := (⟨q, -1, 0, 0, 0⟩ : Nt)) HF.out (H.out.on S4.out.be) HL.out).mono ?_
      rintro e w9 ⟨rfl, hb9⟩
      have S9 := Lib.hid (S4.out.on hb9)
      clear hb9 p0 p1 z0 z1 z2 z3 z4
      have p0 := (S9.out.bx _ (.tail _ (.tail _ (.tail _ (.tail _ (.head _)))))).2.cell 0
      have p1 := (S9.out.bx _ (.tail _ (.tail _ (.tail _ (.tail _ (.head _)))))).2.cell 1
      simp at p0 p1
      go_upto_region 17 with (fail)
      clear p0 p1
      have n0 := (S9.out.bx _ (.tail _ (.head _))).2.cell 0
      have n1 := (S9.out.bx _ (.tail _ (.head _))).2.cell 1
      have z0 := (S9.out.bx _ (.head _)).2.cell 0
      have z1 := (S9.out.bx _ (.head _)).2.cell 1
      have z2 := (S9.out.bx _ (.head _)).2.cell 2
      have z3 := (S9.out.bx _ (.head _)).2.cell 3
      have z4 := (S9.out.bx _ (.head _)).2.cell 4
      simp at n0 n1 z0 z1 z2 z3 z4
      have ov := S9.out.ow
      have oz := S9.out.be.size
      have hll : ns.length < 2000000 := by rw [HNL.out]; omega
      go_wp2_with (at_builtin; refine wpAppNote (x := (⟨q, -1, 0, 0, 0⟩ : Nt)) rfl _ _ rfl rfl ov hll oz rfl ?_)
      intro v2 wA o2 g2 hk2
      have SA := Lib.hid (S9.out.app o2 g2 hk2)
      obtain ⟨va, vc, hv⟩ := OwnN.form o2
      subst hv
      clear o2 g2 hk2 ov oz hll n0 n1 z0 z1 z2 z3 z4
      have n0 := (SA.out.bx _ (.tail _ (.head _))).2.cell 0
      have n1 := (SA.out.bx _ (.tail _ (.head _))).2.cell 1
      have r0 := (SA.out.bx _ (.tail _ (.tail _ (.head _)))).2.cell 0
      have r1 := (SA.out.bx _ (.tail _ (.tail _ (.head _)))).2.cell 1
      simp at n0 n1 r0 r1
      have m0 := (SA.out.bx _ (.tail _ (.head _))).2.frozen 0
      have m1 := (SA.out.bx _ (.tail _ (.head _))).2.frozen 1
      have f0 := (SA.out.bx _ (.tail _ (.tail _ (.head _)))).2.frozen 0
      have f1 := (SA.out.bx _ (.tail _ (.tail _ (.head _)))).2.frozen 1
      have hNr := HN.out.1
      obtain ⟨nl, hnl⟩ : ∃ nl, (ns ++ [(⟨q, -1, 0, 0, 0⟩ : Nt)]).length = nl := ⟨_, rfl⟩
      rw [hnl] at SA ⊢
      clear hnl
      go_wp2
      refine bodyPost_ret (v := .tuple #[.agg #[.int .i64 g, .slice va nl vc], .bool true]) ?_ rfl ⟨_, rfl, ?_, ?_⟩
      · simp [results, Tryd.results68, go_sem, r0, r1]
      · refine row5_heap SA.out.ow fun k hk => ?_
        have hne := SA.out.ap _ (.tail _ (.tail _ (.head _)))
        have hnN := SA.out.ap _ (.tail _ (.head _))
        have hk1 : k ≠ w.heap.size + 1 + 1 := by intro e; subst e; exact hne hk
        have hk2 : k ≠ N := by intro e; subst e; exact hnN hk
        rw [Below.heap_setCell _ _ _ _ (by show k ≠ w.heap.size + 1 + 1; exact hk1), Below.heap_setCell _ _ _ _ (by show k ≠ w.heap.size + 1 + 1; exact hk1), Below.heap_setCell _ _ _ _ (by show k ≠ N; exact hk2)]
      · exact ((SA.out.be.setCell (by show w.heap.size ≤ N; omega) _).setCell (by show w.heap.size ≤ w.heap.size + 1 + 1; omega) _).setCell (by show w.heap.size ≤ w.heap.size + 1 + 1; omega) _
end Go.Proofs.YtiinifcepcaonaaDoor

/- spec.BoardDo of a talk; all together. -/
namespace Go.Proofs.YtiinifcepcaonaaDoor
open Go.RowKit

set_option maxRecDepth 20000 in
set_option maxHeartbeats 3200000 in
theorem sbdo_talkNone (g : Int) (v : Value) (ns : List Nt) (k q : Int) (t : ByteArray) (w : World) (h : Nts w v ns) (hb : brdB g ns = true) (h0 : k = 1) (hr : rdO g t = none) (hts : t.size ≤ 1048576) : Calls Tryd.prog 68 #[.agg #[.int .i64 g, v], .agg #[.int .i64 k, .int .i64 q, .string t]] w fun e w' => ∃ u, e = .returned (.tuple #[.agg #[.int .i64 g, u], .bool false]) ∧ OwnN w' w.heap.size u ns ∧ Below w.heap.size w w' := by
  obtain ⟨a, c, rfl, _⟩ := h.opened
  obtain ⟨n, hn⟩ : ∃ n, ns.length = n := ⟨_, rfl⟩
  rw [hn] at h ⊢
  have H := Lib.hid h
  have HNL := Lib.hid hn
  have HB := Lib.hid hb
  have HL := Lib.hid (show ns.length ≤ 2000000 from Nat.le_trans (brd_true.1 hb).2.1 (by omega))
  have hn12 : n ≤ 12 := by rw [← hn]; exact (brd_true.1 hb).2.1
  have tg := deedGuard
  have te := run_equal_deed
  have k0 : (k == 0) = false := by simp [h0]
  have k0n : (k != 0) = true := by simp [h0]
  have k1 : (k == 1) = true := by simp [h0]
  have k2 : (k == 2) = false := by simp [h0]
  have HR := Lib.hid hr
  have HTS := Lib.hid hts
  clear h hb hn h0 hr hts
  have W3 := bx3 (w := w) [.int .i64 g, .slice a n c] [.int .i64 k, .int .i64 q, .string t] [.int .i64 0, .slice none 0 0] 29 87 29
  obtain ⟨W, hWe, hWs, hW, b0, b1, b2⟩ := W3.out
  have HW := Lib.hid hW
  have HS := Lib.hid hWs
  have HWE := Lib.hid hWe
  have Y0 := Lib.hid b0
  have Y1 := Lib.hid b1
  have Y2 := Lib.hid b2
  clear W3 hWe hWs hW b0 b1 b2
  go_enter Tryd.func68, Tryd.ntmps68
  go_wp2_with fail
  rw [← HWE.out]
  refine (sbrd_any g _ ns _ (H.out.on HW.out) HL.out).mono ?_
  rintro e w1 ⟨rfl, hb1⟩
  rw [HB.out]
  have X0 := Lib.hid (Y0.out.on hb1)
  have X1 := Lib.hid (Y1.out.on hb1)
  have X2 := Lib.hid (Y2.out.on hb1)
  have B1 := Lib.hid (HW.out.trans (hb1.mono HW.out.size))
  clear hb1 Y0 Y1 Y2
  go_wp2_with fail
  apply wp_region_H (Z := Option (Value × List Nt) × Option (Nat × List Value)) (S := fun k => k == 2 || k == 5 || k == 7 || k == 8) (C := fun z w' => Hid (Zc w1 z.1 z.2 w')) [0, 1, 3, 4] (none, none)
  · kernel_rfl
  · kernel_rfl
  · kernel_rfl
  · exact ⟨rfl, rfl, rfl, rfl, trivial⟩
  · rfl
  · decide
  · exact Lib.hid (Zc.start (Below.refl _ _).drew)
  · intro z
    dsimp only [pickL, nthO]
    go_big_quiet_want; go_big_quiet_op; first | go_big_quiet_on | (refine ⟨_, fun _ _ => rfl, ?_⟩; go_big_quiet_on)
    go_big_quiet_want
    go_big_quiet_op
    refine ⟨.int .i64 g, fun w' hw' => ?_, ?_⟩
    · have q := (X0.out.on hw'.out.be).cell 0
      simp at q
      simp [go_sem, q]
    go_big_quiet_on
    go_big_quiet_want; go_big_quiet_op; first | go_big_quiet_on | (refine ⟨_, fun _ _ => rfl, ?_⟩; go_big_quiet_on)
    go_big_quiet_want
    go_big_quiet_op
    refine ⟨.slice a n c, fun w' hw' => ?_, ?_⟩
    · have q := (X0.out.on hw'.out.be).cell 1
      simp at q
      simp [go_sem, q]
    go_big_quiet_on
    exact wpQuiet_nil rfl
  · skip
    refine wpAnyH_key (D := Nat × Value × Nat) (fun d => (some (d.2.1, ns), some (d.2.2, [.int .i64 g, d.2.1]))) (fun d a => ((((a.put (some 16) (.slice (some ⟨d.1, 0, none⟩) 0 0)).put (some 19) (d.2.1)).put (some 20) (.agg #[.int .i64 g, d.2.1])).put (some 6) (.pointer (some ⟨d.2.2, 0, none⟩)))) ?_ ?_
    · skip
      refine wpAnyH_two 2 7 (by kernel_rfl) ?_ ?_
      · skip
        refine hOp_special (d := some 16) rfl rfl rfl (by kernel_rfl) fun wm hc => ⟨.slice (some ⟨wm.heap.size, 0, none⟩) 0 0, wm.alloc (.cells #[] 47), (some (.slice (some ⟨wm.heap.size, 0, none⟩) 0 0, []), none), by kernel_rfl, Lib.hid hc.out.build, ?_⟩
        clear hc
        refine wpAnyH_two 5 7 (by kernel_rfl) ?_ ?_
        · skip
          refine hOp_appN (v := .slice (some ⟨wm.heap.size, 0, none⟩) 0 0) (u := .slice a n c) (ns := ns) (B := w1.heap.size) (.tmp 16) (.tmp 18) (d := some 19) rfl rfl rfl (by kernel_rfl) rfl rfl rfl HL.out fun wp hc => ⟨hc.out.ow _ _ rfl, H.out.on (Below.on B1.out hc.out.be), hc.out.be.size, fun v9 w9 ho hg hk => ⟨(some (v9, ns), none), Lib.hid (hc.out.app ho hg hk), ?_⟩⟩
          obtain ⟨a9, c9, e9⟩ := OwnN.form ho
          subst e9
          clear hc ho hg hk
          refine wpAnyH_take (i := 6) (d := some 20) (.agg #[.int .i64 g, (.slice a9 ns.length c9)]) rfl (by kernel_rfl) rfl rfl (by kernel_rfl) (by kernel_rfl) (by kernel_rfl) (fun _ => by kernel_rfl) ?_
          refine wpAnyH_special (i := 7) (d := some 6) rfl (by kernel_rfl) rfl rfl (by kernel_rfl) fun wN hc => ⟨.pointer (some ⟨wN.heap.size, 0, none⟩), wN.alloc (.cells #[.int .i64 0, .slice none 0 0] 29), (some (.slice a9 ns.length c9, ns), some (wN.heap.size, [.int .i64 0, .slice none 0 0])), .inl (by kernel_rfl), Lib.hid (hc.out.made [.int .i64 0, .slice none 0 0] _), ?_⟩
          clear hc
          refine wpAnyH_special (i := 8) (d := none) rfl (by kernel_rfl) rfl rfl (by kernel_rfl) fun we he => ?_
          have kb := (he.out.bx _ _ rfl).2
          have k0 := kb.cell 0; have f0 := kb.frozen 0
          have k1 := kb.cell 1; have f1 := kb.frozen 1
          simp at k0 k1
          refine ⟨undef, (we.setCell ⟨wN.heap.size, 0, none⟩ (.int .i64 g)).setCell ⟨wN.heap.size, 1, none⟩ (.slice a9 ns.length c9), (some ((.slice a9 ns.length c9), ns), some (wN.heap.size, [.int .i64 g, (.slice a9 ns.length c9)])), .inr ⟨by simp [go_sem, Act.put, k0, k1, f0, f1], rfl⟩, Lib.hid ((he.out.put 0 _).put 1 _), ?_⟩
          clear he kb k0 k1 f0 f1
          exact ⟨by kernel_rfl, ⟨wm.heap.size, (.slice a9 ns.length c9), wN.heap.size⟩, rfl, by kernel_rfl⟩
        · skip
          refine hOp_special (d := some 6) rfl rfl rfl (by kernel_rfl) fun wN hc => ⟨.pointer (some ⟨wN.heap.size, 0, none⟩), wN.alloc (.cells #[.int .i64 0, .slice none 0 0] 29), (some (.slice (some ⟨wm.heap.size, 0, none⟩) 0 0, []), some (wN.heap.size, [.int .i64 0, .slice none 0 0])), by kernel_rfl, Lib.hid (hc.out.made [.int .i64 0, .slice none 0 0] _), ?_⟩
          clear hc
          refine wpAnyH_appN (i := 5) (v := .slice (some ⟨wm.heap.size, 0, none⟩) 0 0) (u := .slice a n c) (ns := ns) (B := w1.heap.size) (.tmp 16) (.tmp 18) (d := some 19) rfl (by kernel_rfl) rfl rfl (by kernel_rfl) rfl rfl rfl HL.out fun wp hc => ⟨hc.out.ow _ _ rfl, H.out.on (Below.on B1.out hc.out.be), hc.out.be.size, fun v9 w9 ho hg hk => ⟨(some (v9, ns), some (wN.heap.size, [.int .i64 0, .slice none 0 0])), Lib.hid (hc.out.app ho hg hk), ?_⟩⟩
          obtain ⟨a9, c9, e9⟩ := OwnN.form ho
          subst e9
          clear hc ho hg hk
          refine wpAnyH_take (i := 6) (d := some 20) (.agg #[.int .i64 g, (.slice a9 ns.length c9)]) rfl (by kernel_rfl) rfl rfl (by kernel_rfl) (by kernel_rfl) (by kernel_rfl) (fun _ => by kernel_rfl) ?_
          refine wpAnyH_special (i := 8) (d := none) rfl (by kernel_rfl) rfl rfl (by kernel_rfl) fun we he => ?_
          have kb := (he.out.bx _ _ rfl).2
          have k0 := kb.cell 0; have f0 := kb.frozen 0
          have k1 := kb.cell 1; have f1 := kb.frozen 1
          simp at k0 k1
          refine ⟨undef, (we.setCell ⟨wN.heap.size, 0, none⟩ (.int .i64 g)).setCell ⟨wN.heap.size, 1, none⟩ (.slice a9 ns.length c9), (some ((.slice a9 ns.length c9), ns), some (wN.heap.size, [.int .i64 g, (.slice a9 ns.length c9)])), .inr ⟨by simp [go_sem, Act.put, k0, k1, f0, f1], rfl⟩, Lib.hid ((he.out.put 0 _).put 1 _), ?_⟩
          clear he kb k0 k1 f0 f1
          exact ⟨by kernel_rfl, ⟨wm.heap.size, (.slice a9 ns.length c9), wN.heap.size⟩, rfl, by kernel_rfl⟩
      · skip
        refine hOp_special (d := some 6) rfl rfl rfl (by kernel_rfl) fun wN hc => ⟨.pointer (some ⟨wN.heap.size, 0, none⟩), wN.alloc (.cells #[.int .i64 0, .slice none 0 0] 29), (none, some (wN.heap.size, [.int .i64 0, .slice none 0 0])), by kernel_rfl, Lib.hid (hc.out.made [.int .i64 0, .slice none 0 0] _), ?_⟩
        clear hc
        refine wpAnyH_special (i := 2) (d := some 16) rfl (by kernel_rfl) rfl rfl (by kernel_rfl) fun wm hc => ⟨.slice (some ⟨wm.heap.size, 0, none⟩) 0 0, wm.alloc (.cells #[] 47), (some (.slice (some ⟨wm.heap.size, 0, none⟩) 0 0, []), some (wN.heap.size, [.int .i64 0, .slice none 0 0])), .inl (by kernel_rfl), Lib.hid hc.out.build, ?_⟩
        clear hc
        refine wpAnyH_appN (i := 5) (v := .slice (some ⟨wm.heap.size, 0, none⟩) 0 0) (u := .slice a n c) (ns := ns) (B := w1.heap.size) (.tmp 16) (.tmp 18) (d := some 19) rfl (by kernel_rfl) rfl rfl (by kernel_rfl) rfl rfl rfl HL.out fun wp hc => ⟨hc.out.ow _ _ rfl, H.out.on (Below.on B1.out hc.out.be), hc.out.be.size, fun v9 w9 ho hg hk => ⟨(some (v9, ns), some (wN.heap.size, [.int .i64 0, .slice none 0 0])), Lib.hid (hc.out.app ho hg hk), ?_⟩⟩
        obtain ⟨a9, c9, e9⟩ := OwnN.form ho
        subst e9
        clear hc ho hg hk
        refine wpAnyH_take (i := 6) (d := some 20) (.agg #[.int .i64 g, (.slice a9 ns.length c9)]) rfl (by kernel_rfl) rfl rfl (by kernel_rfl) (by kernel_rfl) (by kernel_rfl) (fun _ => by kernel_rfl) ?_
        refine wpAnyH_special (i := 8) (d := none) rfl (by kernel_rfl) rfl rfl (by kernel_rfl) fun we he => ?_
        have kb := (he.out.bx _ _ rfl).2
        have k0 := kb.cell 0; have f0 := kb.frozen 0
        have k1 := kb.cell 1; have f1 := kb.frozen 1
        simp at k0 k1
        refine ⟨undef, (we.setCell ⟨wN.heap.size, 0, none⟩ (.int .i64 g)).setCell ⟨wN.heap.size, 1, none⟩ (.slice a9 ns.length c9), (some ((.slice a9 ns.length c9), ns), some (wN.heap.size, [.int .i64 g, (.slice a9 ns.length c9)])), .inr ⟨by simp [go_sem, Act.put, k0, k1, f0, f1], rfl⟩, Lib.hid ((he.out.put 0 _).put 1 _), ?_⟩
        clear he kb k0 k1 f0 f1
        exact ⟨by kernel_rfl, ⟨wm.heap.size, (.slice a9 ns.length c9), wN.heap.size⟩, rfl, by kernel_rfl⟩
    · skip
      rintro ⟨m0, u, N⟩ w3 hz
      dsimp only at hz ⊢
      simp only [Act.put, List.setIfInBounds_toArray, List.set_cons_zero, List.set_cons_succ]
      have zb := hz.out.be
      obtain ⟨hN, zx⟩ := hz.out.bx _ _ rfl
      have zo := hz.out.ow _ _ rfl
      have za := hz.out.ap _ _ _ _ rfl rfl
      have zs := B1.out.size
      have x0 := X0.out.lt
      have x1 := X1.out.lt
      have x2 := X2.out.lt
      have S3 : Hid (Bd w [(N, [.int .i64 g, u]), (w.heap.size + 1 + 1, [.int .i64 0, .slice none 0 0]), (w.heap.size + 1, [.int .i64 k, .int .i64 q, .string t]), (w.heap.size, [.int .i64 g, .slice a n c])] u ns w3) := Lib.hid ⟨Below.on B1.out zb, all_cons ⟨Nat.le_trans zs hN, zx⟩ (all_cons ⟨(by show w.heap.size ≤ w.heap.size + 1 + 1; omega), X2.out.on zb⟩ (all_cons ⟨(by show w.heap.size ≤ w.heap.size + 1; omega), X1.out.on zb⟩ (all_cons ⟨Nat.le_refl _, X0.out.on zb⟩ all_nil))), row5_lower zo zs, all_cons za (all_cons (fun e => by have := (zo.lt _ e).1; omega) (all_cons (fun e => by have := (zo.lt _ e).1; omega) (all_cons (fun e => by have := (zo.lt _ e).1; omega) all_nil)))⟩
      have HN : Hid (w.heap.size + 1 + 1 < N ∧ N < w3.heap.size) := Lib.hid ⟨by omega, zx.lt⟩
      have US := OwnN.form zo
      rw [HNL.out] at US
      obtain ⟨ua, uc, hu⟩ := US
      subst hu
      clear hz zb hN zx zo za zs x0 x1 x2 X0 X1 X2 B1
      have d1 := (S3.out.bx _ (.tail _ (.tail _ (.head _)))).2.cell 1
      simp at d1
      go_upto_region 5 with (fail)
      clear d1
      obtain ⟨w4, hw4⟩ : ∃ z, z = w3.alloc (.cells #[.int .i64 q, .int .i64 (-1), .int .i64 0, .int .i64 0, .int .i64 0] 47) := ⟨_, rfl⟩
      have S4 : Hid (Bd w [(w3.heap.size, [.int .i64 q, .int .i64 (-1), .int .i64 0, .int .i64 0, .int .i64 0]), (N, [.int .i64 g, .slice ua n uc]), (w.heap.size + 1 + 1, [.int .i64 0, .slice none 0 0]), (w.heap.size + 1, [.int .i64 k, .int .i64 q, .string t]), (w.heap.size, [.int .i64 g, .slice a n c])] (.slice ua n uc) ns w4) := Lib.hid (by rw [hw4]; exact S3.out.made [.int .i64 q, .int .i64 (-1), .int .i64 0, .int .i64 0, .int .i64 0] _)
      rw [← hw4]
      clear hw4 S3
      have d0 := (S4.out.bx _ (.tail _ (.tail _ (.tail _ (.head _))))).2.cell 0
      have d1 := (S4.out.bx _ (.tail _ (.tail _ (.tail _ (.head _))))).2.cell 1
      have d2 := (S4.out.bx _ (.tail _ (.tail _ (.tail _ (.head _))))).2.cell 2
      have p0 := (S4.out.bx _ (.tail _ (.tail _ (.tail _ (.tail _ (.head _)))))).2.cell 0
      have p1 := (S4.out.bx _ (.tail _ (.tail _ (.tail _ (.tail _ (.head _)))))).2.cell 1
      simp at d0 d1 d2 p0 p1
      go_upto_region 8 with (fail)
      go_upto_region 9 with (fail)
      go_wp2_with fail
      refine (sread_none HR.out HTS.out _).mono ?_
      rintro e w5 ⟨rfl, hb5⟩
      have S5 := Lib.hid (S4.out.on hb5)
      clear hb5 d0 d1 d2 p0 p1
      go_upto_region 10 with (fail)
      obtain ⟨w6, hw6⟩ : ∃ z, z = w5.alloc (.cells #[.int .i64 0, .int .i64 0, .int .i64 0] 45) := ⟨_, rfl⟩
      have S6 := Lib.hid (show Bd w ((w5.heap.size, [.int .i64 0, .int .i64 0, .int .i64 0]) :: [(w3.heap.size, [.int .i64 q, .int .i64 (-1), .int .i64 0, .int .i64 0, .int .i64 0]), (N, [.int .i64 g, .slice ua n uc]), (w.heap.size + 1 + 1, [.int .i64 0, .slice none 0 0]), (w.heap.size + 1, [.int .i64 k, .int .i64 q, .string t]), (w.heap.size, [.int .i64 g, .slice a n c])]) (.slice ua n uc) ns w6 by rw [hw6]; exact S5.out.made [.int .i64 0, .int .i64 0, .int .i64 0] _)
      have HM := Lib.hid (show w3.heap.size < w5.heap.size from (S5.out.bx _ (.head _)).2.lt)
      rw [← hw6]
      clear hw6 S5
      have d0 := (S6.out.bx _ (.tail _ (.tail _ (.tail _ (.tail _ (.head _)))))).2.cell 0
      have d1 := (S6.out.bx _ (.tail _ (.tail _ (.tail _ (.tail _ (.head _)))))).2.cell 1
      have d2 := (S6.out.bx _ (.tail _ (.tail _ (.tail _ (.tail _ (.head _)))))).2.cell 2
      simp at d0 d1 d2
      go_upto_region 11 with (fail)
      clear d0 d1 d2
      have n0 := (S6.out.bx _ (.tail _ (.tail _ (.head _)))).2.cell 0
      have n1 := (S6.out.bx _ (.tail _ (.tail _ (.head _)))).2.cell 1
      have r0 := (S6.out.bx _ (.tail _ (.tail _ (.tail _ (.head _))))).2.cell 0
      have r1 := (S6.out.bx _ (.tail _ (.tail _ (.tail _ (.head _))))).2.cell 1
      simp at n0 n1 r0 r1
      have f0 := (S6.out.bx _ (.tail _ (.tail _ (.tail _ (.head _))))).2.frozen 0
      have f1 := (S6.out.bx _ (.tail _ (.tail _ (.tail _ (.head _))))).2.frozen 1
      have hNr := HN.out.1
      go_wp2
      refine bodyPost_ret (v := .tuple #[.agg #[.int .i64 g, .slice ua n uc], .bool false]) ?_ rfl ⟨_, rfl, ?_, ?_⟩
      · simp [results, Tryd.results68, go_sem, r0, r1]
      · refine row5_heap S6.out.ow fun k hk => ?_
        have hne := S6.out.ap _ (.tail _ (.tail _ (.tail _ (.head _))))
        rw [Below.heap_setCell _ _ _ _ (by show k ≠ w.heap.size + 1 + 1; intro e; subst e; exact hne hk), Below.heap_setCell _ _ _ _ (by show k ≠ w.heap.size + 1 + 1; intro e; subst e; exact hne hk)]
      · exact (S6.out.be.setCell (by show w.heap.size ≤ w.heap.size + 1 + 1; omega) _).setCell (by show w.heap.size ≤ w.heap.size + 1 + 1; omega) _
set_option maxRecDepth 20000 in
set_option maxHeartbeats 3200000 in
theorem sbdo_talkNeg (g : Int) (v : Value) (ns : List Nt) (k q : Int) (t : ByteArray) (w : World) (h : Nts w v ns) (hb : brdB g ns = true) {s1 a1 t1 : Int} (h0 : k = 1) (hr : rdO g t = some (s1, a1, t1)) (hq : q < 0) : Calls Tryd.prog 68 #[.agg #[.int .i64 g, v], .agg #[.int .i64 k, .int .i64 q, .string t]] w fun e w' => ∃ u, e = .returned (.tuple #[.agg #[.int .i64 g, u], .bool false]) ∧ OwnN w' w.heap.size u ns ∧ Below w.heap.size w w' := by
  obtain ⟨a, c, rfl, _⟩ := h.opened
  obtain ⟨n, hn⟩ : ∃ n, ns.length = n := ⟨_, rfl⟩
  rw [hn] at h ⊢
  have H := Lib.hid h
  have HNL := Lib.hid hn
  have HB := Lib.hid hb
  have HL := Lib.hid (show ns.length ≤ 2000000 from Nat.le_trans (brd_true.1 hb).2.1 (by omega))
  have hn12 : n ≤ 12 := by rw [← hn]; exact (brd_true.1 hb).2.1
  have tg := deedGuard
  have te := run_equal_deed
  have k0 : (k == 0) = false := by simp [h0]
  have k0n : (k != 0) = true := by simp [h0]
  have k1 : (k == 1) = true := by simp [h0]
  have k2 : (k == 2) = false := by simp [h0]
  have HR := Lib.hid hr
  have hqd : decide (q < 0) = true := by simpa using hq
  clear h hb hn h0 hr
  have W3 := bx3 (w := w) [.int .i64 g, .slice a n c] [.int .i64 k, .int .i64 q, .string t] [.int .i64 0, .slice none 0 0] 29 87 29
  obtain ⟨W, hWe, hWs, hW, b0, b1, b2⟩ := W3.out
  have HW := Lib.hid hW
  have HS := Lib.hid hWs
  have HWE := Lib.hid hWe
  have Y0 := Lib.hid b0
  have Y1 := Lib.hid b1
  have Y2 := Lib.hid b2
  clear W3 hWe hWs hW b0 b1 b2
  go_enter Tryd.func68, Tryd.ntmps68
  go_wp2_with fail
  rw [← HWE.out]
  refine (sbrd_any g _ ns _ (H.out.on HW.out) HL.out).mono ?_
  rintro e w1 ⟨rfl, hb1⟩
  rw [HB.out]
  have X0 := Lib.hid (Y0.out.on hb1)
  have X1 := Lib.hid (Y1.out.on hb1)
  have X2 := Lib.hid (Y2.out.on hb1)
  have B1 := Lib.hid (HW.out.trans (hb1.mono HW.out.size))
  clear hb1 Y0 Y1 Y2
  go_wp2_with fail
  apply wp_region_H (Z := Option (Value × List Nt) × Option (Nat × List Value)) (S := fun k => k == 2 || k == 5 || k == 7 || k == 8) (C := fun z w' => Hid (Zc w1 z.1 z.2 w')) [0, 1, 3, 4] (none, none)
  · kernel_rfl
  · kernel_rfl
  · kernel_rfl
  · exact ⟨rfl, rfl, rfl, rfl, trivial⟩
  · rfl
  · decide
  · exact Lib.hid (Zc.start (Below.refl _ _).drew)
  · intro z
    dsimp only [pickL, nthO]
    go_big_quiet_want; go_big_quiet_op; first | go_big_quiet_on | (refine ⟨_, fun _ _ => rfl, ?_⟩; go_big_quiet_on)
    go_big_quiet_want
    go_big_quiet_op
    refine ⟨.int .i64 g, fun w' hw' => ?_, ?_⟩
    · have q := (X0.out.on hw'.out.be).cell 0
      simp at q
      simp [go_sem, q]
    go_big_quiet_on
    go_big_quiet_want; go_big_quiet_op; first | go_big_quiet_on | (refine ⟨_, fun _ _ => rfl, ?_⟩; go_big_quiet_on)
    go_big_quiet_want
    go_big_quiet_op
    refine ⟨.slice a n c, fun w' hw' => ?_, ?_⟩
    · have q := (X0.out.on hw'.out.be).cell 1
      simp at q
      simp [go_sem, q]
    go_big_quiet_on
    exact wpQuiet_nil rfl
  · skip
    refine wpAnyH_key (D := Nat × Value × Nat) (fun d => (some (d.2.1, ns), some (d.2.2, [.int .i64 g, d.2.1]))) (fun d a => ((((a.put (some 16) (.slice (some ⟨d.1, 0, none⟩) 0 0)).put (some 19) (d.2.1)).put (some 20) (.agg #[.int .i64 g, d.2.1])).put (some 6) (.pointer (some ⟨d.2.2, 0, none⟩)))) ?_ ?_
    · skip
      refine wpAnyH_two 2 7 (by kernel_rfl) ?_ ?_
      · skip
        refine hOp_special (d := some 16) rfl rfl rfl (by kernel_rfl) fun wm hc => ⟨.slice (some ⟨wm.heap.size, 0, none⟩) 0 0, wm.alloc (.cells #[] 47), (some (.slice (some ⟨wm.heap.size, 0, none⟩) 0 0, []), none), by kernel_rfl, Lib.hid hc.out.build, ?_⟩
        clear hc
        refine wpAnyH_two 5 7 (by kernel_rfl) ?_ ?_
        · skip
          refine hOp_appN (v := .slice (some ⟨wm.heap.size, 0, none⟩) 0 0) (u := .slice a n c) (ns := ns) (B := w1.heap.size) (.tmp 16) (.tmp 18) (d := some 19) rfl rfl rfl (by kernel_rfl) rfl rfl rfl HL.out fun wp hc => ⟨hc.out.ow _ _ rfl, H.out.on (Below.on B1.out hc.out.be), hc.out.be.size, fun v9 w9 ho hg hk => ⟨(some (v9, ns), none), Lib.hid (hc.out.app ho hg hk), ?_⟩⟩
          obtain ⟨a9, c9, e9⟩ := OwnN.form ho
          subst e9
          clear hc ho hg hk
          refine wpAnyH_take (i := 6) (d := some 20) (.agg #[.int .i64 g, (.slice a9 ns.length c9)]) rfl (by kernel_rfl) rfl rfl (by kernel_rfl) (by kernel_rfl) (by kernel_rfl) (fun _ => by kernel_rfl) ?_
          refine wpAnyH_special (i := 7) (d := some 6) rfl (by kernel_rfl) rfl rfl (by kernel_rfl) fun wN hc => ⟨.pointer (some ⟨wN.heap.size, 0, none⟩), wN.alloc (.cells #[.int .i64 0, .slice none 0 0] 29), (some (.slice a9 ns.length c9, ns), some (wN.heap.size, [.int .i64 0, .slice none 0 0])), .inl (by kernel_rfl), Lib.hid (hc.out.made [.int .i64 0, .slice none 0 0] _), ?_⟩
          clear hc
          refine wpAnyH_special (i := 8) (d := none) rfl (by kernel_rfl) rfl rfl (by kernel_rfl) fun we he => ?_
          have kb := (he.out.bx _ _ rfl).2
          have k0 := kb.cell 0; have f0 := kb.frozen 0
          have k1 := kb.cell 1; have f1 := kb.frozen 1
          simp at k0 k1
          refine ⟨undef, (we.setCell ⟨wN.heap.size, 0, none⟩ (.int .i64 g)).setCell ⟨wN.heap.size, 1, none⟩ (.slice a9 ns.length c9), (some ((.slice a9 ns.length c9), ns), some (wN.heap.size, [.int .i64 g, (.slice a9 ns.length c9)])), .inr ⟨by simp [go_sem, Act.put, k0, k1, f0, f1], rfl⟩, Lib.hid ((he.out.put 0 _).put 1 _), ?_⟩
          clear he kb k0 k1 f0 f1
          exact ⟨by kernel_rfl, ⟨wm.heap.size, (.slice a9 ns.length c9), wN.heap.size⟩, rfl, by kernel_rfl⟩
        · skip
          refine hOp_special (d := some 6) rfl rfl rfl (by kernel_rfl) fun wN hc => ⟨.pointer (some ⟨wN.heap.size, 0, none⟩), wN.alloc (.cells #[.int .i64 0, .slice none 0 0] 29), (some (.slice (some ⟨wm.heap.size, 0, none⟩) 0 0, []), some (wN.heap.size, [.int .i64 0, .slice none 0 0])), by kernel_rfl, Lib.hid (hc.out.made [.int .i64 0, .slice none 0 0] _), ?_⟩
          clear hc
          refine wpAnyH_appN (i := 5) (v := .slice (some ⟨wm.heap.size, 0, none⟩) 0 0) (u := .slice a n c) (ns := ns) (B := w1.heap.size) (.tmp 16) (.tmp 18) (d := some 19) rfl (by kernel_rfl) rfl rfl (by kernel_rfl) rfl rfl rfl HL.out fun wp hc => ⟨hc.out.ow _ _ rfl, H.out.on (Below.on B1.out hc.out.be), hc.out.be.size, fun v9 w9 ho hg hk => ⟨(some (v9, ns), some (wN.heap.size, [.int .i64 0, .slice none 0 0])), Lib.hid (hc.out.app ho hg hk), ?_⟩⟩
          obtain ⟨a9, c9, e9⟩ := OwnN.form ho
          subst e9
          clear hc ho hg hk
          refine wpAnyH_take (i := 6) (d := some 20) (.agg #[.int .i64 g, (.slice a9 ns.length c9)]) rfl (by kernel_rfl) rfl rfl (by kernel_rfl) (by kernel_rfl) (by kernel_rfl) (fun _ => by kernel_rfl) ?_
          refine wpAnyH_special (i := 8) (d := none) rfl (by kernel_rfl) rfl rfl (by kernel_rfl) fun we he => ?_
          have kb := (he.out.bx _ _ rfl).2
          have k0 := kb.cell 0; have f0 := kb.frozen 0
          have k1 := kb.cell 1; have f1 := kb.frozen 1
          simp at k0 k1
          refine ⟨undef, (we.setCell ⟨wN.heap.size, 0, none⟩ (.int .i64 g)).setCell ⟨wN.heap.size, 1, none⟩ (.slice a9 ns.length c9), (some ((.slice a9 ns.length c9), ns), some (wN.heap.size, [.int .i64 g, (.slice a9 ns.length c9)])), .inr ⟨by simp [go_sem, Act.put, k0, k1, f0, f1], rfl⟩, Lib.hid ((he.out.put 0 _).put 1 _), ?_⟩
          clear he kb k0 k1 f0 f1
          exact ⟨by kernel_rfl, ⟨wm.heap.size, (.slice a9 ns.length c9), wN.heap.size⟩, rfl, by kernel_rfl⟩
      · skip
        refine hOp_special (d := some 6) rfl rfl rfl (by kernel_rfl) fun wN hc => ⟨.pointer (some ⟨wN.heap.size, 0, none⟩), wN.alloc (.cells #[.int .i64 0, .slice none 0 0] 29), (none, some (wN.heap.size, [.int .i64 0, .slice none 0 0])), by kernel_rfl, Lib.hid (hc.out.made [.int .i64 0, .slice none 0 0] _), ?_⟩
        clear hc
        refine wpAnyH_special (i := 2) (d := some 16) rfl (by kernel_rfl) rfl rfl (by kernel_rfl) fun wm hc => ⟨.slice (some ⟨wm.heap.size, 0, none⟩) 0 0, wm.alloc (.cells #[] 47), (some (.slice (some ⟨wm.heap.size, 0, none⟩) 0 0, []), some (wN.heap.size, [.int .i64 0, .slice none 0 0])), .inl (by kernel_rfl), Lib.hid hc.out.build, ?_⟩
        clear hc
        refine wpAnyH_appN (i := 5) (v := .slice (some ⟨wm.heap.size, 0, none⟩) 0 0) (u := .slice a n c) (ns := ns) (B := w1.heap.size) (.tmp 16) (.tmp 18) (d := some 19) rfl (by kernel_rfl) rfl rfl (by kernel_rfl) rfl rfl rfl HL.out fun wp hc => ⟨hc.out.ow _ _ rfl, H.out.on (Below.on B1.out hc.out.be), hc.out.be.size, fun v9 w9 ho hg hk => ⟨(some (v9, ns), some (wN.heap.size, [.int .i64 0, .slice none 0 0])), Lib.hid (hc.out.app ho hg hk), ?_⟩⟩
        obtain ⟨a9, c9, e9⟩ := OwnN.form ho
        subst e9
        clear hc ho hg hk
        refine wpAnyH_take (i := 6) (d := some 20) (.agg #[.int .i64 g, (.slice a9 ns.length c9)]) rfl (by kernel_rfl) rfl rfl (by kernel_rfl) (by kernel_rfl) (by kernel_rfl) (fun _ => by kernel_rfl) ?_
        refine wpAnyH_special (i := 8) (d := none) rfl (by kernel_rfl) rfl rfl (by kernel_rfl) fun we he => ?_
        have kb := (he.out.bx _ _ rfl).2
        have k0 := kb.cell 0; have f0 := kb.frozen 0
        have k1 := kb.cell 1; have f1 := kb.frozen 1
        simp at k0 k1
        refine ⟨undef, (we.setCell ⟨wN.heap.size, 0, none⟩ (.int .i64 g)).setCell ⟨wN.heap.size, 1, none⟩ (.slice a9 ns.length c9), (some ((.slice a9 ns.length c9), ns), some (wN.heap.size, [.int .i64 g, (.slice a9 ns.length c9)])), .inr ⟨by simp [go_sem, Act.put, k0, k1, f0, f1], rfl⟩, Lib.hid ((he.out.put 0 _).put 1 _), ?_⟩
        clear he kb k0 k1 f0 f1
        exact ⟨by kernel_rfl, ⟨wm.heap.size, (.slice a9 ns.length c9), wN.heap.size⟩, rfl, by kernel_rfl⟩
    · skip
      rintro ⟨m0, u, N⟩ w3 hz
      dsimp only at hz ⊢
      simp only [Act.put, List.setIfInBounds_toArray, List.set_cons_zero, List.set_cons_succ]
      have zb := hz.out.be
      obtain ⟨hN, zx⟩ := hz.out.bx _ _ rfl
      have zo := hz.out.ow _ _ rfl
      have za := hz.out.ap _ _ _ _ rfl rfl
      have zs := B1.out.size
      have x0 := X0.out.lt
      have x1 := X1.out.lt
      have x2 := X2.out.lt
      have S3 : Hid (Bd w [(N, [.int .i64 g, u]), (w.heap.size + 1 + 1, [.int .i64 0, .slice none 0 0]), (w.heap.size + 1, [.int .i64 k, .int .i64 q, .string t]), (w.heap.size, [.int .i64 g, .slice a n c])] u ns w3) := Lib.hid ⟨Below.on B1.out zb, all_cons ⟨Nat.le_trans zs hN, zx⟩ (all_cons ⟨(by show w.heap.size ≤ w.heap.size + 1 + 1; omega), X2.out.on zb⟩ (all_cons ⟨(by show w.heap.size ≤ w.heap.size + 1; omega), X1.out.on zb⟩ (all_cons ⟨Nat.le_refl _, X0.out.on zb⟩ all_nil))), row5_lower zo zs, all_cons za (all_cons (fun e => by have := (zo.lt _ e).1; omega) (all_cons (fun e => by have := (zo.lt _ e).1; omega) (all_cons (fun e => by have := (zo.lt _ e).1; omega) all_nil)))⟩
      have HN : Hid (w.heap.size + 1 + 1 < N ∧ N < w3.heap.size) := Lib.hid ⟨by omega, zx.lt⟩
      have US := OwnN.form zo
      rw [HNL.out] at US
      obtain ⟨ua, uc, hu⟩ := US
      subst hu
      clear hz zb hN zx zo za zs x0 x1 x2 X0 X1 X2 B1
      have d1 := (S3.out.bx _ (.tail _ (.tail _ (.head _)))).2.cell 1
      simp at d1
      go_upto_region 5 with (fail)
      clear d1
      obtain ⟨w4, hw4⟩ : ∃ z, z = w3.alloc (.cells #[.int .i64 q, .int .i64 (-1), .int .i64 0, .int .i64 0, .int .i64 0] 47) := ⟨_, rfl⟩
      have S4 : Hid (Bd w [(w3.heap.size, [.int .i64 q, .int .i64 (-1), .int .i64 0, .int .i64 0, .int .i64 0]), (N, [.int .i64 g, .slice ua n uc]), (w.heap.size + 1 + 1, [.int .i64 0, .slice none 0 0]), (w.heap.size + 1, [.int .i64 k, .int .i64 q, .string t]), (w.heap.size, [.int .i64 g, .slice a n c])] (.slice ua n uc) ns w4) := Lib.hid (by rw [hw4]; exact S3.out.made [.int .i64 q, .int .i64 (-1), .int .i64 0, .int .i64 0, .int .i64 0] _)
      rw [← hw4]
      clear hw4 S3
      have d0 := (S4.out.bx _ (.tail _ (.tail _ (.tail _ (.head _))))).2.cell 0
      have d1 := (S4.out.bx _ (.tail _ (.tail _ (.tail _ (.head _))))).2.cell 1
      have d2 := (S4.out.bx _ (.tail _ (.tail _ (.tail _ (.head _))))).2.cell 2
      have p0 := (S4.out.bx _ (.tail _ (.tail _ (.tail _ (.tail _ (.head _)))))).2.cell 0
      have p1 := (S4.out.bx _ (.tail _ (.tail _ (.tail _ (.tail _ (.head _)))))).2.cell 1
      simp at d0 d1 d2 p0 p1
      go_upto_region 8 with (fail)
      go_upto_region 9 with (fail)
      go_wp2_with fail
      refine (sread_some HR.out _).mono ?_
      rintro e w5 ⟨rfl, hb5⟩
      have S5 := Lib.hid (S4.out.on hb5)
      clear hb5 d0 d1 d2 p0 p1
      go_upto_region 10 with (fail)
      obtain ⟨w6, hw6⟩ : ∃ z, z = w5.alloc (.cells #[.int .i64 s1, .int .i64 a1, .int .i64 t1] 45) := ⟨_, rfl⟩
      have S6 := Lib.hid (show Bd w ((w5.heap.size, [.int .i64 s1, .int .i64 a1, .int .i64 t1]) :: [(w3.heap.size, [.int .i64 q, .int .i64 (-1), .int .i64 0, .int .i64 0, .int .i64 0]), (N, [.int .i64 g, .slice ua n uc]), (w.heap.size + 1 + 1, [.int .i64 0, .slice none 0 0]), (w.heap.size + 1, [.int .i64 k, .int .i64 q, .string t]), (w.heap.size, [.int .i64 g, .slice a n c])]) (.slice ua n uc) ns w6 by rw [hw6]; exact S5.out.made [.int .i64 s1, .int .i64 a1, .int .i64 t1] _)
      have HM := Lib.hid (show w3.heap.size < w5.heap.size from (S5.out.bx _ (.head _)).2.lt)
      rw [← hw6]
      clear hw6 S5
      have d0 := (S6.out.bx _ (.tail _ (.tail _ (.tail _ (.tail _ (.head _)))))).2.cell 0
      have d1 := (S6.out.bx _ (.tail _ (.tail _ (.tail _ (.tail _ (.head _)))))).2.cell 1
      have d2 := (S6.out.bx _ (.tail _ (.tail _ (.tail _ (.tail _ (.head _)))))).2.cell 2
      simp at d0 d1 d2
      go_upto_region 11 with (fail)
      clear d0 d1 d2
      have n0 := (S6.out.bx _ (.tail _ (.tail _ (.head _)))).2.cell 0
      have n1 := (S6.out.bx _ (.tail _ (.tail _ (.head _)))).2.cell 1
      have r0 := (S6.out.bx _ (.tail _ (.tail _ (.tail _ (.head _))))).2.cell 0
      have r1 := (S6.out.bx _ (.tail _ (.tail _ (.tail _ (.head _))))).2.cell 1
      simp at n0 n1 r0 r1
      have f0 := (S6.out.bx _ (.tail _ (.tail _ (.tail _ (.head _))))).2.frozen 0
      have f1 := (S6.out.bx _ (.tail _ (.tail _ (.tail _ (.head _))))).2.frozen 1
      have hNr := HN.out.1
      go_wp2
      refine bodyPost_ret (v := .tuple #[.agg #[.int .i64 g, .slice ua n uc], .bool false]) ?_ rfl ⟨_, rfl, ?_, ?_⟩
      · simp [results, Tryd.results68, go_sem, r0, r1]
      · refine row5_heap S6.out.ow fun k hk => ?_
        have hne := S6.out.ap _ (.tail _ (.tail _ (.tail _ (.head _))))
        rw [Below.heap_setCell _ _ _ _ (by show k ≠ w.heap.size + 1 + 1; intro e; subst e; exact hne hk), Below.heap_setCell _ _ _ _ (by show k ≠ w.heap.size + 1 + 1; intro e; subst e; exact hne hk)]
      · exact (S6.out.be.setCell (by show w.heap.size ≤ w.heap.size + 1 + 1; omega) _).setCell (by show w.heap.size ≤ w.heap.size + 1 + 1; omega) _
set_option maxRecDepth 20000 in
set_option maxHeartbeats 3200000 in
theorem sbdo_talkNo (g : Int) (v : Value) (ns : List Nt) (k q : Int) (t : ByteArray) (w : World) (h : Nts w v ns) (hb : brdB g ns = true) {s1 a1 t1 : Int} (h0 : k = 1) (hr : rdO g t = some (s1, a1, t1)) (hq : 0 ≤ q) (hf : fitB g ns (⟨0, q, s1, a1, t1⟩ : Nt) = false) : Calls Tryd.prog 68 #[.agg #[.int .i64 g, v], .agg #[.int .i64 k, .int .i64 q, .string t]] w fun e w' => ∃ u, e = .returned (.tuple #[.agg #[.int .i64 g, u], .bool false]) ∧ OwnN w' w.heap.size u ns ∧ Below w.heap.size w w' := by
  obtain ⟨a, c, rfl, _⟩ := h.opened
  obtain ⟨n, hn⟩ : ∃ n, ns.length = n := ⟨_, rfl⟩
  rw [hn] at h ⊢
  have H := Lib.hid h
  have HNL := Lib.hid hn
  have HB := Lib.hid hb
  have HL := Lib.hid (show ns.length ≤ 2000000 from Nat.le_trans (brd_true.1 hb).2.1 (by omega))
  have hn12 : n ≤ 12 := by rw [← hn]; exact (brd_true.1 hb).2.1
  have tg := deedGuard
  have te := run_equal_deed
  have HR := Lib.hid hr
  have hqd : decide (q < 0) = false := by simp; omega
  have HF := Lib.hid hf
  have k0 : (k == 0) = false := by simp [h0]
  have k0n : (k != 0) = true := by simp [h0]
  have k1 : (k == 1) = true := by simp [h0]
  have k2 : (k == 2) = false := by simp [h0]
  clear hf hq h0 hr
  clear h hb hn
  have W3 := bx3 (w := w) [.int .i64 g, .slice a n c] [.int .i64 k, .int .i64 q, .string t] [.int .i64 0, .slice none 0 0] 29 87 29
  obtain ⟨W, hWe, hWs, hW, b0, b1, b2⟩ := W3.out
  have HW := Lib.hid hW
  have HS := Lib.hid hWs
  have HWE := Lib.hid hWe
  have Y0 := Lib.hid b0
  have Y1 := Lib.hid b1
  have Y2 := Lib.hid b2
  clear W3 hWe hWs hW b0 b1 b2
  go_enter Tryd.func68, Tryd.ntmps68
  go_wp2_with fail
  rw [← HWE.out]
  refine (sbrd_any g _ ns _ (H.out.on HW.out) HL.out).mono ?_
  rintro e w1 ⟨rfl, hb1⟩
  rw [HB.out]
  have X0 := Lib.hid (Y0.out.on hb1)
  have X1 := Lib.hid (Y1.out.on hb1)
  have X2 := Lib.hid (Y2.out.on hb1)
  have B1 := Lib.hid (HW.out.trans (hb1.mono HW.out.size))
  clear hb1 Y0 Y1 Y2
  go_wp2_with fail
  apply wp_region_H (Z := Option (Value × List Nt) × Option (Nat × List Value)) (S := fun k => k == 2 || k == 5 || k == 7 || k == 8) (C := fun z w' => Hid (Zc w1 z.1 z.2 w')) [0, 1, 3, 4] (none, none)
  · kernel_rfl
  · kernel_rfl
  · kernel_rfl
  · exact ⟨rfl, rfl, rfl, rfl, trivial⟩
  · rfl
  · decide
  · exact Lib.hid (Zc.start (Below.refl _ _).drew)
  · intro z
    dsimp only [pickL, nthO]
    go_big_quiet_want; go_big_quiet_op; first | go_big_quiet_on | (refine ⟨_, fun _ _ => rfl, ?_⟩; go_big_quiet_on)
    go_big_quiet_want
    go_big_quiet_op
    refine ⟨.int .i64 g, fun w' hw' => ?_, ?_⟩
    · have q := (X0.out.on hw'.out.be).cell 0
      simp at q
      simp [go_sem, q]
    go_big_quiet_on
    go_big_quiet_want; go_big_quiet_op; first | go_big_quiet_on | (refine ⟨_, fun _ _ => rfl, ?_⟩; go_big_quiet_on)
    go_big_quiet_want
    go_big_quiet_op
    refine ⟨.slice a n c, fun w' hw' => ?_, ?_⟩
    · have q := (X0.out.on hw'.out.be).cell 1
      simp at q
      simp [go_sem, q]
    go_big_quiet_on
    exact wpQuiet_nil rfl
  · skip
    refine wpAnyH_key (D := Nat × Value × Nat) (fun d => (some (d.2.1, ns), some (d.2.2, [.int .i64 g, d.2.1]))) (fun d a => ((((a.put (some 16) (.slice (some ⟨d.1, 0, none⟩) 0 0)).put (some 19) (d.2.1)).put (some 20) (.agg #[.int .i64 g, d.2.1])).put (some 6) (.pointer (some ⟨d.2.2, 0, none⟩)))) ?_ ?_
    · skip
      refine wpAnyH_two 2 7 (by kernel_rfl) ?_ ?_
      · skip
        refine hOp_special (d := some 16) rfl rfl rfl (by kernel_rfl) fun wm hc => ⟨.slice (some ⟨wm.heap.size, 0, none⟩) 0 0, wm.alloc (.cells #[] 47), (some (.slice (some ⟨wm.heap.size, 0, none⟩) 0 0, []), none), by kernel_rfl, Lib.hid hc.out.build, ?_⟩
        clear hc
        refine wpAnyH_two 5 7 (by kernel_rfl) ?_ ?_
        · skip
          refine hOp_appN (v := .slice (some ⟨wm.heap.size, 0, none⟩) 0 0) (u := .slice a n c) (ns := ns) (B := w1.heap.size) (.tmp 16) (.tmp 18) (d := some 19) rfl rfl rfl (by kernel_rfl) rfl rfl rfl HL.out fun wp hc => ⟨hc.out.ow _ _ rfl, H.out.on (Below.on B1.out hc.out.be), hc.out.be.size, fun v9 w9 ho hg hk => ⟨(some (v9, ns), none), Lib.hid (hc.out.app ho hg hk), ?_⟩⟩
          obtain ⟨a9, c9, e9⟩ := OwnN.form ho
          subst e9
          clear hc ho hg hk
          refine wpAnyH_take (i := 6) (d := some 20) (.agg #[.int .i64 g, (.slice a9 ns.length c9)]) rfl (by kernel_rfl) rfl rfl (by kernel_rfl) (by kernel_rfl) (by kernel_rfl) (fun _ => by kernel_rfl) ?_
          refine wpAnyH_special (i := 7) (d := some 6) rfl (by kernel_rfl) rfl rfl (by kernel_rfl) fun wN hc => ⟨.pointer (some ⟨wN.heap.size, 0, none⟩), wN.alloc (.cells #[.int .i64 0, .slice none 0 0] 29), (some (.slice a9 ns.length c9, ns), some (wN.heap.size, [.int .i64 0, .slice none 0 0])), .inl (by kernel_rfl), Lib.hid (hc.out.made [.int .i64 0, .slice none 0 0] _), ?_⟩
          clear hc
          refine wpAnyH_special (i := 8) (d := none) rfl (by kernel_rfl) rfl rfl (by kernel_rfl) fun we he => ?_
          have kb := (he.out.bx _ _ rfl).2
          have k0 := kb.cell 0; have f0 := kb.frozen 0
          have k1 := kb.cell 1; have f1 := kb.frozen 1
          simp at k0 k1
          refine ⟨undef, (we.setCell ⟨wN.heap.size, 0, none⟩ (.int .i64 g)).setCell ⟨wN.heap.size, 1, none⟩ (.slice a9 ns.length c9), (some ((.slice a9 ns.length c9), ns), some (wN.heap.size, [.int .i64 g, (.slice a9 ns.length c9)])), .inr ⟨by simp [go_sem, Act.put, k0, k1, f0, f1], rfl⟩, Lib.hid ((he.out.put 0 _).put 1 _), ?_⟩
          clear he kb k0 k1 f0 f1
          exact ⟨by kernel_rfl, ⟨wm.heap.size, (.slice a9 ns.length c9), wN.heap.size⟩, rfl, by kernel_rfl⟩
        · skip
          refine hOp_special (d := some 6) rfl rfl rfl (by kernel_rfl) fun wN hc => ⟨.pointer (some ⟨wN.heap.size, 0, none⟩), wN.alloc (.cells #[.int .i64 0, .slice none 0 0] 29), (some (.slice (some ⟨wm.heap.size, 0, none⟩) 0 0, []), some (wN.heap.size, [.int .i64 0, .slice none 0 0])), by kernel_rfl, Lib.hid (hc.out.made [.int .i64 0, .slice none 0 0] _), ?_⟩
          clear hc
          refine wpAnyH_appN (i := 5) (v := .slice (some ⟨wm.heap.size, 0, none⟩) 0 0) (u := .slice a n c) (ns := ns) (B := w1.heap.size) (.tmp 16) (.tmp 18) (d := some 19) rfl (by kernel_rfl) rfl rfl (by kernel_rfl) rfl rfl rfl HL.out fun wp hc => ⟨hc.out.ow _ _ rfl, H.out.on (Below.on B1.out hc.out.be), hc.out.be.size, fun v9 w9 ho hg hk => ⟨(some (v9, ns), some (wN.heap.size, [.int .i64 0, .slice none 0 0])), Lib.hid (hc.out.app ho hg hk), ?_⟩⟩
          obtain ⟨a9, c9, e9⟩ := OwnN.form ho
          subst e9
          clear hc ho hg hk
          refine wpAnyH_take (i := 6) (d := some 20) (.agg #[.int .i64 g, (.slice a9 ns.length c9)]) rfl (by kernel_rfl) rfl rfl (by kernel_rfl) (by kernel_rfl) (by kernel_rfl) (fun _ => by kernel_rfl) ?_
          refine wpAnyH_special (i := 8) (d := none) rfl (by kernel_rfl) rfl rfl (by kernel_rfl) fun we he => ?_
          have kb := (he.out.bx _ _ rfl).2
          have k0 := kb.cell 0; have f0 := kb.frozen 0
          have k1 := kb.cell 1; have f1 := kb.frozen 1
          simp at k0 k1
          refine ⟨undef, (we.setCell ⟨wN.heap.size, 0, none⟩ (.int .i64 g)).setCell ⟨wN.heap.size, 1, none⟩ (.slice a9 ns.length c9), (some ((.slice a9 ns.length c9), ns), some (wN.heap.size, [.int .i64 g, (.slice a9 ns.length c9)])), .inr ⟨by simp [go_sem, Act.put, k0, k1, f0, f1], rfl⟩, Lib.hid ((he.out.put 0 _).put 1 _), ?_⟩
          clear he kb k0 k1 f0 f1
          exact ⟨by kernel_rfl, ⟨wm.heap.size, (.slice a9 ns.length c9), wN.heap.size⟩, rfl, by kernel_rfl⟩
      · skip
        refine hOp_special (d := some 6) rfl rfl rfl (by kernel_rfl) fun wN hc => ⟨.pointer (some ⟨wN.heap.size, 0, none⟩), wN.alloc (.cells #[.int .i64 0, .slice none 0 0] 29), (none, some (wN.heap.size, [.int .i64 0, .slice none 0 0])), by kernel_rfl, Lib.hid (hc.out.made [.int .i64 0, .slice none 0 0] _), ?_⟩
        clear hc
        refine wpAnyH_special (i := 2) (d := some 16) rfl (by kernel_rfl) rfl rfl (by kernel_rfl) fun wm hc => ⟨.slice (some ⟨wm.heap.size, 0, none⟩) 0 0, wm.alloc (.cells #[] 47), (some (.slice (some ⟨wm.heap.size, 0, none⟩) 0 0, []), some (wN.heap.size, [.int .i64 0, .slice none 0 0])), .inl (by kernel_rfl), Lib.hid hc.out.build, ?_⟩
        clear hc
        refine wpAnyH_appN (i := 5) (v := .slice (some ⟨wm.heap.size, 0, none⟩) 0 0) (u := .slice a n c) (ns := ns) (B := w1.heap.size) (.tmp 16) (.tmp 18) (d := some 19) rfl (by kernel_rfl) rfl rfl (by kernel_rfl) rfl rfl rfl HL.out fun wp hc => ⟨hc.out.ow _ _ rfl, H.out.on (Below.on B1.out hc.out.be), hc.out.be.size, fun v9 w9 ho hg hk => ⟨(some (v9, ns), some (wN.heap.size, [.int .i64 0, .slice none 0 0])), Lib.hid (hc.out.app ho hg hk), ?_⟩⟩
        obtain ⟨a9, c9, e9⟩ := OwnN.form ho
        subst e9
        clear hc ho hg hk
        refine wpAnyH_take (i := 6) (d := some 20) (.agg #[.int .i64 g, (.slice a9 ns.length c9)]) rfl (by kernel_rfl) rfl rfl (by kernel_rfl) (by kernel_rfl) (by kernel_rfl) (fun _ => by kernel_rfl) ?_
        refine wpAnyH_special (i := 8) (d := none) rfl (by kernel_rfl) rfl rfl (by kernel_rfl) fun we he => ?_
        have kb := (he.out.bx _ _ rfl).2
        have k0 := kb.cell 0; have f0 := kb.frozen 0
        have k1 := kb.cell 1; have f1 := kb.frozen 1
        simp at k0 k1
        refine ⟨undef, (we.setCell ⟨wN.heap.size, 0, none⟩ (.int .i64 g)).setCell ⟨wN.heap.size, 1, none⟩ (.slice a9 ns.length c9), (some ((.slice a9 ns.length c9), ns), some (wN.heap.size, [.int .i64 g, (.slice a9 ns.length c9)])), .inr ⟨by simp [go_sem, Act.put, k0, k1, f0, f1], rfl⟩, Lib.hid ((he.out.put 0 _).put 1 _), ?_⟩
        clear he kb k0 k1 f0 f1
        exact ⟨by kernel_rfl, ⟨wm.heap.size, (.slice a9 ns.length c9), wN.heap.size⟩, rfl, by kernel_rfl⟩
    · skip
      rintro ⟨m0, u, N⟩ w3 hz
      dsimp only at hz ⊢
      simp only [Act.put, List.setIfInBounds_toArray, List.set_cons_zero, List.set_cons_succ]
      have zb := hz.out.be
      obtain ⟨hN, zx⟩ := hz.out.bx _ _ rfl
      have zo := hz.out.ow _ _ rfl
      have za := hz.out.ap _ _ _ _ rfl rfl
      have zs := B1.out.size
      have x0 := X0.out.lt
      have x1 := X1.out.lt
      have x2 := X2.out.lt
      have S3 : Hid (Bd w [(N, [.int .i64 g, u]), (w.heap.size + 1 + 1, [.int .i64 0, .slice none 0 0]), (w.heap.size + 1, [.int .i64 k, .int .i64 q, .string t]), (w.heap.size, [.int .i64 g, .slice a n c])] u ns w3) := Lib.hid ⟨Below.on B1.out zb, all_cons ⟨Nat.le_trans zs hN, zx⟩ (all_cons ⟨(by show w.heap.size ≤ w.heap.size + 1 + 1; omega), X2.out.on zb⟩ (all_cons ⟨(by show w.heap.size ≤ w.heap.size + 1; omega), X1.out.on zb⟩ (all_cons ⟨Nat.le_refl _, X0.out.on zb⟩ all_nil))), row5_lower zo zs, all_cons za (all_cons (fun e => by have := (zo.lt _ e).1; omega) (all_cons (fun e => by have := (zo.lt _ e).1; omega) (all_cons (fun e => by have := (zo.lt _ e).1; omega) all_nil)))⟩
      have HN : Hid (w.heap.size + 1 + 1 < N ∧ N < w3.heap.size) := Lib.hid ⟨by omega, zx.lt⟩
      have US := OwnN.form zo
      rw [HNL.out] at US
      obtain ⟨ua, uc, hu⟩ := US
      subst hu
      clear hz zb hN zx zo za zs x0 x1 x2 X0 X1 X2 B1
      have d1 := (S3.out.bx _ (.tail _ (.tail _ (.head _)))).2.cell 1
      simp at d1
      go_upto_region 5 with (fail)
      clear d1
      obtain ⟨w4, hw4⟩ : ∃ z, z = w3.alloc (.cells #[.int .i64 q, .int .i64 (-1), .int .i64 0, .int .i64 0, .int .i64 0] 47) := ⟨_, rfl⟩
      have S4 : Hid (Bd w [(w3.heap.size, [.int .i64 q, .int .i64 (-1), .int .i64 0, .int .i64 0, .int .i64 0]), (N, [.int .i64 g, .slice ua n uc]), (w.heap.size + 1 + 1, [.int .i64 0, .slice none 0 0]), (w.heap.size + 1, [.int .i64 k, .int .i64 q, .string t]), (w.heap.size, [.int .i64 g, .slice a n c])] (.slice ua n uc) ns w4) := Lib.hid (by rw [hw4]; exact S3.out.made [.int .i64 q, .int .i64 (-1), .int .i64 0, .int .i64 0, .int .i64 0] _)
      rw [← hw4]
      clear hw4 S3
      have d0 := (S4.out.bx _ (.tail _ (.tail _ (.tail _ (.head _))))).2.cell 0
      have d1 := (S4.out.bx _ (.tail _ (.tail _ (.tail _ (.head _))))).2.cell 1
      have d2 := (S4.out.bx _ (.tail _ (.tail _ (.tail _ (.head _))))).2.cell 2
      have p0 := (S4.out.bx _ (.tail _ (.tail _ (.tail _ (.tail _ (.head _)))))).2.cell 0
      have p1 := (S4.out.bx _ (.tail _ (.tail _ (.tail _ (.tail _ (.head _)))))).2.cell 1
      simp at d0 d1 d2 p0 p1
      go_upto_region 8 with (fail)
      go_upto_region 9 with (fail)
      go_wp2_with fail
      refine (sread_some HR.out _).mono ?_
      rintro e w5 ⟨rfl, hb5⟩
      have S5 := Lib.hid (S4.out.on hb5)
      clear hb5 d0 d1 d2 p0 p1
      go_upto_region 10 with (fail)
      obtain ⟨w6, hw6⟩ : ∃ z, z = w5.alloc (.cells #[.int .i64 s1, .int .i64 a1, .int .i64 t1] 45) := ⟨_, rfl⟩
      have S6 := Lib.hid (show Bd w ((w5.heap.size, [.int .i64 s1, .int .i64 a1, .int .i64 t1]) :: [(w3.heap.size, [.int .i64 q, .int .i64 (-1), .int .i64 0, .int .i64 0, .int .i64 0]), (N, [.int .i64 g, .slice ua n uc]), (w.heap.size + 1 + 1, [.int .i64 0, .slice none 0 0]), (w.heap.size + 1, [.int .i64 k, .int .i64 q, .string t]), (w.heap.size, [.int .i64 g, .slice a n c])]) (.slice ua n uc) ns w6 by rw [hw6]; exact S5.out.made [.int .i64 s1, .int .i64 a1, .int .i64 t1] _)
      have HM := Lib.hid (show w3.heap.size < w5.heap.size from (S5.out.bx _ (.head _)).2.lt)
      rw [← hw6]
      clear hw6 S5
      have d0 := (S6.out.bx _ (.tail _ (.tail _ (.tail _ (.tail _ (.head _)))))).2.cell 0
      have d1 := (S6.out.bx _ (.tail _ (.tail _ (.tail _ (.tail _ (.head _)))))).2.cell 1
      have d2 := (S6.out.bx _ (.tail _ (.tail _ (.tail _ (.tail _ (.head _)))))).2.cell 2
      have y0 := (S6.out.bx _ (.head _)).2.cell 0
      have y1 := (S6.out.bx _ (.head _)).2.cell 1
      have y2 := (S6.out.bx _ (.head _)).2.cell 2
      have z0 := (S6.out.bx _ (.tail _ (.head _))).2.cell 0
      have z1 := (S6.out.bx _ (.tail _ (.head _))).2.cell 1
      have z2 := (S6.out.bx _ (.tail _ (.head _))).2.cell 2
      have z3 := (S6.out.bx _ (.tail _ (.head _))).2.cell 3
      have z4 := (S6.out.bx _ (.tail _ (.head _))).2.cell 4
      simp at d0 d1 d2 y0 y1 y2 z0 z1 z2 z3 z4
      have m0 := (S6.out.bx _ (.tail _ (.head _))).2.frozen 0
      have m1 := (S6.out.bx _ (.tail _ (.head _))).2.frozen 1
      have m2 := (S6.out.bx _ (.tail _ (.head _))).2.frozen 2
      have m3 := (S6.out.bx _ (.tail _ (.head _))).2.frozen 3
      have m4 := (S6.out.bx _ (.tail _ (.head _))).2.frozen 4
      have hmm := HM.out
      go_upto_region 15 with (fail)
      clear d0 d1 d2 y0 y1 y2 z0 z1 z2 z3 z4 m0 m1 m2 m3 m4
      have S7 : Hid (Bd w [(w3.heap.size, [.int .i64 q, .int .i64 (-1), .int .i64 0, .int .i64 0, .int .i64 0]), (N, [.int .i64 g, .slice ua n uc]), (w.heap.size + 1 + 1, [.int .i64 0, .slice none 0 0]), (w.heap.size + 1, [.int .i64 k, .int .i64 q, .string t]), (w.heap.size, [.int .i64 g, .slice a n c])] (.slice ua n uc) ns w6) := Lib.hid (S6.out.sub fun b m => .tail _ m)
      have hne : ∀ b, b ∈ [(N, [Value.int .i64 g, .slice ua n uc]), (w.heap.size + 1 + 1, [.int .i64 0, .slice none 0 0]), (w.heap.size + 1, [.int .i64 k, .int .i64 q, .string t]), (w.heap.size, [.int .i64 g, .slice a n c])] → b.1 ≠ w3.heap.size := by
        have h1 := HN.out.1
        have h2 := HN.out.2
        exact all_cons (by show N ≠ w3.heap.size; omega) (all_cons (by show w.heap.size + 1 + 1 ≠ w3.heap.size; omega) (all_cons (by show w.heap.size + 1 ≠ w3.heap.size; omega) (all_cons (by show w.heap.size ≠ w3.heap.size; omega) all_nil)))
      have S8 := Lib.hid (((((S7.out.put hne 0 (.int .i64 0)).put hne 1 (.int .i64 q)).put hne 2 (.int .i64 s1)).put hne 3 (.int .i64 a1)).put hne 4 (.int .i64 t1))
      simp only [List.set_cons_zero, List.set_cons_succ] at S8
      obtain ⟨w8, hw8⟩ : ∃ z, z = ((((w6.setCell ⟨w3.heap.size, 0, none⟩ (.int .i64 0)).setCell ⟨w3.heap.size, 1, none⟩ (.int .i64 q)).setCell ⟨w3.heap.size, 2, none⟩ (.int .i64 s1)).setCell ⟨w3.heap.size, 3, none⟩ (.int .i64 a1)).setCell ⟨w3.heap.size, 4, none⟩ (.int .i64 t1) := ⟨_, rfl⟩
      rw [← hw8] at S8 ⊢
      clear hw8 S6 S7 hne hmm
      have p0 := (S8.out.bx _ (.tail _ (.tail _ (.tail _ (.tail _ (.head _)))))).2.cell 0
      have p1 := (S8.out.bx _ (.tail _ (.tail _ (.tail _ (.tail _ (.head _)))))).2.cell 1
      have z0 := (S8.out.bx _ (.head _)).2.cell 0
      have z1 := (S8.out.bx _ (.head _)).2.cell 1
      have z2 := (S8.out.bx _ (.head _)).2.cell 2
      have z3 := (S8.out.bx _ (.head _)).2.cell 3
      have z4 := (S8.out.bx _ (.head _)).2.cell 4
      simp at p0 p1 z0 z1 z2 z3 z4
      go_wp2_with fail
      refine (snt_is (x := (⟨0, q, s1, a1, t1⟩ : Nt)) HF.out (H.out.on S8.out.be) HL.out).mono ?_
      rintro e w9 ⟨rfl, hb9⟩
      have S9 := Lib.hid (S8.out.on hb9)
      clear hb9 p0 p1 z0 z1 z2 z3 z4
      have p0 := (S9.out.bx _ (.tail _ (.tail _ (.tail _ (.tail _ (.head _)))))).2.cell 0
      have p1 := (S9.out.bx _ (.tail _ (.tail _ (.tail _ (.tail _ (.head _)))))).2.cell 1
      simp at p0 p1
      go_upto_region 16 with (fail)
      clear p0 p1
      have n0 := (S9.out.bx _ (.tail _ (.head _))).2.cell 0
      have n1 := (S9.out.bx _ (.tail _ (.head _))).2.cell 1
      have r0 := (S9.out.bx _ (.tail _ (.tail _ (.head _)))).2.cell 0
      have r1 := (S9.out.bx _ (.tail _ (.tail _ (.head _)))).2.cell 1
      simp at n0 n1 r0 r1
      have f0 := (S9.out.bx _ (.tail _ (.tail _ (.head _)))).2.frozen 0
      have f1 := (S9.out.bx _ (.tail _ (.tail _ (.head _)))).2.frozen 1
      have hNr := HN.out.1
      go_wp2
      refine bodyPost_ret (v := .tuple #[.agg #[.int .i64 g, .slice ua n uc], .bool false]) ?_ rfl ⟨_, rfl, ?_, ?_⟩
      · simp [results, Tryd.results68, go_sem, r0, r1]
      · refine row5_heap S9.out.ow fun k hk => ?_
        have hne := S9.out.ap _ (.tail _ (.tail _ (.head _)))
        rw [Below.heap_setCell _ _ _ _ (by show k ≠ w.heap.size + 1 + 1; intro e; subst e; exact hne hk), Below.heap_setCell _ _ _ _ (by show k ≠ w.heap.size + 1 + 1; intro e; subst e; exact hne hk)]
      · exact (S9.out.be.setCell (by show w.heap.size ≤ w.heap.size + 1 + 1; omega) _).setCell (by show w.heap.size ≤ w.heap.size + 1 + 1; omega) _
set_option maxRecDepth 20000 in
set_option maxHeartbeats 3200000 in
theorem sbdo_talkFull (g : Int) (v : Value) (ns : List Nt) (k q : Int) (t : ByteArray) (w : World) (h : Nts w v ns) (hb : brdB g ns = true) {s1 a1 t1 : Int} (h0 : k = 1) (hr : rdO g t = some (s1, a1, t1)) (hq : 0 ≤ q) (hf : fitB g ns (⟨0, q, s1, a1, t1⟩ : Nt) = true) (h12 : ¬ ns.length < 12) : Calls Tryd.prog 68 #[.agg #[.int .i64 g, v], .agg #[.int .i64 k, .int .i64 q, .string t]] w fun e w' => ∃ u, e = .returned (.tuple #[.agg #[.int .i64 g, u], .bool false]) ∧ OwnN w' w.heap.size u ns ∧ Below w.heap.size w w' := by
  obtain ⟨a, c, rfl, _⟩ := h.opened
  obtain ⟨n, hn⟩ : ∃ n, ns.length = n := ⟨_, rfl⟩
  rw [hn] at h ⊢
  have H := Lib.hid h
  have HNL := Lib.hid hn
  have HB := Lib.hid hb
  have HL := Lib.hid (show ns.length ≤ 2000000 from Nat.le_trans (brd_true.1 hb).2.1 (by omega))
  have hn12 : n ≤ 12 := by rw [← hn]; exact (brd_true.1 hb).2.1
  have tg := deedGuard
  have te := run_equal_deed
  have HR := Lib.hid hr
  have hqd : decide (q < 0) = false := by simp; omega
  have HF := Lib.hid hf
  rw [hn] at h12
  have hd12 : decide (12 ≤ n) = true := by simp; omega
  have hd12i : decide ((12 : Int) ≤ (n : Int)) = true := by simp; omega
  have k0 : (k == 0) = false := by simp [h0]
  have k0n : (k != 0) = true := by simp [h0]
  have k1 : (k == 1) = true := by simp [h0]
  have k2 : (k == 2) = false := by simp [h0]
  clear hf hq h0 hr h12
  clear h hb hn
  have W3 := bx3 (w := w) [.int .i64 g, .slice a n c] [.int .i64 k, .int .i64 q, .string t] [.int .i64 0, .slice none 0 0] 29 87 29
  obtain ⟨W, hWe, hWs, hW, b0, b1, b2⟩ := W3.out
  have HW := Lib.hid hW
  have HS := Lib.hid hWs
  have HWE := Lib.hid hWe
  have Y0 := Lib.hid b0
  have Y1 := Lib.hid b1
  have Y2 := Lib.hid b2
  clear W3 hWe hWs hW b0 b1 b2
  go_enter Tryd.func68, Tryd.ntmps68
  go_wp2_with fail
  rw [← HWE.out]
  refine (sbrd_any g _ ns _ (H.out.on HW.out) HL.out).mono ?_
  rintro e w1 ⟨rfl, hb1⟩
  rw [HB.out]
  have X0 := Lib.hid (Y0.out.on hb1)
  have X1 := Lib.hid (Y1.out.on hb1)
  have X2 := Lib.hid (Y2.out.on hb1)
  have B1 := Lib.hid (HW.out.trans (hb1.mono HW.out.size))
  clear hb1 Y0 Y1 Y2
  go_wp2_with fail
  apply wp_region_H (Z := Option (Value × List Nt) × Option (Nat × List Value)) (S := fun k => k == 2 || k == 5 || k == 7 || k == 8) (C := fun z w' => Hid (Zc w1 z.1 z.2 w')) [0, 1, 3, 4] (none, none)
  · kernel_rfl
  · kernel_rfl
  · kernel_rfl
  · exact ⟨rfl, rfl, rfl, rfl, trivial⟩
  · rfl
  · decide
  · exact Lib.hid (Zc.start (Below.refl _ _).drew)
  · intro z
    dsimp only [pickL, nthO]
    go_big_quiet_want; go_big_quiet_op; first | go_big_quiet_on | (refine ⟨_, fun _ _ => rfl, ?_⟩; go_big_quiet_on)
    go_big_quiet_want
    go_big_quiet_op
    refine ⟨.int .i64 g, fun w' hw' => ?_, ?_⟩
    · have q := (X0.out.on hw'.out.be).cell 0
      simp at q
      simp [go_sem, q]
    go_big_quiet_on
    go_big_quiet_want; go_big_quiet_op; first | go_big_quiet_on | (refine ⟨_, fun _ _ => rfl, ?_⟩; go_big_quiet_on)
    go_big_quiet_want
    go_big_quiet_op
    refine ⟨.slice a n c, fun w' hw' => ?_, ?_⟩
    · have q := (X0.out.on hw'.out.be).cell 1
      simp at q
      simp [go_sem, q]
    go_big_quiet_on
    exact wpQuiet_nil rfl
  · skip
    refine wpAnyH_key (D := Nat × Value × Nat) (fun d => (some (d.2.1, ns), some (d.2.2, [.int .i64 g, d.2.1]))) (fun d a => ((((a.put (some 16) (.slice (some ⟨d.1, 0, none⟩) 0 0)).put (some 19) (d.2.1)).put (some 20) (.agg #[.int .i64 g, d.2.1])).put (some 6) (.pointer (some ⟨d.2.2, 0, none⟩)))) ?_ ?_
    · skip
      refine wpAnyH_two 2 7 (by kernel_rfl) ?_ ?_
      · skip
        refine hOp_special (d := some 16) rfl rfl rfl (by kernel_rfl) fun wm hc => ⟨.slice (some ⟨wm.heap.size, 0, none⟩) 0 0, wm.alloc (.cells #[] 47), (some (.slice (some ⟨wm.heap.size, 0, none⟩) 0 0, []), none), by kernel_rfl, Lib.hid hc.out.build, ?_⟩
        clear hc
        refine wpAnyH_two 5 7 (by kernel_rfl) ?_ ?_
        · skip
          refine hOp_appN (v := .slice (some ⟨wm.heap.size, 0, none⟩) 0 0) (u := .slice a n c) (ns := ns) (B := w1.heap.size) (.tmp 16) (.tmp 18) (d := some 19) rfl rfl rfl (by kernel_rfl) rfl rfl rfl HL.out fun wp hc => ⟨hc.out.ow _ _ rfl, H.out.on (Below.on B1.out hc.out.be), hc.out.be.size, fun v9 w9 ho hg hk => ⟨(some (v9, ns), none), Lib.hid (hc.out.app ho hg hk), ?_⟩⟩
          obtain ⟨a9, c9, e9⟩ := OwnN.form ho
          subst e9
          clear hc ho hg hk
          refine wpAnyH_take (i := 6) (d := some 20) (.agg #[.int .i64 g, (.slice a9 ns.length c9)]) rfl (by kernel_rfl) rfl rfl (by kernel_rfl) (by kernel_rfl) (by kernel_rfl) (fun _ => by kernel_rfl) ?_
          refine wpAnyH_special (i := 7) (d := some 6) rfl (by kernel_rfl) rfl rfl (by kernel_rfl) fun wN hc => ⟨.pointer (some ⟨wN.heap.size, 0, none⟩), wN.alloc (.cells #[.int .i64 0, .slice none 0 0] 29), (some (.slice a9 ns.length c9, ns), some (wN.heap.size, [.int .i64 0, .slice none 0 0])), .inl (by kernel_rfl), Lib.hid (hc.out.made [.int .i64 0, .slice none 0 0] _), ?_⟩
          clear hc
          refine wpAnyH_special (i := 8) (d := none) rfl (by kernel_rfl) rfl rfl (by kernel_rfl) fun we he => ?_
          have kb := (he.out.bx _ _ rfl).2
          have k0 := kb.cell 0; have f0 := kb.frozen 0
          have k1 := kb.cell 1; have f1 := kb.frozen 1
          simp at k0 k1
          refine ⟨undef, (we.setCell ⟨wN.heap.size, 0, none⟩ (.int .i64 g)).setCell ⟨wN.heap.size, 1, none⟩ (.slice a9 ns.length c9), (some ((.slice a9 ns.length c9), ns), some (wN.heap.size, [.int .i64 g, (.slice a9 ns.length c9)])), .inr ⟨by simp [go_sem, Act.put, k0, k1, f0, f1], rfl⟩, Lib.hid ((he.out.put 0 _).put 1 _), ?_⟩
          clear he kb k0 k1 f0 f1
          exact ⟨by kernel_rfl, ⟨wm.heap.size, (.slice a9 ns.length c9), wN.heap.size⟩, rfl, by kernel_rfl⟩
        · skip
          refine hOp_special (d := some 6) rfl rfl rfl (by kernel_rfl) fun wN hc => ⟨.pointer (some ⟨wN.heap.size, 0, none⟩), wN.alloc (.cells #[.int .i64 0, .slice none 0 0] 29), (some (.slice (some ⟨wm.heap.size, 0, none⟩) 0 0, []), some (wN.heap.size, [.int .i64 0, .slice none 0 0])), by kernel_rfl, Lib.hid (hc.out.made [.int .i64 0, .slice none 0 0] _), ?_⟩
          clear hc
          refine wpAnyH_appN (i := 5) (v := .slice (some ⟨wm.heap.size, 0, none⟩) 0 0) (u := .slice a n c) (ns := ns) (B := w1.heap.size) (.tmp 16) (.tmp 18) (d := some 19) rfl (by kernel_rfl) rfl rfl (by kernel_rfl) rfl rfl rfl HL.out fun wp hc => ⟨hc.out.ow _ _ rfl, H.out.on (Below.on B1.out hc.out.be), hc.out.be.size, fun v9 w9 ho hg hk => ⟨(some (v9, ns), some (wN.heap.size, [.int .i64 0, .slice none 0 0])), Lib.hid (hc.out.app ho hg hk), ?_⟩⟩
          obtain ⟨a9, c9, e9⟩ := OwnN.form ho
          subst e9
          clear hc ho hg hk
          refine wpAnyH_take (i := 6) (d := some 20) (.agg #[.int .i64 g, (.slice a9 ns.length c9)]) rfl (by kernel_rfl) rfl rfl (by kernel_rfl) (by kernel_rfl) (by kernel_rfl) (fun _ => by kernel_rfl) ?_
          refine wpAnyH_special (i := 8) (d := none) rfl (by kernel_rfl) rfl rfl (by kernel_rfl) fun we he => ?_
          have kb := (he.out.bx _ _ rfl).2
          have k0 := kb.cell 0; have f0 := kb.frozen 0
          have k1 := kb.cell 1; have f1 := kb.frozen 1
          simp at k0 k1
          refine ⟨undef, (we.setCell ⟨wN.heap.size, 0, none⟩ (.int .i64 g)).setCell ⟨wN.heap.size, 1, none⟩ (.slice a9 ns.length c9), (some ((.slice a9 ns.length c9), ns), some (wN.heap.size, [.int .i64 g, (.slice a9 ns.length c9)])), .inr ⟨by simp [go_sem, Act.put, k0, k1, f0, f1], rfl⟩, Lib.hid ((he.out.put 0 _).put 1 _), ?_⟩
          clear he kb k0 k1 f0 f1
          exact ⟨by kernel_rfl, ⟨wm.heap.size, (.slice a9 ns.length c9), wN.heap.size⟩, rfl, by kernel_rfl⟩
      · skip
        refine hOp_special (d := some 6) rfl rfl rfl (by kernel_rfl) fun wN hc => ⟨.pointer (some ⟨wN.heap.size, 0, none⟩), wN.alloc (.cells #[.int .i64 0, .slice none 0 0] 29), (none, some (wN.heap.size, [.int .i64 0, .slice none 0 0])), by kernel_rfl, Lib.hid (hc.out.made [.int .i64 0, .slice none 0 0] _), ?_⟩
        clear hc
        refine wpAnyH_special (i := 2) (d := some 16) rfl (by kernel_rfl) rfl rfl (by kernel_rfl) fun wm hc => ⟨.slice (some ⟨wm.heap.size, 0, none⟩) 0 0, wm.alloc (.cells #[] 47), (some (.slice (some ⟨wm.heap.size, 0, none⟩) 0 0, []), some (wN.heap.size, [.int .i64 0, .slice none 0 0])), .inl (by kernel_rfl), Lib.hid hc.out.build, ?_⟩
        clear hc
        refine wpAnyH_appN (i := 5) (v := .slice (some ⟨wm.heap.size, 0, none⟩) 0 0) (u := .slice a n c) (ns := ns) (B := w1.heap.size) (.tmp 16) (.tmp 18) (d := some 19) rfl (by kernel_rfl) rfl rfl (by kernel_rfl) rfl rfl rfl HL.out fun wp hc => ⟨hc.out.ow _ _ rfl, H.out.on (Below.on B1.out hc.out.be), hc.out.be.size, fun v9 w9 ho hg hk => ⟨(some (v9, ns), some (wN.heap.size, [.int .i64 0, .slice none 0 0])), Lib.hid (hc.out.app ho hg hk), ?_⟩⟩
        obtain ⟨a9, c9, e9⟩ := OwnN.form ho
        subst e9
        clear hc ho hg hk
        refine wpAnyH_take (i := 6) (d := some 20) (.agg #[.int .i64 g, (.slice a9 ns.length c9)]) rfl (by kernel_rfl) rfl rfl (by kernel_rfl) (by kernel_rfl) (by kernel_rfl) (fun _ => by kernel_rfl) ?_
        refine wpAnyH_special (i := 8) (d := none) rfl (by kernel_rfl) rfl rfl (by kernel_rfl) fun we he => ?_
        have kb := (he.out.bx _ _ rfl).2
        have k0 := kb.cell 0; have f0 := kb.frozen 0
        have k1 := kb.cell 1; have f1 := kb.frozen 1
        simp at k0 k1
        refine ⟨undef, (we.setCell ⟨wN.heap.size, 0, none⟩ (.int .i64 g)).setCell ⟨wN.heap.size, 1, none⟩ (.slice a9 ns.length c9), (some ((.slice a9 ns.length c9), ns), some (wN.heap.size, [.int .i64 g, (.slice a9 ns.length c9)])), .inr ⟨by simp [go_sem, Act.put, k0, k1, f0, f1], rfl⟩, Lib.hid ((he.out.put 0 _).put 1 _), ?_⟩
        clear he kb k0 k1 f0 f1
        exact ⟨by kernel_rfl, ⟨wm.heap.size, (.slice a9 ns.length c9), wN.heap.size⟩, rfl, by kernel_rfl⟩
    · skip
      rintro ⟨m0, u, N⟩ w3 hz
      dsimp only at hz ⊢
      simp only [Act.put, List.setIfInBounds_toArray, List.set_cons_zero, List.set_cons_succ]
      have zb := hz.out.be
      obtain ⟨hN, zx⟩ := hz.out.bx _ _ rfl
      have zo := hz.out.ow _ _ rfl
      have za := hz.out.ap _ _ _ _ rfl rfl
      have zs := B1.out.size
      have x0 := X0.out.lt
      have x1 := X1.out.lt
      have x2 := X2.out.lt
      have S3 : Hid (Bd w [(N, [.int .i64 g, u]), (w.heap.size + 1 + 1, [.int .i64 0, .slice none 0 0]), (w.heap.size + 1, [.int .i64 k, .int .i64 q, .string t]), (w.heap.size, [.int .i64 g, .slice a n c])] u ns w3) := Lib.hid ⟨Below.on B1.out zb, all_cons ⟨Nat.le_trans zs hN, zx⟩ (all_cons ⟨(by show w.heap.size ≤ w.heap.size + 1 + 1; omega), X2.out.on zb⟩ (all_cons ⟨(by show w.heap.size ≤ w.heap.size + 1; omega), X1.out.on zb⟩ (all_cons ⟨Nat.le_refl _, X0.out.on zb⟩ all_nil))), row5_lower zo zs, all_cons za (all_cons (fun e => by have := (zo.lt _ e).1; omega) (all_cons (fun e => by have := (zo.lt _ e).1; omega) (all_cons (fun e => by have := (zo.lt _ e).1; omega) all_nil)))⟩
      have HN : Hid (w.heap.size + 1 + 1 < N ∧ N < w3.heap.size) := Lib.hid ⟨by omega, zx.lt⟩
      have US := OwnN.form zo
      rw [HNL.out] at US
      obtain ⟨ua, uc, hu⟩ := US
      subst hu
      clear hz zb hN zx zo za zs x0 x1 x2 X0 X1 X2 B1
      have d1 := (S3.out.bx _ (.tail _ (.tail _ (.head _)))).2.cell 1
      simp at d1
      go_upto_region 5 with (fail)
      clear d1
      obtain ⟨w4, hw4⟩ : ∃ z, z = w3.alloc (.cells #[.int .i64 q, .int .i64 (-1), .int .i64 0, .int .i64 0, .int .i64 0] 47) := ⟨_, rfl⟩
      have S4 : Hid (Bd w [(w3.heap.size, [.int .i64 q, .int .i64 (-1), .int .i64 0, .int .i64 0, .int .i64 0]), (N, [.int .i64 g, .slice ua n uc]), (w.heap.size + 1 + 1, [.int .i64 0, .slice none 0 0]), (w.heap.size + 1, [.int .i64 k, .int .i64 q, .string t]), (w.heap.size, [.int .i64 g, .slice a n c])] (.slice ua n uc) ns w4) := Lib.hid (by rw [hw4]; exact S3.out.made [.int .i64 q, .int .i64 (-1), .int .i64 0, .int .i64 0, .int .i64 0] _)
      rw [← hw4]
      clear hw4 S3
      have d0 := (S4.out.bx _ (.tail _ (.tail _ (.tail _ (.head _))))).2.cell 0
      have d1 := (S4.out.bx _ (.tail _ (.tail _ (.tail _ (.head _))))).2.cell 1
      have d2 := (S4.out.bx _ (.tail _ (.tail _ (.tail _ (.head _))))).2.cell 2
      have p0 := (S4.out.bx _ (.tail _ (.tail _ (.tail _ (.tail _ (.head _)))))).2.cell 0
      have p1 := (S4.out.bx _ (.tail _ (.tail _ (.tail _ (.tail _ (.head _)))))).2.cell 1
      simp at d0 d1 d2 p0 p1
      go_upto_region 8 with (fail)
      go_upto_region 9 with (fail)
      go_wp2_with fail
      refine (sread_some HR.out _).mono ?_
      rintro e w5 ⟨rfl, hb5⟩
      have S5 := Lib.hid (S4.out.on hb5)
      clear hb5 d0 d1 d2 p0 p1
      go_upto_region 10 with (fail)
      obtain ⟨w6, hw6⟩ : ∃ z, z = w5.alloc (.cells #[.int .i64 s1, .int .i64 a1, .int .i64 t1] 45) := ⟨_, rfl⟩
      have S6 := Lib.hid (show Bd w ((w5.heap.size, [.int .i64 s1, .int .i64 a1, .int .i64 t1]) :: [(w3.heap.size, [.int .i64 q, .int .i64 (-1), .int .i64 0, .int .i64 0, .int .i64 0]), (N, [.int .i64 g, .slice ua n uc]), (w.heap.size + 1 + 1, [.int .i64 0, .slice none 0 0]), (w.heap.size + 1, [.int .i64 k, .int .i64 q, .string t]), (w.heap.size, [.int .i64 g, .slice a n c])]) (.slice ua n uc) ns w6 by rw [hw6]; exact S5.out.made [.int .i64 s1, .int .i64 a1, .int .i64 t1] _)
      have HM := Lib.hid (show w3.heap.size < w5.heap.size from (S5.out.bx _ (.head _)).2.lt)
      rw [← hw6]
      clear hw6 S5
      have d0 := (S6.out.bx _ (.tail _ (.tail _ (.tail _ (.tail _ (.head _)))))).2.cell 0
      have d1 := (S6.out.bx _ (.tail _ (.tail _ (.tail _ (.tail _ (.head _)))))).2.cell 1
      have d2 := (S6.out.bx _ (.tail _ (.tail _ (.tail _ (.tail _ (.head _)))))).2.cell 2
      have y0 := (S6.out.bx _ (.head _)).2.cell 0
      have y1 := (S6.out.bx _ (.head _)).2.cell 1
      have y2 := (S6.out.bx _ (.head _)).2.cell 2
      have z0 := (S6.out.bx _ (.tail _ (.head _))).2.cell 0
      have z1 := (S6.out.bx _ (.tail _ (.head _))).2.cell 1
      have z2 := (S6.out.bx _ (.tail _ (.head _))).2.cell 2
      have z3 := (S6.out.bx _ (.tail _ (.head _))).2.cell 3
      have z4 := (S6.out.bx _ (.tail _ (.head _))).2.cell 4
      simp at d0 d1 d2 y0 y1 y2 z0 z1 z2 z3 z4
      have m0 := (S6.out.bx _ (.tail _ (.head _))).2.frozen 0
      have m1 := (S6.out.bx _ (.tail _ (.head _))).2.frozen 1
      have m2 := (S6.out.bx _ (.tail _ (.head _))).2.frozen 2
      have m3 := (S6.out.bx _ (.tail _ (.head _))).2.frozen 3
      have m4 := (S6.out.bx _ (.tail _ (.head _))).2.frozen 4
      have hmm := HM.out
      go_upto_region 15 with (fail)
      clear d0 d1 d2 y0 y1 y2 z0 z1 z2 z3 z4 m0 m1 m2 m3 m4
      have S7 : Hid (Bd w [(w3.heap.size, [.int .i64 q, .int .i64 (-1), .int .i64 0, .int .i64 0, .int .i64 0]), (N, [.int .i64 g, .slice ua n uc]), (w.heap.size + 1 + 1, [.int .i64 0, .slice none 0 0]), (w.heap.size + 1, [.int .i64 k, .int .i64 q, .string t]), (w.heap.size, [.int .i64 g, .slice a n c])] (.slice ua n uc) ns w6) := Lib.hid (S6.out.sub fun b m => .tail _ m)
      have hne : ∀ b, b ∈ [(N, [Value.int .i64 g, .slice ua n uc]), (w.heap.size + 1 + 1, [.int .i64 0, .slice none 0 0]), (w.heap.size + 1, [.int .i64 k, .int .i64 q, .string t]), (w.heap.size, [.int .i64 g, .slice a n c])] → b.1 ≠ w3.heap.size := by
        have h1 := HN.out.1
        have h2 := HN.out.2
        exact all_cons (by show N ≠ w3.heap.size; omega) (all_cons (by show w.heap.size + 1 + 1 ≠ w3.heap.size; omega) (all_cons (by show w.heap.size + 1 ≠ w3.heap.size; omega) (all_cons (by show w.heap.size ≠ w3.heap.size; omega) all_nil)))
      have S8 := Lib.hid (((((S7.out.put hne 0 (.int .i64 0)).put hne 1 (.int .i64 q)).put hne 2 (.int .i64 s1)).put hne 3 (.int .i64 a1)).put hne 4 (.int .i64 t1))
      simp only [List.set_cons_zero, List.set_cons_succ] at S8
      obtain ⟨w8, hw8⟩ : ∃ z, z = ((((w6.setCell ⟨w3.heap.size, 0, none⟩ (.int .i64 0)).setCell ⟨w3.heap.size, 1, none⟩ (.int .i64 q)).setCell ⟨w3.heap.size, 2, none⟩ (.int .i64 s1)).setCell ⟨w3.heap.size, 3, none⟩ (.int .i64 a1)).setCell ⟨w3.heap.size, 4, none⟩ (.int .i64 t1) := ⟨_, rfl⟩
      rw [← hw8] at S8 ⊢
      clear hw8 S6 S7 hne hmm
      have p0 := (S8.out.bx _ (.tail _ (.tail _ (.tail _ (.tail _ (.head _)))))).2.cell 0
      have p1 := (S8.out.bx _ (.tail _ (.tail _ (.tail _ (.tail _ (.head _)))))).2.cell 1
      have z0 := (S8.out.bx _ (.head _)).2.cell 0
      have z1 := (S8.out.bx _ (.head _)).2.cell 1
      have z2 := (S8.out.bx _ (.head _)).2.cell 2
      have z3 := (S8.out.bx _ (.head _)).2.cell 3
      have z4 := (S8.out.bx _ (.head _)).2.cell 4
      simp at p0 p1 z0 z1 z2 z3 z4
      go_wp2_with fail
      refine (snt_is (x := (⟨0, q, s1, a1, t1⟩ : Nt)) HF.out (H.out.on S8.out.be) HL.out).mono ?_
      rintro e w9 ⟨rfl, hb9⟩
      have S9 := Lib.hid (S8.out.on hb9)
      clear hb9 p0 p1 z0 z1 z2 z3 z4
      have p0 := (S9.out.bx _ (.tail _ (.tail _ (.tail _ (.tail _ (.head _)))))).2.cell 0
      have p1 := (S9.out.bx _ (.tail _ (.tail _ (.tail _ (.tail _ (.head _)))))).2.cell 1
      simp at p0 p1
      go_upto_region 16 with (fail)
      clear p0 p1
      have n0 := (S9.out.bx _ (.tail _ (.head _))).2.cell 0
      have n1 := (S9.out.bx _ (.tail _ (.head _))).2.cell 1
      have r0 := (S9.out.bx _ (.tail _ (.tail _ (.head _)))).2.cell 0
      have r1 := (S9.out.bx _ (.tail _ (.tail _ (.head _)))).2.cell 1
      simp at n0 n1 r0 r1
      have f0 := (S9.out.bx _ (.tail _ (.tail _ (.head _)))).2.frozen 0
      have f1 := (S9.out.bx _ (.tail _ (.tail _ (.head _)))).2.frozen 1
      have hNr := HN.out.1
      go_wp2
      refine bodyPost_ret (v := .tuple #[.agg #[.int .i64 g, .slice ua n uc], .bool false]) ?_ rfl ⟨_, rfl, ?_, ?_⟩
      · simp [results, Tryd.results68, go_sem, r0, r1]
      · refine row5_heap S9.out.ow fun k hk => ?_
        have hne := S9.out.ap _ (.tail _ (.tail _ (.head _)))
        rw [Below.heap_setCell _ _ _ _ (by show k ≠ w.heap.size + 1 + 1; intro e; subst e; exact hne hk), Below.heap_setCell _ _ _ _ (by show k ≠ w.heap.size + 1 + 1; intro e; subst e; exact hne hk)]
      · exact (S9.out.be.setCell (by show w.heap.size ≤ w.heap.size + 1 + 1; omega) _).setCell (by show w.heap.size ≤ w.heap.size + 1 + 1; omega) _
set_option maxRecDepth 20000 in
set_option maxHeartbeats 3200000 in
theorem sbdo_talk (g : Int) (v : Value) (ns : List Nt) (k q : Int) (t : ByteArray) (w : World) (h : Nts w v ns) (hb : brdB g ns = true) {s1 a1 t1 : Int} (h0 : k = 1) (hr : rdO g t = some (s1, a1, t1)) (hq : 0 ≤ q) (hf : fitB g ns (⟨0, q, s1, a1, t1⟩ : Nt) = true) (h12 : ns.length < 12) : Calls Tryd.prog 68 #[.agg #[.int .i64 g, v], .agg #[.int .i64 k, .int .i64 q, .string t]] w fun e w' => ∃ u, e = .returned (.tuple #[.agg #[.int .i64 g, u], .bool true]) ∧ OwnN w' w.heap.size u (ns ++ [(⟨0, q, s1, a1, t1⟩ : Nt)]) ∧ Below w.heap.size w w' := by
  obtain ⟨a, c, rfl, _⟩ := h.opened
  obtain ⟨n, hn⟩ : ∃ n, ns.length = n := ⟨_, rfl⟩
  rw [hn] at h ⊢
  have H := Lib.hid h
  have HNL := Lib.hid hn
  have HB := Lib.hid hb
  have HL := Lib.hid (show ns.length ≤ 2000000 from Nat.le_trans (brd_true.1 hb).2.1 (by omega))
  have hn12 : n ≤ 12 := by rw [← hn]; exact (brd_true.1 hb).2.1
  have tg := deedGuard
  have te := run_equal_deed
  have HR := Lib.hid hr
  have hqd : decide (q < 0) = false := by simp; omega
  have HF := Lib.hid hf
  rw [hn] at h12
  have hd12 : decide (12 ≤ n) = false := by simp; omega
  have hd12i : decide ((12 : Int) ≤ (n : Int)) = false := by simp; omega
  have k0 : (k == 0) = false := by simp [h0]
  have k0n : (k != 0) = true := by simp [h0]
  have k1 : (k == 1) = true := by simp [h0]
  have k2 : (k == 2) = false := by simp [h0]
  clear hf hq h0 hr
  clear h hb hn
  have W3 := bx3 (w := w) [.int .i64 g, .slice a n c] [.int .i64 k, .int .i64 q, .string t] [.int .i64 0, .slice none 0 0] 29 87 29
  obtain ⟨W, hWe, hWs, hW, b0, b1, b2⟩ := W3.out
  have HW := Lib.hid hW
  have HS := Lib.hid hWs
  have HWE := Lib.hid hWe
  have Y0 := Lib.hid b0
  have Y1 := Lib.hid b1
  have Y2 := Lib.hid b2
  clear W3 hWe hWs hW b0 b1 b2
  go_enter Tryd.func68, Tryd.ntmps68
  go_wp2_with fail
  rw [← HWE.out]
  refine (sbrd_any g _ ns _ (H.out.on HW.out) HL.out).mono ?_
  rintro e w1 ⟨rfl, hb1⟩
  rw [HB.out]
  have X0 := Lib.hid (Y0.out.on hb1)
  have X1 := Lib.hid (Y1.out.on hb1)
  have X2 := Lib.hid (Y2.out.on hb1)
  have B1 := Lib.hid (HW.out.trans (hb1.mono HW.out.size))
  clear hb1 Y0 Y1 Y2
  go_wp2_with fail
  apply wp_region_H (Z := Option (Value × List Nt) × Option (Nat × List Value)) (S := fun k => k == 2 || k == 5 || k == 7 || k == 8) (C := fun z w' => Hid (Zc w1 z.1 z.2 w')) [0, 1, 3, 4] (none, none)
  · kernel_rfl
  · kernel_rfl
  · kernel_rfl
  · exact ⟨rfl, rfl, rfl, rfl, trivial⟩
  · rfl
  · decide
  · exact Lib.hid (Zc.start (Below.refl _ _).drew)
  · intro z
    dsimp only [pickL, nthO]
    go_big_quiet_want; go_big_quiet_op; first | go_big_quiet_on | (refine ⟨_, fun _ _ => rfl, ?_⟩; go_big_quiet_on)
    go_big_quiet_want
    go_big_quiet_op
    refine ⟨.int .i64 g, fun w' hw' => ?_, ?_⟩
    · have q := (X0.out.on hw'.out.be).cell 0
      simp at q
      simp [go_sem, q]
    go_big_quiet_on
    go_big_quiet_want; go_big_quiet_op; first | go_big_quiet_on | (refine ⟨_, fun _ _ => rfl, ?_⟩; go_big_quiet_on)
    go_big_quiet_want
    go_big_quiet_op
    refine ⟨.slice a n c, fun w' hw' => ?_, ?_⟩
    · have q := (X0.out.on hw'.out.be).cell 1
      simp at q
      simp [go_sem, q]
    go_big_quiet_on
    exact wpQuiet_nil rfl
  · skip
    refine wpAnyH_key (D := Nat × Value × Nat) (fun d => (some (d.2.1, ns), some (d.2.2, [.int .i64 g, d.2.1]))) (fun d a => ((((a.put (some 16) (.slice (some ⟨d.1, 0, none⟩) 0 0)).put (some 19) (d.2.1)).put (some 20) (.agg #[.int .i64 g, d.2.1])).put (some 6) (.pointer (some ⟨d.2.2, 0, none⟩)))) ?_ ?_
    · skip
      refine wpAnyH_two 2 7 (by kernel_rfl) ?_ ?_
      · skip
        refine hOp_special (d := some 16) rfl rfl rfl (by kernel_rfl) fun wm hc => ⟨.slice (some ⟨wm.heap.size, 0, none⟩) 0 0, wm.alloc (.cells #[] 47), (some (.slice (some ⟨wm.heap.size, 0, none⟩) 0 0, []), none), by kernel_rfl, Lib.hid hc.out.build, ?_⟩
        clear hc
        refine wpAnyH_two 5 7 (by kernel_rfl) ?_ ?_
        · skip
          refine hOp_appN (v := .slice (some ⟨wm.heap.size, 0, none⟩) 0 0) (u := .slice a n c) (ns := ns) (B := w1.heap.size) (.tmp 16) (.tmp 18) (d := some 19) rfl rfl rfl (by kernel_rfl) rfl rfl rfl HL.out fun wp hc => ⟨hc.out.ow _ _ rfl, H.out.on (Below.on B1.out hc.out.be), hc.out.be.size, fun v9 w9 ho hg hk => ⟨(some (v9, ns), none), Lib.hid (hc.out.app ho hg hk), ?_⟩⟩
          obtain ⟨a9, c9, e9⟩ := OwnN.form ho
          subst e9
          clear hc ho hg hk
          refine wpAnyH_take (i := 6) (d := some 20) (.agg #[.int .i64 g, (.slice a9 ns.length c9)]) rfl (by kernel_rfl) rfl rfl (by kernel_rfl) (by kernel_rfl) (by kernel_rfl) (fun _ => by kernel_rfl) ?_
          refine wpAnyH_special (i := 7) (d := some 6) rfl (by kernel_rfl) rfl rfl (by kernel_rfl) fun wN hc => ⟨.pointer (some ⟨wN.heap.size, 0, none⟩), wN.alloc (.cells #[.int .i64 0, .slice none 0 0] 29), (some (.slice a9 ns.length c9, ns), some (wN.heap.size, [.int .i64 0, .slice none 0 0])), .inl (by kernel_rfl), Lib.hid (hc.out.made [.int .i64 0, .slice none 0 0] _), ?_⟩
          clear hc
          refine wpAnyH_special (i := 8) (d := none) rfl (by kernel_rfl) rfl rfl (by kernel_rfl) fun we he => ?_
          have kb := (he.out.bx _ _ rfl).2
          have k0 := kb.cell 0; have f0 := kb.frozen 0
          have k1 := kb.cell 1; have f1 := kb.frozen 1
          simp at k0 k1
          refine ⟨undef, (we.setCell ⟨wN.heap.size, 0, none⟩ (.int .i64 g)).setCell ⟨wN.heap.size, 1, none⟩ (.slice a9 ns.length c9), (some ((.slice a9 ns.length c9), ns), some (wN.heap.size, [.int .i64 g, (.slice a9 ns.length c9)])), .inr ⟨by simp [go_sem, Act.put, k0, k1, f0, f1], rfl⟩, Lib.hid ((he.out.put 0 _).put 1 _), ?_⟩
          clear he kb k0 k1 f0 f1
          exact ⟨by kernel_rfl, ⟨wm.heap.size, (.slice a9 ns.length c9), wN.heap.size⟩, rfl, by kernel_rfl⟩
        · skip
          refine hOp_special (d := some 6) rfl rfl rfl (by kernel_rfl) fun wN hc => ⟨.pointer (some ⟨wN.heap.size, 0, none⟩), wN.alloc (.cells #[.int .i64 0, .slice none 0 0] 29), (some (.slice (some ⟨wm.heap.size, 0, none⟩) 0 0, []), some (wN.heap.size, [.int .i64 0, .slice none 0 0])), by kernel_rfl, Lib.hid (hc.out.made [.int .i64 0, .slice none 0 0] _), ?_⟩
          clear hc
          refine wpAnyH_appN (i := 5) (v := .slice (some ⟨wm.heap.size, 0, none⟩) 0 0) (u := .slice a n c) (ns := ns) (B := w1.heap.size) (.tmp 16) (.tmp 18) (d := some 19) rfl (by kernel_rfl) rfl rfl (by kernel_rfl) rfl rfl rfl HL.out fun wp hc => ⟨hc.out.ow _ _ rfl, H.out.on (Below.on B1.out hc.out.be), hc.out.be.size, fun v9 w9 ho hg hk => ⟨(some (v9, ns), some (wN.heap.size, [.int .i64 0, .slice none 0 0])), Lib.hid (hc.out.app ho hg hk), ?_⟩⟩
          obtain ⟨a9, c9, e9⟩ := OwnN.form ho
          subst e9
          clear hc ho hg hk
          refine wpAnyH_take (i := 6) (d := some 20) (.agg #[.int .i64 g, (.slice a9 ns.length c9)]) rfl (by kernel_rfl) rfl rfl (by kernel_rfl) (by kernel_rfl) (by kernel_rfl) (fun _ => by kernel_rfl) ?_
          refine wpAnyH_special (i := 8) (d := none) rfl (by kernel_rfl) rfl rfl (by kernel_rfl) fun we he => ?_
          have kb := (he.out.bx _ _ rfl).2
          have k0 := kb.cell 0; have f0 := kb.frozen 0
          have k1 := kb.cell 1; have f1 := kb.frozen 1
          simp at k0 k1
          refine ⟨undef, (we.setCell ⟨wN.heap.size, 0, none⟩ (.int .i64 g)).setCell ⟨wN.heap.size, 1, none⟩ (.slice a9 ns.length c9), (some ((.slice a9 ns.length c9), ns), some (wN.heap.size, [.int .i64 g, (.slice a9 ns.length c9)])), .inr ⟨by simp [go_sem, Act.put, k0, k1, f0, f1], rfl⟩, Lib.hid ((he.out.put 0 _).put 1 _), ?_⟩
          clear he kb k0 k1 f0 f1
          exact ⟨by kernel_rfl, ⟨wm.heap.size, (.slice a9 ns.length c9), wN.heap.size⟩, rfl, by kernel_rfl⟩
      · skip
        refine hOp_special (d := some 6) rfl rfl rfl (by kernel_rfl) fun wN hc => ⟨.pointer (some ⟨wN.heap.size, 0, none⟩), wN.alloc (.cells #[.int .i64 0, .slice none 0 0] 29), (none, some (wN.heap.size, [.int .i64 0, .slice none 0 0])), by kernel_rfl, Lib.hid (hc.out.made [.int .i64 0, .slice none 0 0] _), ?_⟩
        clear hc
        refine wpAnyH_special (i := 2) (d := some 16) rfl (by kernel_rfl) rfl rfl (by kernel_rfl) fun wm hc => ⟨.slice (some ⟨wm.heap.size, 0, none⟩) 0 0, wm.alloc (.cells #[] 47), (some (.slice (some ⟨wm.heap.size, 0, none⟩) 0 0, []), some (wN.heap.size, [.int .i64 0, .slice none 0 0])), .inl (by kernel_rfl), Lib.hid hc.out.build, ?_⟩
        clear hc
        refine wpAnyH_appN (i := 5) (v := .slice (some ⟨wm.heap.size, 0, none⟩) 0 0) (u := .slice a n c) (ns := ns) (B := w1.heap.size) (.tmp 16) (.tmp 18) (d := some 19) rfl (by kernel_rfl) rfl rfl (by kernel_rfl) rfl rfl rfl HL.out fun wp hc => ⟨hc.out.ow _ _ rfl, H.out.on (Below.on B1.out hc.out.be), hc.out.be.size, fun v9 w9 ho hg hk => ⟨(some (v9, ns), some (wN.heap.size, [.int .i64 0, .slice none 0 0])), Lib.hid (hc.out.app ho hg hk), ?_⟩⟩
        obtain ⟨a9, c9, e9⟩ := OwnN.form ho
        subst e9
        clear hc ho hg hk
        refine wpAnyH_take (i := 6) (d := some 20) (.agg #[.int .i64 g, (.slice a9 ns.length c9)]) rfl (by kernel_rfl) rfl rfl (by kernel_rfl) (by kernel_rfl) (by kernel_rfl) (fun _ => by kernel_rfl) ?_
        refine wpAnyH_special (i := 8) (d := none) rfl (by kernel_rfl) rfl rfl (by kernel_rfl) fun we he => ?_
        have kb := (he.out.bx _ _ rfl).2
        have k0 := kb.cell 0; have f0 := kb.frozen 0
        have k1 := kb.cell 1; have f1 := kb.frozen 1
        simp at k0 k1
        refine ⟨undef, (we.setCell ⟨wN.heap.size, 0, none⟩ (.int .i64 g)).setCell ⟨wN.heap.size, 1, none⟩ (.slice a9 ns.length c9), (some ((.slice a9 ns.length c9), ns), some (wN.heap.size, [.int .i64 g, (.slice a9 ns.length c9)])), .inr ⟨by simp [go_sem, Act.put, k0, k1, f0, f1], rfl⟩, Lib.hid ((he.out.put 0 _).put 1 _), ?_⟩
        clear he kb k0 k1 f0 f1
        exact ⟨by kernel_rfl, ⟨wm.heap.size, (.slice a9 ns.length c9), wN.heap.size⟩, rfl, by kernel_rfl⟩
    · skip
      rintro ⟨m0, u, N⟩ w3 hz
      dsimp only at hz ⊢
      simp only [Act.put, List.setIfInBounds_toArray, List.set_cons_zero, List.set_cons_succ]
      have zb := hz.out.be
      obtain ⟨hN, zx⟩ := hz.out.bx _ _ rfl
      have zo := hz.out.ow _ _ rfl
      have za := hz.out.ap _ _ _ _ rfl rfl
      have zs := B1.out.size
      have x0 := X0.out.lt
      have x1 := X1.out.lt
      have x2 := X2.out.lt
      have S3 : Hid (Bd w [(N, [.int .i64 g, u]), (w.heap.size + 1 + 1, [.int .i64 0, .slice none 0 0]), (w.heap.size + 1, [.int .i64 k, .int .i64 q, .string t]), (w.heap.size, [.int .i64 g, .slice a n c])] u ns w3) := Lib.hid ⟨Below.on B1.out zb, all_cons ⟨Nat.le_trans zs hN, zx⟩ (all_cons ⟨(by show w.heap.size ≤ w.heap.size + 1 + 1; omega), X2.out.on zb⟩ (all_cons ⟨(by show w.heap.size ≤ w.heap.size + 1; omega), X1.out.on zb⟩ (all_cons ⟨Nat.le_refl _, X0.out.on zb⟩ all_nil))), row5_lower zo zs, all_cons za (all_cons (fun e => by have := (zo.lt _ e).1; omega) (all_cons (fun e => by have := (zo.lt _ e).1; omega) (all_cons (fun e => by have := (zo.lt _ e).1; omega) all_nil)))⟩
      have HN : Hid (w.heap.size + 1 + 1 < N ∧ N < w3.heap.size) := Lib.hid ⟨by omega, zx.lt⟩
      have US := OwnN.form zo
      rw [HNL.out] at US
      obtain ⟨ua, uc, hu⟩ := US
      subst hu
      clear hz zb hN zx zo za zs x0 x1 x2 X0 X1 X2 B1
      have d1 := (S3.out.bx _ (.tail _ (.tail _ (.head _)))).2.cell 1
      simp at d1
      go_upto_region 5 with (fail)
      clear d1
      obtain ⟨w4, hw4⟩ : ∃ z, z = w3.alloc (.cells #[.int .i64 q, .int .i64 (-1), .int .i64 0, .int .i64 0, .int .i64 0] 47) := ⟨_, rfl⟩
      have S4 : Hid (Bd w [(w3.heap.size, [.int .i64 q, .int .i64 (-1), .int .i64 0, .int .i64 0, .int .i64 0]), (N, [.int .i64 g, .slice ua n uc]), (w.heap.size + 1 + 1, [.int .i64 0, .slice none 0 0]), (w.heap.size + 1, [.int .i64 k, .int .i64 q, .string t]), (w.heap.size, [.int .i64 g, .slice a n c])] (.slice ua n uc) ns w4) := Lib.hid (by rw [hw4]; exact S3.out.made [.int .i64 q, .int .i64 (-1), .int .i64 0, .int .i64 0, .int .i64 0] _)
      rw [← hw4]
      clear hw4 S3
      have d0 := (S4.out.bx _ (.tail _ (.tail _ (.tail _ (.head _))))).2.cell 0
      have d1 := (S4.out.bx _ (.tail _ (.tail _ (.tail _ (.head _))))).2.cell 1
      have d2 := (S4.out.bx _ (.tail _ (.tail _ (.tail _ (.head _))))).2.cell 2
      have p0 := (S4.out.bx _ (.tail _ (.tail _ (.tail _ (.tail _ (.head _)))))).2.cell 0
      have p1 := (S4.out.bx _ (.tail _ (.tail _ (.tail _ (.tail _ (.head _)))))).2.cell 1
      simp at d0 d1 d2 p0 p1
      go_upto_region 8 with (fail)
      go_upto_region 9 with (fail)
      go_wp2_with fail
      refine (sread_some HR.out _).mono ?_
      rintro e w5 ⟨rfl, hb5⟩
      have S5 := Lib.hid (S4.out.on hb5)
      clear hb5 d0 d1 d2 p0 p1
      go_upto_region 10 with (fail)
      obtain ⟨w6, hw6⟩ : ∃ z, z = w5.alloc (.cells #[.int .i64 s1, .int .i64 a1, .int .i64 t1] 45) := ⟨_, rfl⟩
      have S6 := Lib.hid (show Bd w ((w5.heap.size, [.int .i64 s1, .int .i64 a1, .int .i64 t1]) :: [(w3.heap.size, [.int .i64 q, .int .i64 (-1), .int .i64 0, .int .i64 0, .int .i64 0]), (N, [.int .i64 g, .slice ua n uc]), (w.heap.size + 1 + 1, [.int .i64 0, .slice none 0 0]), (w.heap.size + 1, [.int .i64 k, .int .i64 q, .string t]), (w.heap.size, [.int .i64 g, .slice a n c])]) (.slice ua n uc) ns w6 by rw [hw6]; exact S5.out.made [.int .i64 s1, .int .i64 a1, .int .i64 t1] _)
      have HM := Lib.hid (show w3.heap.size < w5.heap.size from (S5.out.bx _ (.head _)).2.lt)
      rw [← hw6]
      clear hw6 S5
      have d0 := (S6.out.bx _ (.tail _ (.tail _ (.tail _ (.tail _ (.head _)))))).2.cell 0
      have d1 := (S6.out.bx _ (.tail _ (.tail _ (.tail _ (.tail _ (.head _)))))).2.cell 1
      have d2 := (S6.out.bx _ (.tail _ (.tail _ (.tail _ (.tail _ (.head _)))))).2.cell 2
      have y0 := (S6.out.bx _ (.head _)).2.cell 0
      have y1 := (S6.out.bx _ (.head _)).2.cell 1
      have y2 := (S6.out.bx _ (.head _)).2.cell 2
      have z0 := (S6.out.bx _ (.tail _ (.head _))).2.cell 0
      have z1 := (S6.out.bx _ (.tail _ (.head _))).2.cell 1
      have z2 := (S6.out.bx _ (.tail _ (.head _))).2.cell 2
      have z3 := (S6.out.bx _ (.tail _ (.head _))).2.cell 3
      have z4 := (S6.out.bx _ (.tail _ (.head _))).2.cell 4
      simp at d0 d1 d2 y0 y1 y2 z0 z1 z2 z3 z4
      have m0 := (S6.out.bx _ (.tail _ (.head _))).2.frozen 0
      have m1 := (S6.out.bx _ (.tail _ (.head _))).2.frozen 1
      have m2 := (S6.out.bx _ (.tail _ (.head _))).2.frozen 2
      have m3 := (S6.out.bx _ (.tail _ (.head _))).2.frozen 3
      have m4 := (S6.out.bx _ (.tail _ (.head _))).2.frozen 4
      have hmm := HM.out
      go_upto_region 15 with (fail)
      clear d0 d1 d2 y0 y1 y2 z0 z1 z2 z3 z4 m0 m1 m2 m3 m4
      have S7 : Hid (Bd w [(w3.heap.size, [.int .i64 q, .int .i64 (-1), .int .i64 0, .int .i64 0, .int .i64 0]), (N, [.int .i64 g, .slice ua n uc]), (w.heap.size + 1 + 1, [.int .i64 0, .slice none 0 0]), (w.heap.size + 1, [.int .i64 k, .int .i64 q, .string t]), (w.heap.size, [.int .i64 g, .slice a n c])] (.slice ua n uc) ns w6) := Lib.hid (S6.out.sub fun b m => .tail _ m)
      have hne : ∀ b, b ∈ [(N, [Value.int .i64 g, .slice ua n uc]), (w.heap.size + 1 + 1, [.int .i64 0, .slice none 0 0]), (w.heap.size + 1, [.int .i64 k, .int .i64 q, .string t]), (w.heap.size, [.int .i64 g, .slice a n c])] → b.1 ≠ w3.heap.size := by
        have h1 := HN.out.1
        have h2 := HN.out.2
        exact all_cons (by show N ≠ w3.heap.size; omega) (all_cons (by show w.heap.size + 1 + 1 ≠ w3.heap.size; omega) (all_cons (by show w.heap.size + 1 ≠ w3.heap.size; omega) (all_cons (by show w.heap.size ≠ w3.heap.size; omega) all_nil)))
      have S8 := Lib.hid (((((S7.out.put hne 0 (.int .i64 0)).put hne 1 (.int .i64 q)).put hne 2 (.int .i64 s1)).put hne 3 (.int .i64 a1)).put hne 4 (.int .i64 t1))
      simp only [List.set_cons_zero, List.set_cons_succ] at S8
      obtain ⟨w8, hw8⟩ : ∃ z, z = ((((w6.setCell ⟨w3.heap.size, 0, none⟩ (.int .i64 0)).setCell ⟨w3.heap.size, 1, none⟩ (.int .i64 q)).setCell ⟨w3.heap.size, 2, none⟩ (.int .i64 s1)).setCell ⟨w3.heap.size, 3, none⟩ (.int .i64 a1)).setCell ⟨w3.heap.size, 4, none⟩ (.int .i64 t1) := ⟨_, rfl⟩
      rw [← hw8] at S8 ⊢
      clear hw8 S6 S7 hne hmm
      have p0 := (S8.out.bx _ (.tail _ (.tail _ (.tail _ (.tail _ (.head _)))))).2.cell 0
      have p1 := (S8.out.bx _ (.tail _ (.tail _ (.tail _ (.tail _ (.head _)))))).2.cell 1
      have z0 := (S8.out.bx _ (.head _)).2.cell 0
      have z1 := (S8.out.bx _ (.head _)).2.cell 1
      have z2 := (S8.out.bx _ (.head _)).2.cell 2
      have z3 := (S8.out.bx _ (.head _)).2.cell 3
      have z4 := (S8.out.bx _ (.head _)).2.cell 4
      simp at p0 p1 z0 z1 z2 z3 z4
      go_wp2_with fail
      refine (snt_is (x := (⟨0, q, s1, a1, t1⟩ : Nt)) HF.out (H.out.on S8.out.be) HL.out).mono ?_
      rintro e w9 ⟨rfl, hb9⟩
      have S9 := Lib.hid (S8.out.on hb9)
      clear hb9 p0 p1 z0 z1 z2 z3 z4
      have p0 := (S9.out.bx _ (.tail _ (.tail _ (.tail _ (.tail _ (.head _)))))).2.cell 0
      have p1 := (S9.out.bx _ (.tail _ (.tail _ (.tail _ (.tail _ (.head _)))))).2.cell 1
      simp at p0 p1
      go_upto_region 17 with (fail)
      clear p0 p1
      have n0 := (S9.out.bx _ (.tail _ (.head _))).2.cell 0
      have n1 := (S9.out.bx _ (.tail _ (.head _))).2.cell 1
      have z0 := (S9.out.bx _ (.head _)).2.cell 0
      have z1 := (S9.out.bx _ (.head _)).2.cell 1
      have z2 := (S9.out.bx _ (.head _)).2.cell 2
      have z3 := (S9.out.bx _ (.head _)).2.cell 3
      have z4 := (S9.out.bx _ (.head _)).2.cell 4
      simp at n0 n1 z0 z1 z2 z3 z4
      have ov := S9.out.ow
      have oz := S9.out.be.size
      have hll : ns.length < 2000000 := by rw [HNL.out]; omega
      go_wp2_with (at_builtin; refine wpAppNote (x := (⟨0, q, s1, a1, t1⟩ : Nt)) rfl _ _ rfl rfl ov hll oz rfl ?_)
      intro v2 wA o2 g2 hk2
      have SA := Lib.hid (S9.out.app o2 g2 hk2)
      obtain ⟨va, vc, hv⟩ := OwnN.form o2
      subst hv
      clear o2 g2 hk2 ov oz hll n0 n1 z0 z1 z2 z3 z4
      have n0 := (SA.out.bx _ (.tail _ (.head _))).2.cell 0
      have n1 := (SA.out.bx _ (.tail _ (.head _))).2.cell 1
      have r0 := (SA.out.bx _ (.tail _ (.tail _ (.head _)))).2.cell 0
      have r1 := (SA.out.bx _ (.tail _ (.tail _ (.head _)))).2.cell 1
      simp at n0 n1 r0 r1
      have m0 := (SA.out.bx _ (.tail _ (.head _))).2.frozen 0
      have m1 := (SA.out.bx _ (.tail _ (.head _))).2.frozen 1
      have f0 := (SA.out.bx _ (.tail _ (.tail _ (.head _)))).2.frozen 0
      have f1 := (SA.out.bx _ (.tail _ (.tail _ (.head _)))).2.frozen 1
      have hNr := HN.out.1
      obtain ⟨nl, hnl⟩ : ∃ nl, (ns ++ [(⟨0, q, s1, a1, t1⟩ : Nt)]).length = nl := ⟨_, rfl⟩
      rw [hnl] at SA ⊢
      clear hnl
      go_wp2
      refine bodyPost_ret (v := .tuple #[.agg #[.int .i64 g, .slice va nl vc], .bool true]) ?_ rfl ⟨_, rfl, ?_, ?_⟩
      · simp [results, Tryd.results68, go_sem, r0, r1]
      · refine row5_heap SA.out.ow fun k hk => ?_
        have hne := SA.out.ap _ (.tail _ (.tail _ (.head _)))
        have hnN := SA.out.ap _ (.tail _ (.head _))
        have hk1 : k ≠ w.heap.size + 1 + 1 := by intro e; subst e; exact hne hk
        have hk2 : k ≠ N := by intro e; subst e; exact hnN hk
        rw [Below.heap_setCell _ _ _ _ (by show k ≠ w.heap.size + 1 + 1; exact hk1), Below.heap_setCell _ _ _ _ (by show k ≠ w.heap.size + 1 + 1; exact hk1), Below.heap_setCell _ _ _ _ (by show k ≠ N; exact hk2)]
      · exact ((SA.out.be.setCell (by show w.heap.size ≤ N; omega) _).setCell (by show w.heap.size ≤ w.heap.size + 1 + 1; omega) _).setCell (by show w.heap.size ≤ w.heap.size + 1 + 1; omega) _

/-- spec.BoardDo. -/
theorem sbdo_any (g : Int) (v : Value) (ns : List Nt) (d : Dd) (w : World) (h : Nts w v ns) (hl : ns.length ≤ 2000000) (ht : d.text.size ≤ 1048576) : Calls Tryd.prog 68 #[.agg #[.int .i64 g, v], .agg #[.int .i64 d.kind, .int .i64 d.num, .string d.text]] w fun e w' => ∃ u, e = .returned (.tuple #[.agg #[.int .i64 (bdoG g ns), u], .bool (bdoB g ns d)]) ∧ OwnN w' w.heap.size u (bdoL g ns d) ∧ Below w.heap.size w w' := by
  obtain ⟨k, q, t⟩ := d
  cases hb : brdB g ns
  · obtain ⟨e1, e2, e3⟩ := bdo_no (d := ⟨k, q, t⟩) hb
    rw [e1, e2, e3]
    exact (sbdo_zero g v ns k q t w h hl hb).mono fun _ _ ⟨he, hbl⟩ => ⟨_, he, OwnN.nil _ _, hbl⟩
  · have none : bdoN g ns ⟨k, q, t⟩ = none → (Calls Tryd.prog 68 #[.agg #[.int .i64 g, v], .agg #[.int .i64 k, .int .i64 q, .string t]] w fun e w' => ∃ u, e = .returned (.tuple #[.agg #[.int .i64 g, u], .bool false]) ∧ OwnN w' w.heap.size u ns ∧ Below w.heap.size w w') → (Calls Tryd.prog 68 #[.agg #[.int .i64 g, v], .agg #[.int .i64 k, .int .i64 q, .string t]] w fun e w' => ∃ u, e = .returned (.tuple #[.agg #[.int .i64 (bdoG g ns), u], .bool (bdoB g ns ⟨k, q, t⟩)]) ∧ OwnN w' w.heap.size u (bdoL g ns ⟨k, q, t⟩) ∧ Below w.heap.size w w') := fun hn hc => by
      obtain ⟨e1, e2, e3⟩ := bdo_none hb hn
      rw [e1, e2, e3]; exact hc
    have some_ : ∀ ms, bdoN g ns ⟨k, q, t⟩ = some ms → (Calls Tryd.prog 68 #[.agg #[.int .i64 g, v], .agg #[.int .i64 k, .int .i64 q, .string t]] w fun e w' => ∃ u, e = .returned (.tuple #[.agg #[.int .i64 g, u], .bool true]) ∧ OwnN w' w.heap.size u ms ∧ Below w.heap.size w w') → (Calls Tryd.prog 68 #[.agg #[.int .i64 g, v], .agg #[.int .i64 k, .int .i64 q, .string t]] w fun e w' => ∃ u, e = .returned (.tuple #[.agg #[.int .i64 (bdoG g ns), u], .bool (bdoB g ns ⟨k, q, t⟩)]) ∧ OwnN w' w.heap.size u (bdoL g ns ⟨k, q, t⟩) ∧ Below w.heap.size w w') := fun ms hn hc => by
      obtain ⟨e1, e2, e3⟩ := bdo_some hb hn
      rw [e1, e2, e3]; exact hc
    cases hk : (backB ⟨k, q, t⟩ && decide (0 < ns.length))
    · by_cases h0 : k = 0
      · cases he : emB t
        · exact none (bdoN_nothing hk (by unfold noteD; simp [h0, he])) (sbdo_keyText g v ns k q t w h hb h0 he)
        · have hx : noteD g ⟨k, q, t⟩ = some ⟨q, -1, 0, 0, 0⟩ := by unfold noteD; simp [h0, he]
          cases hf : fitB g ns ⟨q, -1, 0, 0, 0⟩
          · exact none (by rw [bdoN_put hk hx, hf]; rfl) (sbdo_keyNo g v ns k q t w h hb h0 he hf)
          · by_cases h12 : ns.length < 12
            · exact some_ _ (by rw [bdoN_put hk hx, hf]; simp [h12]) (sbdo_key g v ns k q t w h hb h0 he hf h12)
            · exact none (by rw [bdoN_put hk hx, hf]; simp [h12]) (sbdo_keyFull g v ns k q t w h hb h0 he hf h12)
      · by_cases h1 : k = 1
        · cases hr : rdO g t with
          | none => exact none (bdoN_nothing hk (by unfold noteD; simp [h1, hr])) (sbdo_talkNone g v ns k q t w h hb h1 hr ht)
          | some p =>
            obtain ⟨s1, a1, t1⟩ := p
            have hx : noteD g ⟨k, q, t⟩ = some ⟨0, q, s1, a1, t1⟩ := by unfold noteD; simp [h1, hr]
            by_cases hq : q < 0
            · exact none (by rw [bdoN_put hk hx, fit_neg hq]; rfl) (sbdo_talkNeg g v ns k q t w h hb h1 hr hq)
            · cases hf : fitB g ns ⟨0, q, s1, a1, t1⟩
              · exact none (by rw [bdoN_put hk hx, hf]; rfl) (sbdo_talkNo g v ns k q t w h hb h1 hr (by omega) hf)
              · by_cases h12 : ns.length < 12
                · exact some_ _ (by rw [bdoN_put hk hx, hf]; simp [h12]) (sbdo_talk g v ns k q t w h hb h1 hr (by omega) hf h12)
                · exact none (by rw [bdoN_put hk hx, hf]; simp [h12]) (sbdo_talkFull g v ns k q t w h hb h1 hr (by omega) hf h12)
        · exact none (bdoN_nothing hk (by unfold noteD; simp [h0, h1])) (sbdo_other g v ns k q t w h hb h0 h1 hk)
    · simp only [Bool.and_eq_true, decide_eq_true_eq] at hk
      exact some_ _ (bdoN_back hk.1 hk.2) (sbdo_back g v ns k q t w h hb hk.1 hk.2)
end Go.Proofs.YtiinifcepcaonaaDoor
