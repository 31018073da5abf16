/- impl.talkAt, impl.SomeOk. -/
import Derived.Test.YtljekapbcphdaabDoorLinI
import Derived.Test.YtljekapbcphdaabDoorBReg
namespace Go.Proofs.YtljekapbcphdaabDoor
open Go.RowKit

def st3 (w : World) (N : Nat) (x y z : Value) : World := ((w.setCell ⟨N, 0, none⟩ x).setCell ⟨N, 1, none⟩ y).setCell ⟨N, 2, none⟩ z
theorem st3_block (w : World) (N : Nat) (x y z : Value) {q : Nat} (hq : q ≠ N) : (st3 w N x y z).heap[q]? = w.heap[q]? := (Below.heap_setCell _ _ _ _ hq).trans ((Below.heap_setCell _ _ _ _ hq).trans (Below.heap_setCell _ _ _ _ hq))
theorem st3_size (w : World) (N : Nat) (x y z : Value) : (st3 w N x y z).heap.size = w.heap.size := by simp [st3, World.setCell]
theorem st3_box {w : World} {N : Nat} {x y z a b c : Value} (h : Box w N [a, b, c]) : Box (st3 w N x y z) N [x, y, z] := ((h.set 0 x).set 1 y).set 2 z
theorem below_st3 {B N : Nat} {w w' : World} {x y z : Value} (hb : Below B w w') (h : B ≤ N) : Below B w (st3 w' N x y z) :=
  ((hb.setCell (p := ⟨N, 0, none⟩) h x).setCell (p := ⟨N, 1, none⟩) h y).setCell (p := ⟨N, 2, none⟩) h z
theorem box_same {w w' : World} {N : Nat} {P : List Value} (h : Box w N P) (hh : w'.heap[N]? = w.heap[N]?) : Box w' N P := by
  obtain ⟨T, hT⟩ := h
  exact ⟨T, hh.trans hT⟩
/-- While a talk is picked out: whether it is stored. -/
structure Tk (w : World) (P T : List Value) (z : Bool) (w' : World) : Prop where
  bl : Below w.heap.size w w'
  box : Box w' w.heap.size P
  res : Box w' (w.heap.size + 1) (if z then T else [.int .i64 0, .int .i64 0, .int .i64 0])
theorem Tk.on {w : World} {P T : List Value} {z : Bool} {w1 w2 : World} (h : Tk w P T z w1) (hb : Below w1.heap.size w1 w2) : Tk w P T z w2 := ⟨Below.on h.bl hb, h.box.on hb, h.res.on hb⟩
theorem Tk.put {w : World} {P : List Value} {x y z : Value} {w1 : World} (h : Tk w P [x, y, z] false w1) : Tk w P [x, y, z] true (st3 w1 (w.heap.size + 1) x y z) := ⟨below_st3 h.bl (by omega), box_same h.box (st3_block _ _ _ _ _ (by omega)), st3_box h.res⟩

set_option maxHeartbeats 1600000 in
theorem italkAt_any (sv : Value) (q : Int) (xv tv : Value) (ss xs ts : List Int) (n k : Nat) (w : World) (hs : Ints w sv ss) (hx : Ints w xv xs) (ht : Ints w tv ts) (l1 : ss.length = n) (l2 : xs.length = n) (l3 : ts.length = n) (hk : k < n) :
    Calls Tryd.prog 109 #[.agg #[sv, .int .i64 q, xv, tv], .int .i64 k] w fun e w' => e = .returned (.agg #[.int .i64 (nth ss k), .int .i64 (nth xs k), .int .i64 (nth ts k)]) ∧ Below w.heap.size w w' := by
  obtain ⟨sa, sc, rfl, k1⟩ := hs.opened
  obtain ⟨xa, xc, rfl, k2⟩ := hx.opened
  obtain ⟨ta, tc, rfl, k3⟩ := ht.opened
  obtain ⟨X1, rfl, h1, _⟩ := k1.get k (by omega)
  obtain ⟨X2, rfl, h2, _⟩ := k2.get k (by omega)
  obtain ⟨X3, rfl, h3, _⟩ := k3.get k (by omega)
  have HC := Lib.hid (show ∀ w', Below w.heap.size w w' → w'.cell? ⟨X1, k, none⟩ = some (.int .i64 (nth ss k)) ∧ w'.cell? ⟨X2, k, none⟩ = some (.int .i64 (nth xs k)) ∧ w'.cell? ⟨X3, k, none⟩ = some (.int .i64 (nth ts k)) from fun w' hb => by
    obtain ⟨Y1, e1, _, f1⟩ := (k1.on hb).get k (by omega)
    obtain ⟨Y2, e2, _, f2⟩ := (k2.on hb).get k (by omega)
    obtain ⟨Y3, e3, _, f3⟩ := (k3.on hb).get k (by omega)
    cases e1; cases e2; cases e3
    exact ⟨f1, f2, f3⟩)
  rw [l1, l2, l3]
  have hk1 : (k : Int) < (n : Int) := by omega
  obtain ⟨W0, hW0⟩ : ∃ W, W = (w.alloc (.cells #[.slice (some ⟨X1, 0, none⟩) n sc, .int .i64 q, .slice (some ⟨X2, 0, none⟩) n xc, .slice (some ⟨X3, 0, none⟩) n tc] 75)).alloc (.cells #[.int .i64 0, .int .i64 0, .int .i64 0] 84) := ⟨_, rfl⟩
  have T0 : Hid (Tk w [.slice (some ⟨X1, 0, none⟩) n sc, .int .i64 q, .slice (some ⟨X2, 0, none⟩) n xc, .slice (some ⟨X3, 0, none⟩) n tc] [.int .i64 (nth ss k), .int .i64 (nth xs k), .int .i64 (nth ts k)] false W0) := Lib.hid (by
    rw [hW0]
    refine ⟨(below_grow w _).alloc (by simp) _, (Box.made w _ _).alloc _, ?_⟩
    have := Box.made (w.alloc (.cells #[.slice (some ⟨X1, 0, none⟩) n sc, .int .i64 q, .slice (some ⟨X2, 0, none⟩) n xc, .slice (some ⟨X3, 0, none⟩) n tc] 75)) [.int .i64 0, .int .i64 0, .int .i64 0] 84
    simpa using this)
  clear hs hx ht k1 k2 k3 l1 l2 l3 h1 h2 h3
  go_enter Tryd.func109, Tryd.ntmps109
  go_wp2_with fail
  rw [← hW0]
  clear hW0
  apply wp_region_H (Z := Bool) (S := fun k => k == 16) (C := fun z w' => Hid (Tk w [.slice (some ⟨X1, 0, none⟩) n sc, .int .i64 q, .slice (some ⟨X2, 0, none⟩) n xc, .slice (some ⟨X3, 0, none⟩) n tc] [.int .i64 (nth ss k), .int .i64 (nth xs k), .int .i64 (nth ts k)] z w')) [0, 1, 2, 3, 4, 5, 6, 7, 8, 9, 10, 11, 12, 13, 14, 15] false
  · kernel_rfl
  · kernel_rfl
  · kernel_rfl
  · exact ⟨rfl, rfl, rfl, rfl, rfl, rfl, rfl, rfl, rfl, rfl, rfl, rfl, rfl, rfl, rfl, rfl, trivial⟩
  · rfl
  · decide
  · exact Lib.hid (T0.out.on (Below.refl _ _).drew)
  · intro z
    dsimp only [pickL, nthO]
    repeat (first | go_big_quiet_skip | (go_big_quiet_want; go_big_quiet_op; first | go_big_quiet_on | (refine ⟨_, fun _ _ => rfl, ?_⟩; go_big_quiet_on)))
    go_big_quiet_want
    go_big_quiet_op
    refine ⟨.slice (some ⟨X1, 0, none⟩) n sc, fun w' hw' => ?_, ?_⟩
    · have q0 := hw'.out.box.cell 0
      simp at q0
      simp [go_sem, q0]
    go_big_quiet_on
    repeat (first | go_big_quiet_skip | (go_big_quiet_want; go_big_quiet_op; first | go_big_quiet_on | (refine ⟨_, fun _ _ => rfl, ?_⟩; go_big_quiet_on)))
    go_big_quiet_want
    go_big_quiet_op
    refine ⟨.int .i64 (nth ss k), fun w' hw' => ?_, ?_⟩
    · have q0 := (HC.out _ hw'.out.bl).1
      simp [go_sem, q0]
    go_big_quiet_on
    repeat (first | go_big_quiet_skip | (go_big_quiet_want; go_big_quiet_op; first | go_big_quiet_on | (refine ⟨_, fun _ _ => rfl, ?_⟩; go_big_quiet_on)))
    go_big_quiet_want
    go_big_quiet_op
    refine ⟨.slice (some ⟨X2, 0, none⟩) n xc, fun w' hw' => ?_, ?_⟩
    · have q0 := hw'.out.box.cell 2
      simp at q0
      simp [go_sem, q0]
    go_big_quiet_on
    repeat (first | go_big_quiet_skip | (go_big_quiet_want; go_big_quiet_op; first | go_big_quiet_on | (refine ⟨_, fun _ _ => rfl, ?_⟩; go_big_quiet_on)))
    go_big_quiet_want
    go_big_quiet_op
    refine ⟨.int .i64 (nth xs k), fun w' hw' => ?_, ?_⟩
    · have q0 := (HC.out _ hw'.out.bl).2.1
      simp [go_sem, q0]
    go_big_quiet_on
    repeat (first | go_big_quiet_skip | (go_big_quiet_want; go_big_quiet_op; first | go_big_quiet_on | (refine ⟨_, fun _ _ => rfl, ?_⟩; go_big_quiet_on)))
    go_big_quiet_want
    go_big_quiet_op
    refine ⟨.slice (some ⟨X3, 0, none⟩) n tc, fun w' hw' => ?_, ?_⟩
    · have q0 := hw'.out.box.cell 3
      simp at q0
      simp [go_sem, q0]
    go_big_quiet_on
    repeat (first | go_big_quiet_skip | (go_big_quiet_want; go_big_quiet_op; first | go_big_quiet_on | (refine ⟨_, fun _ _ => rfl, ?_⟩; go_big_quiet_on)))
    go_big_quiet_want
    go_big_quiet_op
    refine ⟨.int .i64 (nth ts k), fun w' hw' => ?_, ?_⟩
    · have q0 := (HC.out _ hw'.out.bl).2.2
      simp [go_sem, q0]
    go_big_quiet_on
    repeat (first | go_big_quiet_skip | (go_big_quiet_want; go_big_quiet_op; first | go_big_quiet_on | (refine ⟨_, fun _ _ => rfl, ?_⟩; go_big_quiet_on)))
    exact wpQuiet_nil rfl
  · skip
    refine wpAnyH_special (i := 16) (d := none) rfl (by kernel_rfl) rfl rfl (by kernel_rfl) fun we he => ?_
    have r0 := he.out.res.cell 0; have r1 := he.out.res.cell 1; have r2 := he.out.res.cell 2; have f0 := he.out.res.frozen 0; have f1 := he.out.res.frozen 1; have f2 := he.out.res.frozen 2
    simp at r0 r1 r2
    refine ⟨undef, st3 we (w.heap.size + 1) (.int .i64 (nth ss k)) (.int .i64 (nth xs k)) (.int .i64 (nth ts k)), true, .inr ⟨by simp [go_sem, st3, r0, r1, r2, f0, f1, f2], rfl⟩, Lib.hid he.out.put, ?_⟩
    clear he r0 r1 r2 f0 f1 f2
    refine ⟨by kernel_rfl, fun wz hz => ?_⟩
    have r0 := hz.out.res.cell 0; have r1 := hz.out.res.cell 1; have r2 := hz.out.res.cell 2
    simp at r0 r1 r2
    simp only [Act.put]
    go_wp2
    refine bodyPost_ret (v := .agg #[.int .i64 (nth ss k), .int .i64 (nth xs k), .int .i64 (nth ts k)]) ?_ rfl ?_
    · simp [results, Tryd.results109, go_sem, r0, r1, r2]
    · exact ⟨rfl, hz.out.bl⟩

/-- Whether all single talks are right. -/
def toksB (g : Int) (keys ss xs ts : List Int) (n : Nat) : Bool := (List.range n).all fun k => tokB g (nth keys k) (nth ss k) (nth xs k) (nth ts k)
theorem toksB_true {g : Int} {keys ss xs ts : List Int} {n : Nat} : toksB g keys ss xs ts n = true ↔ ∀ k, k < n → tokB g (nth keys k) (nth ss k) (nth xs k) (nth ts k) = true := by
  unfold toksB
  rw [List.all_eq_true]
  exact ⟨fun h k hk => h k (List.mem_range.2 hk), fun h k hk => h k (List.mem_range.1 hk)⟩
theorem toksB_false {g : Int} {keys ss xs ts : List Int} {n k : Nat} (hk : k < n) (h : tokB g (nth keys k) (nth ss k) (nth xs k) (nth ts k) = false) : toksB g keys ss xs ts n = false := by
  cases hb : toksB g keys ss xs ts n
  · rfl
  · rw [toksB_true.1 hb k hk] at h; cases h
def someB (g : Int) (keys : List Int) (need : Int) (ss : List Int) (q : Int) (xs ts : List Int) : Bool :=
  kysB g keys need && (decide (ss.length = keys.length) && (decide (xs.length = keys.length) && (decide (ts.length = keys.length) && (toksB g keys ss xs ts keys.length && linB g need q xs))))
structure Som (g : Int) (keys : List Int) (need : Int) (ss : List Int) (q : Int) (xs ts : List Int) : Prop where
  k : Kys g keys need
  l1 : ss.length = keys.length
  l2 : xs.length = keys.length
  l3 : ts.length = keys.length
  tok : toksB g keys ss xs ts keys.length = true
  lin : linB g need q xs = true
theorem someB_true {g : Int} {keys : List Int} {need : Int} {ss : List Int} {q : Int} {xs ts : List Int} : someB g keys need ss q xs ts = true ↔ Som g keys need ss q xs ts := by
  unfold someB
  simp only [Bool.and_eq_true, kysB_true, decide_eq_true_eq]
  exact ⟨fun ⟨a, b, c, d, e, f⟩ => ⟨a, b, c, d, e, f⟩, fun h => ⟨h.k, h.l1, h.l2, h.l3, h.tok, h.lin⟩⟩
theorem someB_false {g : Int} {keys : List Int} {need : Int} {ss : List Int} {q : Int} {xs ts : List Int} (h : ¬ Som g keys need ss q xs ts) : someB g keys need ss q xs ts = false := by
  cases hb : someB g keys need ss q xs ts
  · rfl
  · exact absurd (someB_true.1 hb) h

end Go.Proofs.YtljekapbcphdaabDoor
