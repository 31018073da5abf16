/- impl: the relations of envelopes: ClaimOpen, furtherMakes, ClaimNumber, ClaimSame. -/
import Derived.Test.YtljekapbcphdaabDoorEnvI
import Derived.Test.YtljekapbcphdaabDoorPureF
import Derived.Test.YtljekapbcphdaabDoorBRd
namespace Go.Proofs.YtljekapbcphdaabDoor
open Go.RowKit

theorem own_lit1 (w : World) (a : Int) : Own (w.alloc (.cells #[.int .i64 a] 3)) w.heap.size (.slice (some ⟨w.heap.size, 0, none⟩) 1 1) [a] := World.ownsRow_lit (base := w.heap.size) (e := 3) (size := 1) w #[.int .i64 a] 1 (Nat.le_refl _) (by decide) rfl
theorem own_lit2 (w : World) (a b : Int) : Own (w.alloc (.cells #[.int .i64 a, .int .i64 b] 3)) w.heap.size (.slice (some ⟨w.heap.size, 0, none⟩) 2 2) [a, b] := World.ownsRow_lit (base := w.heap.size) (e := 3) (size := 1) w #[.int .i64 a, .int .i64 b] 2 (Nat.le_refl _) (by decide) rfl
/-- A list of one list. -/
theorem ownSS_lit1 (w : World) {B : Nat} {v : Value} {ys : List Int} (h : Own w B v ys) (hB : B ≤ w.heap.size) : OwnSS (w.alloc (.cells #[v] 24)) B (w.alloc (.cells #[v] 24)).heap.size (.slice (some ⟨w.heap.size, 0, none⟩) 1 1) [v] [ys] := by
  have ho := outer_lower (B' := B) (World.ownsRow_lit (base := w.heap.size) (e := 24) (size := 1) w #[v] 1 (Nat.le_refl _) (by decide) rfl) hB
  have e0 : ∀ j, j < [v].length → val [v] j = v := fun j hj => by
    have : j = 0 := by simpa using hj
    subst this; rfl
  have r0 : ∀ j, j < [v].length → row [ys] j = ys := fun j hj => by
    have : j = 0 := by simpa using hj
    subst this; rfl
  refine ⟨ho, rfl, fun k hk => (ho.lt k hk).2, fun j hj => ?_, fun j hj k hk => ?_, fun i j hij hj k hk _ => ?_, fun j hj k hk h1 => ?_⟩
  · rw [e0 j hj, r0 j hj]; exact h.alloc _
  · rw [e0 j hj] at hk; have := (h.lt k hk).2; simp; omega
  · have : j = 0 := by simpa using hj
    omega
  · rw [e0 j hj] at hk
    have := (h.lt k hk).2
    simp [Value.ownBlock] at h1
    omega
theorem OwnCl.heap {w w' : World} {lo hi : Nat} {rv mv : Value} {us : List Value} {xss : List (List Int)} {ms : List Int} (h : OwnCl w lo hi rv mv us xss ms) (hh : ∀ k, lo ≤ k → w'.heap[k]? = w.heap[k]?) : OwnCl w' lo hi rv mv us xss ms := by
  obtain ⟨⟨mid, h1, h2, h3, h4⟩, h5⟩ := h
  exact ⟨⟨mid, h1, h2, h3.heap fun k hk _ => hh k hk, own_heap h4 fun k hk => hh k (by have := (h4.lt k hk).1; omega)⟩, h5⟩
theorem OwnCl.form1 {w : World} {lo hi : Nat} {rv mv : Value} {us : List Value} {xss : List (List Int)} {ms : List Int} (h : OwnCl w lo hi rv mv us xss ms) : (∃ a c, rv = .slice a xss.length c) ∧ ∃ a c, mv = .slice a ms.length c := by
  obtain ⟨mid, _, _, h3, h4⟩ := h.parts
  exact ⟨h3.form, Own.form h4⟩
/-- The answer of a function that makes a relation. -/
def ClmPost (w : World) (g : Int) (rows : List (List Int)) (makes : List Int) (e : Ending) (w' : World) : Prop :=
  ∃ rv mv us, e = .returned (.agg #[.int .i64 g, rv, mv]) ∧ OwnCl w' w.heap.size w'.heap.size rv mv us rows makes ∧ Below w.heap.size w w'
theorem clm_none {w w' : World} (hb : Below w.heap.size w w') : ClmPost w 0 [] [] (.returned (.agg #[.int .i64 0, .slice none 0 0, .slice none 0 0])) w' :=
  ⟨_, _, [], rfl, ⟨⟨w.heap.size, Nat.le_refl _, hb.size, OwnSS.nil _ _ _, World.ownsRow_nil _ _ _ _⟩, fun k hk => by simp [Value.ownBlock] at hk⟩, hb⟩
/-- Three cells of the box of an answer are written: nothing else is. -/
theorem set3 {w w1 : World} {x y z : Value} (hb : Below w.heap.size w w1) :
    Below w.heap.size w (((w1.setCell ⟨w.heap.size, 0, none⟩ x).setCell ⟨w.heap.size, 1, none⟩ y).setCell ⟨w.heap.size, 2, none⟩ z) ∧ (((w1.setCell ⟨w.heap.size, 0, none⟩ x).setCell ⟨w.heap.size, 1, none⟩ y).setCell ⟨w.heap.size, 2, none⟩ z).heap.size = w1.heap.size ∧
    ∀ k, w.heap.size + 1 ≤ k → (((w1.setCell ⟨w.heap.size, 0, none⟩ x).setCell ⟨w.heap.size, 1, none⟩ y).setCell ⟨w.heap.size, 2, none⟩ z).heap[k]? = w1.heap[k]? := by
  refine ⟨((hb.setCell (Nat.le_refl _) _).setCell (Nat.le_refl _) _).setCell (Nat.le_refl _) _, by simp [World.setCell], fun k hk => ?_⟩
  rw [Below.heap_setCell _ _ _ _ (by show k ≠ w.heap.size; omega), Below.heap_setCell _ _ _ _ (by show k ≠ w.heap.size; omega), Below.heap_setCell _ _ _ _ (by show k ≠ w.heap.size; omega)]
theorem clm_set {w w1 : World} {g : Int} {x y z rv mv : Value} {us : List Value} {rows : List (List Int)} {makes : List Int} (hb : Below w.heap.size w w1) (h : OwnCl w1 (w.heap.size + 1) w1.heap.size rv mv us rows makes) :
    ClmPost w g rows makes (.returned (.agg #[.int .i64 g, rv, mv])) (((w1.setCell ⟨w.heap.size, 0, none⟩ x).setCell ⟨w.heap.size, 1, none⟩ y).setCell ⟨w.heap.size, 2, none⟩ z) := by
  obtain ⟨h1, h2, h3⟩ := set3 (x := x) (y := y) (z := z) hb
  exact ⟨rv, mv, us, rfl, by rw [h2]; exact (h.heap h3).lower (Nat.le_succ _), h1⟩
theorem num_tim {g e n : Int} (he : elB g e = true) (hn : exB g n = true) : numM g e n = tim g e (gpow g (bas g) (-n)) := by
  obtain ⟨⟨g0, g4⟩, n0, n1⟩ := exB_true.1 hn
  obtain ⟨o1, o2⟩ := ord_bd g0 g4
  have hb := bas_el g0 g4
  rw [gpow_gp hb (by omega) (by omega), tim_yes he (gp_el hb _)]; rfl
theorem same_tim {g a b : Int} (ha : elB g a = true) (hb : elB g b = true) : sameM g a b = tim g a (gpow g b (-1)) := by
  rw [gpow_gp hb (by omega) (by omega), tim_yes ha (gp_el hb _)]; rfl

theorem clm_lit2 (W : World) {B : Nat} (a b m : Int) (hB : B ≤ W.heap.size) : OwnCl (((W.alloc (.cells #[.int .i64 a, .int .i64 b] 3)).alloc (.cells #[.slice (some ⟨W.heap.size, 0, none⟩) 2 2] 24)).alloc (.cells #[.int .i64 m] 3)) B (((W.alloc (.cells #[.int .i64 a, .int .i64 b] 3)).alloc (.cells #[.slice (some ⟨W.heap.size, 0, none⟩) 2 2] 24)).alloc (.cells #[.int .i64 m] 3)).heap.size (.slice (some ⟨W.heap.size + 1, 0, none⟩) 1 1) (.slice (some ⟨W.heap.size + 2, 0, none⟩) 1 1) [.slice (some ⟨W.heap.size, 0, none⟩) 2 2] [[a, b]] [m] := by
  have h1 := own_lit2 W a b
  have h2 := ownSS_lit1 _ h1 (by simp)
  have h3 := own_lit1 ((W.alloc (.cells #[.int .i64 a, .int .i64 b] 3)).alloc (.cells #[.slice (some ⟨W.heap.size, 0, none⟩) 2 2] 24)) m
  have h4 := (h2.lower hB).on (below_grow _ (.cells #[.int .i64 m] 3))
  simp only [World.size_alloc] at h3 h4
  exact ⟨⟨W.heap.size + 1 + 1, by omega, by simp, h4, h3⟩, fun k hk => (h3.lt k hk).2⟩
theorem clm_lit1 (W : World) {B : Nat} (a m : Int) (hB : B ≤ W.heap.size) : OwnCl (((W.alloc (.cells #[.int .i64 a] 3)).alloc (.cells #[.slice (some ⟨W.heap.size, 0, none⟩) 1 1] 24)).alloc (.cells #[.int .i64 m] 3)) B (((W.alloc (.cells #[.int .i64 a] 3)).alloc (.cells #[.slice (some ⟨W.heap.size, 0, none⟩) 1 1] 24)).alloc (.cells #[.int .i64 m] 3)).heap.size (.slice (some ⟨W.heap.size + 1, 0, none⟩) 1 1) (.slice (some ⟨W.heap.size + 2, 0, none⟩) 1 1) [.slice (some ⟨W.heap.size, 0, none⟩) 1 1] [[a]] [m] := by
  have h1 := own_lit1 W a
  have h2 := ownSS_lit1 _ h1 (by simp)
  have h3 := own_lit1 ((W.alloc (.cells #[.int .i64 a] 3)).alloc (.cells #[.slice (some ⟨W.heap.size, 0, none⟩) 1 1] 24)) m
  have h4 := (h2.lower hB).on (below_grow _ (.cells #[.int .i64 m] 3))
  simp only [World.size_alloc] at h3 h4
  exact ⟨⟨W.heap.size + 1 + 1, by omega, by simp, h4, h3⟩, fun k hk => (h3.lt k hk).2⟩

theorem iopen_no (g s v : Int) (w : World) (G : Gr w) (h : envI g s v = false) : Calls Tryd.prog 16 #[.int .i64 g, .int .i64 s, .int .i64 v] w (ClmPost w 0 [] []) := by
  have I0 := Lib.hid (InB.start w [.int .i64 0, .slice none 0 0, .slice none 0 0] 26)
  have h1 := h
  clear h
  go_enter Tryd.func16, Tryd.ntmps16
  go_wp2_with fail
  refine (ienin_is h1 _ (G.on I0.out.fin)).mono ?_
  rintro e w1 ⟨rfl, hb⟩
  have I1 := Lib.hid (InB.of hb)
  clear hb
  have c0 := I1.out.box.cell 0
  have c1 := I1.out.box.cell 1
  have c2 := I1.out.box.cell 2
  have f0 := I1.out.box.frozen 0
  have f1 := I1.out.box.frozen 1
  have f2 := I1.out.box.frozen 2
  simp at c0 c1 c2
  go_wp2
  refine bodyPost_ret (v := .agg #[.int .i64 0, .slice none 0 0, .slice none 0 0]) ?_ rfl ?_
  · simp [results, Tryd.results16, go_sem, c0, c1, c2]
  · exact clm_none (set3 I1.out.fin).1

set_option maxHeartbeats 1600000 in
theorem iopen_yes (g s v : Int) (w : World) (G : Gr w) (h : envI g s v = true) : Calls Tryd.prog 16 #[.int .i64 g, .int .i64 s, .int .i64 v] w (ClmPost w g [[bas g, s]] [v]) := by
  have I0 := Lib.hid (InB.start w [.int .i64 0, .slice none 0 0, .slice none 0 0] 26)
  obtain ⟨g0, g4⟩ := envI_g h
  have HI := Lib.hid h
  clear h
  rcases g_cases g0 g4 with rfl | rfl | rfl | rfl <;> clear g0 g4
  · skip
    go_enter Tryd.func16, Tryd.ntmps16
    go_wp2_with fail
    refine (ienin_is HI.out _ (G.on I0.out.fin)).mono ?_
    rintro e w1 ⟨rfl, hb⟩
    have I1 := Lib.hid (InB.of hb)
    clear hb
    have OC : Hid (OwnCl (((w1.alloc (.cells #[.int .i64 2, .int .i64 s] 3)).alloc (.cells #[.slice (some ⟨w1.heap.size, 0, none⟩) 2 2] 24)).alloc (.cells #[.int .i64 v] 3)) (w.heap.size + 1) (((w1.alloc (.cells #[.int .i64 2, .int .i64 s] 3)).alloc (.cells #[.slice (some ⟨w1.heap.size, 0, none⟩) 2 2] 24)).alloc (.cells #[.int .i64 v] 3)).heap.size (.slice (some ⟨w1.heap.size + 1, 0, none⟩) 1 1) (.slice (some ⟨w1.heap.size + 2, 0, none⟩) 1 1) [.slice (some ⟨w1.heap.size, 0, none⟩) 2 2] [[2, s]] [v]) := Lib.hid (clm_lit2 w1 _ _ _ I1.out.size)
    have BQ : Hid (Below w.heap.size w (((w1.alloc (.cells #[.int .i64 2, .int .i64 s] 3)).alloc (.cells #[.slice (some ⟨w1.heap.size, 0, none⟩) 2 2] 24)).alloc (.cells #[.int .i64 v] 3))) := Lib.hid (((I1.out.fin.alloc I1.out.fin.size _).alloc (by have := I1.out.size; simp; omega) _).alloc (by have := I1.out.size; simp; omega) _)
    have hsz := I1.out.size
    have c0 : (((w1.alloc (.cells #[.int .i64 2, .int .i64 s] 3)).alloc (.cells #[.slice (some ⟨w1.heap.size, 0, none⟩) 2 2] 24)).alloc (.cells #[.int .i64 v] 3)).cell? ⟨w.heap.size, 0, none⟩ = some (.int .i64 0) := by rw [World.cell?_alloc_past _ _ _ (by simp; omega), World.cell?_alloc_past _ _ _ (by simp; omega), World.cell?_alloc_past _ _ _ (by omega)]; exact I1.out.box.cell 0
    have c1 : (((w1.alloc (.cells #[.int .i64 2, .int .i64 s] 3)).alloc (.cells #[.slice (some ⟨w1.heap.size, 0, none⟩) 2 2] 24)).alloc (.cells #[.int .i64 v] 3)).cell? ⟨w.heap.size, 1, none⟩ = some (.slice none 0 0) := by rw [World.cell?_alloc_past _ _ _ (by simp; omega), World.cell?_alloc_past _ _ _ (by simp; omega), World.cell?_alloc_past _ _ _ (by omega)]; exact I1.out.box.cell 1
    have c2 : (((w1.alloc (.cells #[.int .i64 2, .int .i64 s] 3)).alloc (.cells #[.slice (some ⟨w1.heap.size, 0, none⟩) 2 2] 24)).alloc (.cells #[.int .i64 v] 3)).cell? ⟨w.heap.size, 2, none⟩ = some (.slice none 0 0) := by rw [World.cell?_alloc_past _ _ _ (by simp; omega), World.cell?_alloc_past _ _ _ (by simp; omega), World.cell?_alloc_past _ _ _ (by omega)]; exact I1.out.box.cell 2
    have bq : Box (((w1.alloc (.cells #[.int .i64 2, .int .i64 s] 3)).alloc (.cells #[.slice (some ⟨w1.heap.size, 0, none⟩) 2 2] 24)).alloc (.cells #[.int .i64 v] 3)) w.heap.size [.int .i64 0, .slice none 0 0, .slice none 0 0] := ((I1.out.box.alloc _).alloc _).alloc _
    have f0 := bq.frozen 0
    have f1 := bq.frozen 1
    have f2 := bq.frozen 2
    clear bq
    obtain ⟨e0, e1, e2, e3, e4, e5, e6, e7, e8, e9, e10, e11⟩ := G.on I1.out.fin
    go_wp2
    refine bodyPost_ret (v := .agg #[.int .i64 0, .slice (some ⟨w1.heap.size + 1, 0, none⟩) 1 1, .slice (some ⟨w1.heap.size + 2, 0, none⟩) 1 1]) ?_ rfl ?_
    · simp [results, Tryd.results16, go_sem, c0, c1, c2]
    · exact clm_set BQ.out OC.out
  · skip
    go_enter Tryd.func16, Tryd.ntmps16
    go_wp2_with fail
    refine (ienin_is HI.out _ (G.on I0.out.fin)).mono ?_
    rintro e w1 ⟨rfl, hb⟩
    have I1 := Lib.hid (InB.of hb)
    clear hb
    have OC : Hid (OwnCl (((w1.alloc (.cells #[.int .i64 3, .int .i64 s] 3)).alloc (.cells #[.slice (some ⟨w1.heap.size, 0, none⟩) 2 2] 24)).alloc (.cells #[.int .i64 v] 3)) (w.heap.size + 1) (((w1.alloc (.cells #[.int .i64 3, .int .i64 s] 3)).alloc (.cells #[.slice (some ⟨w1.heap.size, 0, none⟩) 2 2] 24)).alloc (.cells #[.int .i64 v] 3)).heap.size (.slice (some ⟨w1.heap.size + 1, 0, none⟩) 1 1) (.slice (some ⟨w1.heap.size + 2, 0, none⟩) 1 1) [.slice (some ⟨w1.heap.size, 0, none⟩) 2 2] [[3, s]] [v]) := Lib.hid (clm_lit2 w1 _ _ _ I1.out.size)
    have BQ : Hid (Below w.heap.size w (((w1.alloc (.cells #[.int .i64 3, .int .i64 s] 3)).alloc (.cells #[.slice (some ⟨w1.heap.size, 0, none⟩) 2 2] 24)).alloc (.cells #[.int .i64 v] 3))) := Lib.hid (((I1.out.fin.alloc I1.out.fin.size _).alloc (by have := I1.out.size; simp; omega) _).alloc (by have := I1.out.size; simp; omega) _)
    have hsz := I1.out.size
    have c0 : (((w1.alloc (.cells #[.int .i64 3, .int .i64 s] 3)).alloc (.cells #[.slice (some ⟨w1.heap.size, 0, none⟩) 2 2] 24)).alloc (.cells #[.int .i64 v] 3)).cell? ⟨w.heap.size, 0, none⟩ = some (.int .i64 0) := by rw [World.cell?_alloc_past _ _ _ (by simp; omega), World.cell?_alloc_past _ _ _ (by simp; omega), World.cell?_alloc_past _ _ _ (by omega)]; exact I1.out.box.cell 0
    have c1 : (((w1.alloc (.cells #[.int .i64 3, .int .i64 s] 3)).alloc (.cells #[.slice (some ⟨w1.heap.size, 0, none⟩) 2 2] 24)).alloc (.cells #[.int .i64 v] 3)).cell? ⟨w.heap.size, 1, none⟩ = some (.slice none 0 0) := by rw [World.cell?_alloc_past _ _ _ (by simp; omega), World.cell?_alloc_past _ _ _ (by simp; omega), World.cell?_alloc_past _ _ _ (by omega)]; exact I1.out.box.cell 1
    have c2 : (((w1.alloc (.cells #[.int .i64 3, .int .i64 s] 3)).alloc (.cells #[.slice (some ⟨w1.heap.size, 0, none⟩) 2 2] 24)).alloc (.cells #[.int .i64 v] 3)).cell? ⟨w.heap.size, 2, none⟩ = some (.slice none 0 0) := by rw [World.cell?_alloc_past _ _ _ (by simp; omega), World.cell?_alloc_past _ _ _ (by simp; omega), World.cell?_alloc_past _ _ _ (by omega)]; exact I1.out.box.cell 2
    have bq : Box (((w1.alloc (.cells #[.int .i64 3, .int .i64 s] 3)).alloc (.cells #[.slice (some ⟨w1.heap.size, 0, none⟩) 2 2] 24)).alloc (.cells #[.int .i64 v] 3)) w.heap.size [.int .i64 0, .slice none 0 0, .slice none 0 0] := ((I1.out.box.alloc _).alloc _).alloc _
    have f0 := bq.frozen 0
    have f1 := bq.frozen 1
    have f2 := bq.frozen 2
    clear bq
    obtain ⟨e0, e1, e2, e3, e4, e5, e6, e7, e8, e9, e10, e11⟩ := G.on I1.out.fin
    go_wp2
    refine bodyPost_ret (v := .agg #[.int .i64 1, .slice (some ⟨w1.heap.size + 1, 0, none⟩) 1 1, .slice (some ⟨w1.heap.size + 2, 0, none⟩) 1 1]) ?_ rfl ?_
    · simp [results, Tryd.results16, go_sem, c0, c1, c2]
    · exact clm_set BQ.out OC.out
  · skip
    go_enter Tryd.func16, Tryd.ntmps16
    go_wp2_with fail
    refine (ienin_is HI.out _ (G.on I0.out.fin)).mono ?_
    rintro e w1 ⟨rfl, hb⟩
    have I1 := Lib.hid (InB.of hb)
    clear hb
    have OC : Hid (OwnCl (((w1.alloc (.cells #[.int .i64 2, .int .i64 s] 3)).alloc (.cells #[.slice (some ⟨w1.heap.size, 0, none⟩) 2 2] 24)).alloc (.cells #[.int .i64 v] 3)) (w.heap.size + 1) (((w1.alloc (.cells #[.int .i64 2, .int .i64 s] 3)).alloc (.cells #[.slice (some ⟨w1.heap.size, 0, none⟩) 2 2] 24)).alloc (.cells #[.int .i64 v] 3)).heap.size (.slice (some ⟨w1.heap.size + 1, 0, none⟩) 1 1) (.slice (some ⟨w1.heap.size + 2, 0, none⟩) 1 1) [.slice (some ⟨w1.heap.size, 0, none⟩) 2 2] [[2, s]] [v]) := Lib.hid (clm_lit2 w1 _ _ _ I1.out.size)
    have BQ : Hid (Below w.heap.size w (((w1.alloc (.cells #[.int .i64 2, .int .i64 s] 3)).alloc (.cells #[.slice (some ⟨w1.heap.size, 0, none⟩) 2 2] 24)).alloc (.cells #[.int .i64 v] 3))) := Lib.hid (((I1.out.fin.alloc I1.out.fin.size _).alloc (by have := I1.out.size; simp; omega) _).alloc (by have := I1.out.size; simp; omega) _)
    have hsz := I1.out.size
    have c0 : (((w1.alloc (.cells #[.int .i64 2, .int .i64 s] 3)).alloc (.cells #[.slice (some ⟨w1.heap.size, 0, none⟩) 2 2] 24)).alloc (.cells #[.int .i64 v] 3)).cell? ⟨w.heap.size, 0, none⟩ = some (.int .i64 0) := by rw [World.cell?_alloc_past _ _ _ (by simp; omega), World.cell?_alloc_past _ _ _ (by simp; omega), World.cell?_alloc_past _ _ _ (by omega)]; exact I1.out.box.cell 0
    have c1 : (((w1.alloc (.cells #[.int .i64 2, .int .i64 s] 3)).alloc (.cells #[.slice (some ⟨w1.heap.size, 0, none⟩) 2 2] 24)).alloc (.cells #[.int .i64 v] 3)).cell? ⟨w.heap.size, 1, none⟩ = some (.slice none 0 0) := by rw [World.cell?_alloc_past _ _ _ (by simp; omega), World.cell?_alloc_past _ _ _ (by simp; omega), World.cell?_alloc_past _ _ _ (by omega)]; exact I1.out.box.cell 1
    have c2 : (((w1.alloc (.cells #[.int .i64 2, .int .i64 s] 3)).alloc (.cells #[.slice (some ⟨w1.heap.size, 0, none⟩) 2 2] 24)).alloc (.cells #[.int .i64 v] 3)).cell? ⟨w.heap.size, 2, none⟩ = some (.slice none 0 0) := by rw [World.cell?_alloc_past _ _ _ (by simp; omega), World.cell?_alloc_past _ _ _ (by simp; omega), World.cell?_alloc_past _ _ _ (by omega)]; exact I1.out.box.cell 2
    have bq : Box (((w1.alloc (.cells #[.int .i64 2, .int .i64 s] 3)).alloc (.cells #[.slice (some ⟨w1.heap.size, 0, none⟩) 2 2] 24)).alloc (.cells #[.int .i64 v] 3)) w.heap.size [.int .i64 0, .slice none 0 0, .slice none 0 0] := ((I1.out.box.alloc _).alloc _).alloc _
    have f0 := bq.frozen 0
    have f1 := bq.frozen 1
    have f2 := bq.frozen 2
    clear bq
    obtain ⟨e0, e1, e2, e3, e4, e5, e6, e7, e8, e9, e10, e11⟩ := G.on I1.out.fin
    go_wp2
    refine bodyPost_ret (v := .agg #[.int .i64 2, .slice (some ⟨w1.heap.size + 1, 0, none⟩) 1 1, .slice (some ⟨w1.heap.size + 2, 0, none⟩) 1 1]) ?_ rfl ?_
    · simp [results, Tryd.results16, go_sem, c0, c1, c2]
    · exact clm_set BQ.out OC.out
  · skip
    go_enter Tryd.func16, Tryd.ntmps16
    go_wp2_with fail
    refine (ienin_is HI.out _ (G.on I0.out.fin)).mono ?_
    rintro e w1 ⟨rfl, hb⟩
    have I1 := Lib.hid (InB.of hb)
    clear hb
    have OC : Hid (OwnCl (((w1.alloc (.cells #[.int .i64 2, .int .i64 s] 3)).alloc (.cells #[.slice (some ⟨w1.heap.size, 0, none⟩) 2 2] 24)).alloc (.cells #[.int .i64 v] 3)) (w.heap.size + 1) (((w1.alloc (.cells #[.int .i64 2, .int .i64 s] 3)).alloc (.cells #[.slice (some ⟨w1.heap.size, 0, none⟩) 2 2] 24)).alloc (.cells #[.int .i64 v] 3)).heap.size (.slice (some ⟨w1.heap.size + 1, 0, none⟩) 1 1) (.slice (some ⟨w1.heap.size + 2, 0, none⟩) 1 1) [.slice (some ⟨w1.heap.size, 0, none⟩) 2 2] [[2, s]] [v]) := Lib.hid (clm_lit2 w1 _ _ _ I1.out.size)
    have BQ : Hid (Below w.heap.size w (((w1.alloc (.cells #[.int .i64 2, .int .i64 s] 3)).alloc (.cells #[.slice (some ⟨w1.heap.size, 0, none⟩) 2 2] 24)).alloc (.cells #[.int .i64 v] 3))) := Lib.hid (((I1.out.fin.alloc I1.out.fin.size _).alloc (by have := I1.out.size; simp; omega) _).alloc (by have := I1.out.size; simp; omega) _)
    have hsz := I1.out.size
    have c0 : (((w1.alloc (.cells #[.int .i64 2, .int .i64 s] 3)).alloc (.cells #[.slice (some ⟨w1.heap.size, 0, none⟩) 2 2] 24)).alloc (.cells #[.int .i64 v] 3)).cell? ⟨w.heap.size, 0, none⟩ = some (.int .i64 0) := by rw [World.cell?_alloc_past _ _ _ (by simp; omega), World.cell?_alloc_past _ _ _ (by simp; omega), World.cell?_alloc_past _ _ _ (by omega)]; exact I1.out.box.cell 0
    have c1 : (((w1.alloc (.cells #[.int .i64 2, .int .i64 s] 3)).alloc (.cells #[.slice (some ⟨w1.heap.size, 0, none⟩) 2 2] 24)).alloc (.cells #[.int .i64 v] 3)).cell? ⟨w.heap.size, 1, none⟩ = some (.slice none 0 0) := by rw [World.cell?_alloc_past _ _ _ (by simp; omega), World.cell?_alloc_past _ _ _ (by simp; omega), World.cell?_alloc_past _ _ _ (by omega)]; exact I1.out.box.cell 1
    have c2 : (((w1.alloc (.cells #[.int .i64 2, .int .i64 s] 3)).alloc (.cells #[.slice (some ⟨w1.heap.size, 0, none⟩) 2 2] 24)).alloc (.cells #[.int .i64 v] 3)).cell? ⟨w.heap.size, 2, none⟩ = some (.slice none 0 0) := by rw [World.cell?_alloc_past _ _ _ (by simp; omega), World.cell?_alloc_past _ _ _ (by simp; omega), World.cell?_alloc_past _ _ _ (by omega)]; exact I1.out.box.cell 2
    have bq : Box (((w1.alloc (.cells #[.int .i64 2, .int .i64 s] 3)).alloc (.cells #[.slice (some ⟨w1.heap.size, 0, none⟩) 2 2] 24)).alloc (.cells #[.int .i64 v] 3)) w.heap.size [.int .i64 0, .slice none 0 0, .slice none 0 0] := ((I1.out.box.alloc _).alloc _).alloc _
    have f0 := bq.frozen 0
    have f1 := bq.frozen 1
    have f2 := bq.frozen 2
    clear bq
    obtain ⟨e0, e1, e2, e3, e4, e5, e6, e7, e8, e9, e10, e11⟩ := G.on I1.out.fin
    go_wp2
    refine bodyPost_ret (v := .agg #[.int .i64 3, .slice (some ⟨w1.heap.size + 1, 0, none⟩) 1 1, .slice (some ⟨w1.heap.size + 2, 0, none⟩) 1 1]) ?_ rfl ?_
    · simp [results, Tryd.results16, go_sem, c0, c1, c2]
    · exact clm_set BQ.out OC.out
set_option maxHeartbeats 1600000 in
theorem ifmk_any (g s m : Int) (w : World) : Calls Tryd.prog 62 #[.int .i64 g, .int .i64 s, .int .i64 m] w (ClmPost w g [[s]] [m]) := by
  go_enter Tryd.func62, Tryd.ntmps62
  go_wp2
  refine bodyPost_ret (v := .agg #[.int .i64 g, .slice (some ⟨w.heap.size + 1 + 1, 0, none⟩) 1 1, .slice (some ⟨w.heap.size + 1 + 1 + 1, 0, none⟩) 1 1]) ?_ rfl ?_
  · simp [results, Tryd.results62, go_sem]
  · have OC := clm_lit1 (w.alloc (.cells #[.int .i64 g, .slice (some ⟨w.heap.size + 1 + 1, 0, none⟩) 1 1, .slice (some ⟨w.heap.size + 1 + 1 + 1, 0, none⟩) 1 1] 26)) s m (B := w.heap.size) (by simp)
    refine ⟨_, _, [.slice (some ⟨w.heap.size + 1, 0, none⟩) 1 1], rfl, ?_, ?_⟩
    · simpa only [World.size_alloc] using OC
    · exact (((below_grow w _).alloc (by simp) _).alloc (by simp; omega) _).alloc (by simp; omega) _

theorem inum_no (g s v n : Int) (w : World) (G : Gr w) (h : ¬ (envI g s v = true ∧ exB g n = true)) : Calls Tryd.prog 21 #[.int .i64 g, .int .i64 s, .int .i64 v, .int .i64 n] w (ClmPost w 0 [] []) := by
  have I0 := Lib.hid (InB.start w [.int .i64 0, .slice none 0 0, .slice none 0 0] 26)
  cases h1 : envI g s v
  · skip
    clear h
    go_enter Tryd.func21, Tryd.ntmps21
    go_wp2_with fail
    refine (ienin_is h1 _ (G.on I0.out.fin)).mono ?_
    rintro e w1 ⟨rfl, hb⟩
    have I1 := Lib.hid (InB.of hb)
    clear hb
    have c0 := I1.out.box.cell 0
    have c1 := I1.out.box.cell 1
    have c2 := I1.out.box.cell 2
    have f0 := I1.out.box.frozen 0
    have f1 := I1.out.box.frozen 1
    have f2 := I1.out.box.frozen 2
    simp at c0 c1 c2
    go_wp2
    refine bodyPost_ret (v := .agg #[.int .i64 0, .slice none 0 0, .slice none 0 0]) ?_ rfl ?_
    · simp [results, Tryd.results21, go_sem, c0, c1, c2]
    · exact clm_none (set3 I1.out.fin).1
  · skip
    have h2 : exB g n = false := by
      cases hh : exB g n
      · rfl
      · exact absurd ⟨h1, hh⟩ h
    clear h
    go_enter Tryd.func21, Tryd.ntmps21
    go_wp2_with fail
    refine (ienin_is h1 _ (G.on I0.out.fin)).mono ?_
    rintro e w1 ⟨rfl, hb⟩
    have I1 := Lib.hid (InB.of hb)
    clear hb
    go_wp2_with fail
    refine (iex_q h2 _ (G.on I1.out.fin)).mono ?_
    rintro e w2 ⟨rfl, hb⟩
    have I2 := Lib.hid (I1.out.on hb)
    clear hb
    have c0 := I2.out.box.cell 0
    have c1 := I2.out.box.cell 1
    have c2 := I2.out.box.cell 2
    have f0 := I2.out.box.frozen 0
    have f1 := I2.out.box.frozen 1
    have f2 := I2.out.box.frozen 2
    simp at c0 c1 c2
    go_wp2
    refine bodyPost_ret (v := .agg #[.int .i64 0, .slice none 0 0, .slice none 0 0]) ?_ rfl ?_
    · simp [results, Tryd.results21, go_sem, c0, c1, c2]
    · exact clm_none (set3 I2.out.fin).1

set_option maxHeartbeats 1600000 in
theorem inum_yes (g s v n : Int) (w : World) (G : Gr w) (h : envI g s v = true ∧ exB g n = true) : Calls Tryd.prog 21 #[.int .i64 g, .int .i64 s, .int .i64 v, .int .i64 n] w (ClmPost w g [[s]] [numM g v n]) := by
  have I0 := Lib.hid (InB.start w [.int .i64 0, .slice none 0 0, .slice none 0 0] 26)
  obtain ⟨h1, h2⟩ := h
  have HX := Lib.hid (num_tim (envI_true.1 h1).2 h2)
  obtain ⟨⟨g0, g4⟩, n0, n1⟩ := exB_true.1 h2
  obtain ⟨o1, o2⟩ := ord_bd g0 g4
  have n2 : n ≤ 22 := by omega
  clear n1 o1 o2
  rcases g_cases g0 g4 with rfl | rfl | rfl | rfl <;> clear g0 g4
  · have HY : Hid (numM 0 v n = tim 0 v (gpow 0 2 (-n))) := HX
    clear HX
    go_enter Tryd.func21, Tryd.ntmps21
    go_wp2_with fail
    refine (ienin_is h1 _ (G.on I0.out.fin)).mono ?_
    rintro e w1 ⟨rfl, hb⟩
    have I1 := Lib.hid (InB.of hb)
    clear hb
    go_wp2_with fail
    refine (iex_q h2 _ (G.on I1.out.fin)).mono ?_
    rintro e w2 ⟨rfl, hb⟩
    have I2 := Lib.hid (I1.out.on hb)
    clear hb
    obtain ⟨e0, e1, e2, e3, e4, e5, e6, e7, e8, e9, e10, e11⟩ := G.on I2.out.fin
    go_wp2_with fail
    refine (ipow_b _ _ _ _ (G.on I2.out.fin)).mono ?_
    rintro e w3 ⟨rfl, hb⟩
    have I3 := Lib.hid (I2.out.on hb)
    clear e0 e1 e2 e3 e4 e5 e6 e7 e8 e9 e10 e11
    clear hb
    go_wp2_with fail
    refine (itim_b _ _ _ _ (G.on I3.out.fin)).mono ?_
    rintro e w4 ⟨rfl, hb⟩
    have I4 := Lib.hid (I3.out.on hb)
    rw [← HY.out]
    clear hb
    go_wp2_with fail
    refine (ifmk_any _ _ _ _).mono ?_
    rintro e w5 ⟨rv, mv, us, rfl, ho, hb⟩
    have I5 := Lib.hid (I4.out.on hb)
    have OC := Lib.hid (ho.lower I4.out.size)
    obtain ⟨⟨a1, c1x, er⟩, a2, c2x, em⟩ := ho.form1
    subst er em
    clear hb ho
    have c0 := I5.out.box.cell 0
    have c1 := I5.out.box.cell 1
    have c2 := I5.out.box.cell 2
    have f0 := I5.out.box.frozen 0
    have f1 := I5.out.box.frozen 1
    have f2 := I5.out.box.frozen 2
    simp at c0 c1 c2
    go_wp2
    refine bodyPost_ret (v := .agg #[.int .i64 0, .slice a1 1 c1x, .slice a2 1 c2x]) ?_ rfl ?_
    · simp [results, Tryd.results21, go_sem, c0, c1, c2]
    · exact clm_set I5.out.fin OC.out
  · have HY : Hid (numM 1 v n = tim 1 v (gpow 1 3 (-n))) := HX
    clear HX
    go_enter Tryd.func21, Tryd.ntmps21
    go_wp2_with fail
    refine (ienin_is h1 _ (G.on I0.out.fin)).mono ?_
    rintro e w1 ⟨rfl, hb⟩
    have I1 := Lib.hid (InB.of hb)
    clear hb
    go_wp2_with fail
    refine (iex_q h2 _ (G.on I1.out.fin)).mono ?_
    rintro e w2 ⟨rfl, hb⟩
    have I2 := Lib.hid (I1.out.on hb)
    clear hb
    obtain ⟨e0, e1, e2, e3, e4, e5, e6, e7, e8, e9, e10, e11⟩ := G.on I2.out.fin
    go_wp2_with fail
    refine (ipow_b _ _ _ _ (G.on I2.out.fin)).mono ?_
    rintro e w3 ⟨rfl, hb⟩
    have I3 := Lib.hid (I2.out.on hb)
    clear e0 e1 e2 e3 e4 e5 e6 e7 e8 e9 e10 e11
    clear hb
    go_wp2_with fail
    refine (itim_b _ _ _ _ (G.on I3.out.fin)).mono ?_
    rintro e w4 ⟨rfl, hb⟩
    have I4 := Lib.hid (I3.out.on hb)
    rw [← HY.out]
    clear hb
    go_wp2_with fail
    refine (ifmk_any _ _ _ _).mono ?_
    rintro e w5 ⟨rv, mv, us, rfl, ho, hb⟩
    have I5 := Lib.hid (I4.out.on hb)
    have OC := Lib.hid (ho.lower I4.out.size)
    obtain ⟨⟨a1, c1x, er⟩, a2, c2x, em⟩ := ho.form1
    subst er em
    clear hb ho
    have c0 := I5.out.box.cell 0
    have c1 := I5.out.box.cell 1
    have c2 := I5.out.box.cell 2
    have f0 := I5.out.box.frozen 0
    have f1 := I5.out.box.frozen 1
    have f2 := I5.out.box.frozen 2
    simp at c0 c1 c2
    go_wp2
    refine bodyPost_ret (v := .agg #[.int .i64 1, .slice a1 1 c1x, .slice a2 1 c2x]) ?_ rfl ?_
    · simp [results, Tryd.results21, go_sem, c0, c1, c2]
    · exact clm_set I5.out.fin OC.out
  · have HY : Hid (numM 2 v n = tim 2 v (gpow 2 2 (-n))) := HX
    clear HX
    go_enter Tryd.func21, Tryd.ntmps21
    go_wp2_with fail
    refine (ienin_is h1 _ (G.on I0.out.fin)).mono ?_
    rintro e w1 ⟨rfl, hb⟩
    have I1 := Lib.hid (InB.of hb)
    clear hb
    go_wp2_with fail
    refine (iex_q h2 _ (G.on I1.out.fin)).mono ?_
    rintro e w2 ⟨rfl, hb⟩
    have I2 := Lib.hid (I1.out.on hb)
    clear hb
    obtain ⟨e0, e1, e2, e3, e4, e5, e6, e7, e8, e9, e10, e11⟩ := G.on I2.out.fin
    go_wp2_with fail
    refine (ipow_b _ _ _ _ (G.on I2.out.fin)).mono ?_
    rintro e w3 ⟨rfl, hb⟩
    have I3 := Lib.hid (I2.out.on hb)
    clear e0 e1 e2 e3 e4 e5 e6 e7 e8 e9 e10 e11
    clear hb
    go_wp2_with fail
    refine (itim_b _ _ _ _ (G.on I3.out.fin)).mono ?_
    rintro e w4 ⟨rfl, hb⟩
    have I4 := Lib.hid (I3.out.on hb)
    rw [← HY.out]
    clear hb
    go_wp2_with fail
    refine (ifmk_any _ _ _ _).mono ?_
    rintro e w5 ⟨rv, mv, us, rfl, ho, hb⟩
    have I5 := Lib.hid (I4.out.on hb)
    have OC := Lib.hid (ho.lower I4.out.size)
    obtain ⟨⟨a1, c1x, er⟩, a2, c2x, em⟩ := ho.form1
    subst er em
    clear hb ho
    have c0 := I5.out.box.cell 0
    have c1 := I5.out.box.cell 1
    have c2 := I5.out.box.cell 2
    have f0 := I5.out.box.frozen 0
    have f1 := I5.out.box.frozen 1
    have f2 := I5.out.box.frozen 2
    simp at c0 c1 c2
    go_wp2
    refine bodyPost_ret (v := .agg #[.int .i64 2, .slice a1 1 c1x, .slice a2 1 c2x]) ?_ rfl ?_
    · simp [results, Tryd.results21, go_sem, c0, c1, c2]
    · exact clm_set I5.out.fin OC.out
  · have HY : Hid (numM 3 v n = tim 3 v (gpow 3 2 (-n))) := HX
    clear HX
    go_enter Tryd.func21, Tryd.ntmps21
    go_wp2_with fail
    refine (ienin_is h1 _ (G.on I0.out.fin)).mono ?_
    rintro e w1 ⟨rfl, hb⟩
    have I1 := Lib.hid (InB.of hb)
    clear hb
    go_wp2_with fail
    refine (iex_q h2 _ (G.on I1.out.fin)).mono ?_
    rintro e w2 ⟨rfl, hb⟩
    have I2 := Lib.hid (I1.out.on hb)
    clear hb
    obtain ⟨e0, e1, e2, e3, e4, e5, e6, e7, e8, e9, e10, e11⟩ := G.on I2.out.fin
    go_wp2_with fail
    refine (ipow_b _ _ _ _ (G.on I2.out.fin)).mono ?_
    rintro e w3 ⟨rfl, hb⟩
    have I3 := Lib.hid (I2.out.on hb)
    clear e0 e1 e2 e3 e4 e5 e6 e7 e8 e9 e10 e11
    clear hb
    go_wp2_with fail
    refine (itim_b _ _ _ _ (G.on I3.out.fin)).mono ?_
    rintro e w4 ⟨rfl, hb⟩
    have I4 := Lib.hid (I3.out.on hb)
    rw [← HY.out]
    clear hb
    go_wp2_with fail
    refine (ifmk_any _ _ _ _).mono ?_
    rintro e w5 ⟨rv, mv, us, rfl, ho, hb⟩
    have I5 := Lib.hid (I4.out.on hb)
    have OC := Lib.hid (ho.lower I4.out.size)
    obtain ⟨⟨a1, c1x, er⟩, a2, c2x, em⟩ := ho.form1
    subst er em
    clear hb ho
    have c0 := I5.out.box.cell 0
    have c1 := I5.out.box.cell 1
    have c2 := I5.out.box.cell 2
    have f0 := I5.out.box.frozen 0
    have f1 := I5.out.box.frozen 1
    have f2 := I5.out.box.frozen 2
    simp at c0 c1 c2
    go_wp2
    refine bodyPost_ret (v := .agg #[.int .i64 3, .slice a1 1 c1x, .slice a2 1 c2x]) ?_ rfl ?_
    · simp [results, Tryd.results21, go_sem, c0, c1, c2]
    · exact clm_set I5.out.fin OC.out
theorem isam_no (g s a b : Int) (w : World) (G : Gr w) (h : ¬ (envI g s a = true ∧ envI g s b = true)) : Calls Tryd.prog 23 #[.int .i64 g, .int .i64 s, .int .i64 a, .int .i64 b] w (ClmPost w 0 [] []) := by
  have I0 := Lib.hid (InB.start w [.int .i64 0, .slice none 0 0, .slice none 0 0] 26)
  cases h1 : envI g s a
  · skip
    clear h
    go_enter Tryd.func23, Tryd.ntmps23
    go_wp2_with fail
    refine (ienin_is h1 _ (G.on I0.out.fin)).mono ?_
    rintro e w1 ⟨rfl, hb⟩
    have I1 := Lib.hid (InB.of hb)
    clear hb
    have c0 := I1.out.box.cell 0
    have c1 := I1.out.box.cell 1
    have c2 := I1.out.box.cell 2
    have f0 := I1.out.box.frozen 0
    have f1 := I1.out.box.frozen 1
    have f2 := I1.out.box.frozen 2
    simp at c0 c1 c2
    go_wp2
    refine bodyPost_ret (v := .agg #[.int .i64 0, .slice none 0 0, .slice none 0 0]) ?_ rfl ?_
    · simp [results, Tryd.results23, go_sem, c0, c1, c2]
    · exact clm_none (set3 I1.out.fin).1
  · skip
    have h2 : envI g s b = false := by
      cases hh : envI g s b
      · rfl
      · exact absurd ⟨h1, hh⟩ h
    clear h
    go_enter Tryd.func23, Tryd.ntmps23
    go_wp2_with fail
    refine (ienin_is h1 _ (G.on I0.out.fin)).mono ?_
    rintro e w1 ⟨rfl, hb⟩
    have I1 := Lib.hid (InB.of hb)
    clear hb
    go_wp2_with fail
    refine (ienin_is h2 _ (G.on I1.out.fin)).mono ?_
    rintro e w2 ⟨rfl, hb⟩
    have I2 := Lib.hid (I1.out.on hb)
    clear hb
    have c0 := I2.out.box.cell 0
    have c1 := I2.out.box.cell 1
    have c2 := I2.out.box.cell 2
    have f0 := I2.out.box.frozen 0
    have f1 := I2.out.box.frozen 1
    have f2 := I2.out.box.frozen 2
    simp at c0 c1 c2
    go_wp2
    refine bodyPost_ret (v := .agg #[.int .i64 0, .slice none 0 0, .slice none 0 0]) ?_ rfl ?_
    · simp [results, Tryd.results23, go_sem, c0, c1, c2]
    · exact clm_none (set3 I2.out.fin).1

set_option maxHeartbeats 1600000 in
theorem isam_yes (g s a b : Int) (w : World) (G : Gr w) (h : envI g s a = true ∧ envI g s b = true) : Calls Tryd.prog 23 #[.int .i64 g, .int .i64 s, .int .i64 a, .int .i64 b] w (ClmPost w g [[s]] [sameM g a b]) := by
  have I0 := Lib.hid (InB.start w [.int .i64 0, .slice none 0 0, .slice none 0 0] 26)
  obtain ⟨h1, h2⟩ := h
  have HX := Lib.hid (same_tim (envI_true.1 h1).2 (envI_true.1 h2).2)
  · skip
    go_enter Tryd.func23, Tryd.ntmps23
    go_wp2_with fail
    refine (ienin_is h1 _ (G.on I0.out.fin)).mono ?_
    rintro e w1 ⟨rfl, hb⟩
    have I1 := Lib.hid (InB.of hb)
    clear hb
    go_wp2_with fail
    refine (ienin_is h2 _ (G.on I1.out.fin)).mono ?_
    rintro e w2 ⟨rfl, hb⟩
    have I2 := Lib.hid (I1.out.on hb)
    clear hb
    go_wp2_with fail
    refine (ipow_b _ _ _ _ (G.on I2.out.fin)).mono ?_
    rintro e w3 ⟨rfl, hb⟩
    have I3 := Lib.hid (I2.out.on hb)
    clear hb
    go_wp2_with fail
    refine (itim_b _ _ _ _ (G.on I3.out.fin)).mono ?_
    rintro e w4 ⟨rfl, hb⟩
    have I4 := Lib.hid (I3.out.on hb)
    rw [← HX.out]
    clear hb
    go_wp2_with fail
    refine (ifmk_any _ _ _ _).mono ?_
    rintro e w5 ⟨rv, mv, us, rfl, ho, hb⟩
    have I5 := Lib.hid (I4.out.on hb)
    have OC := Lib.hid (ho.lower I4.out.size)
    obtain ⟨⟨a1, c1x, er⟩, a2, c2x, em⟩ := ho.form1
    subst er em
    clear hb ho
    have c0 := I5.out.box.cell 0
    have c1 := I5.out.box.cell 1
    have c2 := I5.out.box.cell 2
    have f0 := I5.out.box.frozen 0
    have f1 := I5.out.box.frozen 1
    have f2 := I5.out.box.frozen 2
    simp at c0 c1 c2
    go_wp2
    refine bodyPost_ret (v := .agg #[.int .i64 g, .slice a1 1 c1x, .slice a2 1 c2x]) ?_ rfl ?_
    · simp [results, Tryd.results23, go_sem, c0, c1, c2]
    · exact clm_set I5.out.fin OC.out

end Go.Proofs.YtljekapbcphdaabDoor
