/- impl.ExponentsFrom. -/
import Derived.Test.YtclihkcigppgjaaDoorWokI
import Derived.Test.YtclihkcigppgjaaDoorImplT
namespace Go.Proofs.YtclihkcigppgjaaDoor
open Go.RowKit

theorem head3 (w : World) (P R S : List Value) (T1 T2 T3 : TypeId) : ∀ w', InW (((w.alloc (.cells P.toArray T1)).alloc (.cells R.toArray T2)).alloc (.cells S.toArray T3)) (w.heap.size + 3) w' → Box w' w.heap.size P ∧ Box w' (w.heap.size + 1) R ∧ Box w' (w.heap.size + 1 + 1) S ∧ Below w.heap.size w w' := by
  intro w' h
  obtain ⟨b1, b2, b3, b4⟩ := boxes3 (Below.refl (((w.alloc (.cells P.toArray T1)).alloc (.cells R.toArray T2)).alloc (.cells S.toArray T3)).heap.size (((w.alloc (.cells P.toArray T1)).alloc (.cells R.toArray T2)).alloc (.cells S.toArray T3)))
  exact ⟨h.box b1 (by omega), h.box b2 (by omega), h.box b3 (by omega), b4.trans (h.1.mono (by omega))⟩
/-- Whether two talks tell exponents, and which. -/
def frB (g : Int) (rows : List (List Int)) (makes s1 : List Int) (q1 : Int) (t1 s2 : List Int) (q2 : Int) (t2 : List Int) : Bool :=
  wokB g rows makes s1 q1 t1 && (wokB g rows makes s2 q2 t2 && (sameB s1 s2 && decide (q1 ≠ q2)))
def frL (g : Int) (rows : List (List Int)) (makes s1 : List Int) (q1 : Int) (t1 s2 : List Int) (q2 : Int) (t2 : List Int) : List Int :=
  if frB g rows makes s1 q1 t1 s2 q2 t2 then fromTo g t1 t2 q1 q2 t1.length else []
theorem frL_no {g : Int} {rows : List (List Int)} {makes s1 : List Int} {q1 : Int} {t1 s2 : List Int} {q2 : Int} {t2 : List Int} (h : frB g rows makes s1 q1 t1 s2 q2 t2 = false) : frL g rows makes s1 q1 t1 s2 q2 t2 = [] := by simp [frL, h]
theorem frL_yes {g : Int} {rows : List (List Int)} {makes s1 : List Int} {q1 : Int} {t1 s2 : List Int} {q2 : Int} {t2 : List Int} (h : frB g rows makes s1 q1 t1 s2 q2 t2 = true) : frL g rows makes s1 q1 t1 s2 q2 t2 = fromTo g t1 t2 q1 q2 t1.length := by simp [frL, h]
theorem frL_len (g : Int) (rows : List (List Int)) (makes s1 : List Int) (q1 : Int) (t1 s2 : List Int) (q2 : Int) (t2 : List Int) : (frL g rows makes s1 q1 t1 s2 q2 t2).length ≤ 2 := by
  cases h : frB g rows makes s1 q1 t1 s2 q2 t2
  · rw [frL_no h]; simp
  · rw [frL_yes h, fromTo_len]
    unfold frB at h
    simp only [Bool.and_eq_true] at h
    have := (wok_true.1 h.1).lot
    rw [this.len]; exact this.cl.u2

set_option maxHeartbeats 6400000 in
theorem ifrom_any (g : Int) (rv mv s1v : Value) (q1 : Int) (t1v s2v : Value) (q2 : Int) (t2v : Value) (rows : List (List Int)) (makes s1 t1 s2 t2 : List Int) (w : World) (G : Gr w) (h : Cw w rv mv rows makes) (hs1 : Ints w s1v s1) (ht1 : Ints w t1v t1) (hs2 : Ints w s2v s2) (ht2 : Ints w t2v t2) :
    Calls Tryd.prog 17 #[.agg #[.int .i64 g, rv, mv], .agg #[s1v, .int .i64 q1, t1v], .agg #[s2v, .int .i64 q2, t2v]] w fun e w' => ∃ v, e = .returned (.tuple #[v, .bool (frB g rows makes s1 q1 t1 s2 q2 t2)]) ∧ Own w' w.heap.size v (frL g rows makes s1 q1 t1 s2 q2 t2) ∧ Below w.heap.size w w' := by
  have HG := Lib.hid G
  have HH := Lib.hid h
  have HS1 := Lib.hid hs1
  have HT1 := Lib.hid ht1
  have HS2 := Lib.hid hs2
  have HT2 := Lib.hid ht2
  have HBX := Lib.hid (head3 w [.int .i64 g, rv, mv] [s1v, .int .i64 q1, t1v] [s2v, .int .i64 q2, t2v] 26 28 28)
  have I0 : Hid (InW (((w.alloc (.cells #[.int .i64 g, rv, mv] 26)).alloc (.cells #[s1v, .int .i64 q1, t1v] 28)).alloc (.cells #[s2v, .int .i64 q2, t2v] 28)) (w.heap.size + 3) (((w.alloc (.cells #[.int .i64 g, rv, mv] 26)).alloc (.cells #[s1v, .int .i64 q1, t1v] 28)).alloc (.cells #[s2v, .int .i64 q2, t2v] 28))) := Lib.hid (InW.start (by simp) (Below.refl _ _))
  clear h hs1 ht1 hs2 ht2 G
  cases h1 : wokB g rows makes s1 q1 t1
  · have HXF := Lib.hid (show frB g rows makes s1 q1 t1 s2 q2 t2 = false by unfold frB; rw [h1]; simp)
    have HXL := Lib.hid (frL_no HXF.out)
    go_enter Tryd.func17, Tryd.ntmps17
    go_wp2_with fail
    refine (iwok_any g rv mv s1v q1 t1v rows makes s1 t1 _ (HG.out.on (HBX.out _ I0.out).2.2.2) (HH.out.on (HBX.out _ I0.out).2.2.2) (HS1.out.below (HBX.out _ I0.out).2.2.2) (HT1.out.below (HBX.out _ I0.out).2.2.2)).mono ?_
    rintro e w1 ⟨rfl, hb⟩
    rw [h1]
    have I1 := Lib.hid (I0.out.on hb)
    clear hb
    go_wp2
    go_ret2
    exact ⟨_, by rw [HXF.out]; rfl, by rw [HXL.out]; exact World.ownsRow_nil _ _ _ _, (HBX.out _ I1.out).2.2.2⟩
  cases h2 : wokB g rows makes s2 q2 t2
  · have HXF := Lib.hid (show frB g rows makes s1 q1 t1 s2 q2 t2 = false by unfold frB; rw [h1, h2]; simp)
    have HXL := Lib.hid (frL_no HXF.out)
    go_enter Tryd.func17, Tryd.ntmps17
    go_wp2_with fail
    refine (iwok_any g rv mv s1v q1 t1v rows makes s1 t1 _ (HG.out.on (HBX.out _ I0.out).2.2.2) (HH.out.on (HBX.out _ I0.out).2.2.2) (HS1.out.below (HBX.out _ I0.out).2.2.2) (HT1.out.below (HBX.out _ I0.out).2.2.2)).mono ?_
    rintro e w1 ⟨rfl, hb⟩
    rw [h1]
    have I1 := Lib.hid (I0.out.on hb)
    clear hb
    have p0 := (HBX.out _ I1.out).1.cell 0
    have p1 := (HBX.out _ I1.out).1.cell 1
    have p2 := (HBX.out _ I1.out).1.cell 2
    have r0 := (HBX.out _ I1.out).2.1.cell 0
    have r1 := (HBX.out _ I1.out).2.1.cell 1
    have r2 := (HBX.out _ I1.out).2.1.cell 2
    have bz0 := (HBX.out _ I1.out).2.2.1.cell 0
    have bz1 := (HBX.out _ I1.out).2.2.1.cell 1
    have bz2 := (HBX.out _ I1.out).2.2.1.cell 2
    simp at p0 p1 p2 r0 r1 r2 bz0 bz1 bz2
    go_wp2_with fail
    refine (iwok_any g rv mv s2v q2 t2v rows makes s2 t2 _ (HG.out.on (HBX.out _ I1.out).2.2.2) (HH.out.on (HBX.out _ I1.out).2.2.2) (HS2.out.below (HBX.out _ I1.out).2.2.2) (HT2.out.below (HBX.out _ I1.out).2.2.2)).mono ?_
    rintro e w2 ⟨rfl, hb⟩
    rw [h2]
    have I2 := Lib.hid (I1.out.on hb)
    clear hb p0 p1 p2 r0 r1 r2 bz0 bz1 bz2
    go_wp2
    go_ret2
    exact ⟨_, by rw [HXF.out]; rfl, by rw [HXL.out]; exact World.ownsRow_nil _ _ _ _, (HBX.out _ I2.out).2.2.2⟩
  cases h3 : sameB s1 s2
  · have HXF := Lib.hid (show frB g rows makes s1 q1 t1 s2 q2 t2 = false by unfold frB; rw [h1, h2, h3]; simp)
    have HXL := Lib.hid (frL_no HXF.out)
    go_enter Tryd.func17, Tryd.ntmps17
    go_wp2_with fail
    refine (iwok_any g rv mv s1v q1 t1v rows makes s1 t1 _ (HG.out.on (HBX.out _ I0.out).2.2.2) (HH.out.on (HBX.out _ I0.out).2.2.2) (HS1.out.below (HBX.out _ I0.out).2.2.2) (HT1.out.below (HBX.out _ I0.out).2.2.2)).mono ?_
    rintro e w1 ⟨rfl, hb⟩
    rw [h1]
    have I1 := Lib.hid (I0.out.on hb)
    clear hb
    have p0 := (HBX.out _ I1.out).1.cell 0
    have p1 := (HBX.out _ I1.out).1.cell 1
    have p2 := (HBX.out _ I1.out).1.cell 2
    have r0 := (HBX.out _ I1.out).2.1.cell 0
    have r1 := (HBX.out _ I1.out).2.1.cell 1
    have r2 := (HBX.out _ I1.out).2.1.cell 2
    have bz0 := (HBX.out _ I1.out).2.2.1.cell 0
    have bz1 := (HBX.out _ I1.out).2.2.1.cell 1
    have bz2 := (HBX.out _ I1.out).2.2.1.cell 2
    simp at p0 p1 p2 r0 r1 r2 bz0 bz1 bz2
    go_wp2_with fail
    refine (iwok_any g rv mv s2v q2 t2v rows makes s2 t2 _ (HG.out.on (HBX.out _ I1.out).2.2.2) (HH.out.on (HBX.out _ I1.out).2.2.2) (HS2.out.below (HBX.out _ I1.out).2.2.2) (HT2.out.below (HBX.out _ I1.out).2.2.2)).mono ?_
    rintro e w2 ⟨rfl, hb⟩
    rw [h2]
    have I2 := Lib.hid (I1.out.on hb)
    clear hb p0 p1 p2 r0 r1 r2 bz0 bz1 bz2
    have p0 := (HBX.out _ I2.out).1.cell 0
    have p1 := (HBX.out _ I2.out).1.cell 1
    have p2 := (HBX.out _ I2.out).1.cell 2
    have r0 := (HBX.out _ I2.out).2.1.cell 0
    have r1 := (HBX.out _ I2.out).2.1.cell 1
    have r2 := (HBX.out _ I2.out).2.1.cell 2
    have bz0 := (HBX.out _ I2.out).2.2.1.cell 0
    have bz1 := (HBX.out _ I2.out).2.2.1.cell 1
    have bz2 := (HBX.out _ I2.out).2.2.1.cell 2
    simp at p0 p1 p2 r0 r1 r2 bz0 bz1 bz2
    go_wp2_with fail
    refine (slEq_any s1v s2v s1 s2 _ (HS1.out.below (HBX.out _ I2.out).2.2.2) (HS2.out.below (HBX.out _ I2.out).2.2.2)).mono ?_
    rintro e w3 ⟨rfl, hb⟩
    rw [h3]
    have I3 := Lib.hid (I2.out.on hb)
    clear hb p0 p1 p2 r0 r1 r2 bz0 bz1 bz2
    have p0 := (HBX.out _ I3.out).1.cell 0
    have p1 := (HBX.out _ I3.out).1.cell 1
    have p2 := (HBX.out _ I3.out).1.cell 2
    have r0 := (HBX.out _ I3.out).2.1.cell 0
    have r1 := (HBX.out _ I3.out).2.1.cell 1
    have r2 := (HBX.out _ I3.out).2.1.cell 2
    have bz0 := (HBX.out _ I3.out).2.2.1.cell 0
    have bz1 := (HBX.out _ I3.out).2.2.1.cell 1
    have bz2 := (HBX.out _ I3.out).2.2.1.cell 2
    simp at p0 p1 p2 r0 r1 r2 bz0 bz1 bz2
    go_wp2
    go_ret2
    exact ⟨_, by rw [HXF.out]; rfl, by rw [HXL.out]; exact World.ownsRow_nil _ _ _ _, (HBX.out _ I3.out).2.2.2⟩
  by_cases h4 : q1 = q2
  · have hq4 : (q1 == q2) = true := by simpa using h4
    have HXF := Lib.hid (show frB g rows makes s1 q1 t1 s2 q2 t2 = false by unfold frB; rw [h1, h2, h3, decide_eq_false (fun h => h h4)]; rfl)
    have HXL := Lib.hid (frL_no HXF.out)
    clear h4
    go_enter Tryd.func17, Tryd.ntmps17
    go_wp2_with fail
    refine (iwok_any g rv mv s1v q1 t1v rows makes s1 t1 _ (HG.out.on (HBX.out _ I0.out).2.2.2) (HH.out.on (HBX.out _ I0.out).2.2.2) (HS1.out.below (HBX.out _ I0.out).2.2.2) (HT1.out.below (HBX.out _ I0.out).2.2.2)).mono ?_
    rintro e w1 ⟨rfl, hb⟩
    rw [h1]
    have I1 := Lib.hid (I0.out.on hb)
    clear hb
    have p0 := (HBX.out _ I1.out).1.cell 0
    have p1 := (HBX.out _ I1.out).1.cell 1
    have p2 := (HBX.out _ I1.out).1.cell 2
    have r0 := (HBX.out _ I1.out).2.1.cell 0
    have r1 := (HBX.out _ I1.out).2.1.cell 1
    have r2 := (HBX.out _ I1.out).2.1.cell 2
    have bz0 := (HBX.out _ I1.out).2.2.1.cell 0
    have bz1 := (HBX.out _ I1.out).2.2.1.cell 1
    have bz2 := (HBX.out _ I1.out).2.2.1.cell 2
    simp at p0 p1 p2 r0 r1 r2 bz0 bz1 bz2
    go_wp2_with fail
    refine (iwok_any g rv mv s2v q2 t2v rows makes s2 t2 _ (HG.out.on (HBX.out _ I1.out).2.2.2) (HH.out.on (HBX.out _ I1.out).2.2.2) (HS2.out.below (HBX.out _ I1.out).2.2.2) (HT2.out.below (HBX.out _ I1.out).2.2.2)).mono ?_
    rintro e w2 ⟨rfl, hb⟩
    rw [h2]
    have I2 := Lib.hid (I1.out.on hb)
    clear hb p0 p1 p2 r0 r1 r2 bz0 bz1 bz2
    have p0 := (HBX.out _ I2.out).1.cell 0
    have p1 := (HBX.out _ I2.out).1.cell 1
    have p2 := (HBX.out _ I2.out).1.cell 2
    have r0 := (HBX.out _ I2.out).2.1.cell 0
    have r1 := (HBX.out _ I2.out).2.1.cell 1
    have r2 := (HBX.out _ I2.out).2.1.cell 2
    have bz0 := (HBX.out _ I2.out).2.2.1.cell 0
    have bz1 := (HBX.out _ I2.out).2.2.1.cell 1
    have bz2 := (HBX.out _ I2.out).2.2.1.cell 2
    simp at p0 p1 p2 r0 r1 r2 bz0 bz1 bz2
    go_wp2_with fail
    refine (slEq_any s1v s2v s1 s2 _ (HS1.out.below (HBX.out _ I2.out).2.2.2) (HS2.out.below (HBX.out _ I2.out).2.2.2)).mono ?_
    rintro e w3 ⟨rfl, hb⟩
    rw [h3]
    have I3 := Lib.hid (I2.out.on hb)
    clear hb p0 p1 p2 r0 r1 r2 bz0 bz1 bz2
    have p0 := (HBX.out _ I3.out).1.cell 0
    have p1 := (HBX.out _ I3.out).1.cell 1
    have p2 := (HBX.out _ I3.out).1.cell 2
    have r0 := (HBX.out _ I3.out).2.1.cell 0
    have r1 := (HBX.out _ I3.out).2.1.cell 1
    have r2 := (HBX.out _ I3.out).2.1.cell 2
    have bz0 := (HBX.out _ I3.out).2.2.1.cell 0
    have bz1 := (HBX.out _ I3.out).2.2.1.cell 1
    have bz2 := (HBX.out _ I3.out).2.2.1.cell 2
    simp at p0 p1 p2 r0 r1 r2 bz0 bz1 bz2
    go_wp2
    go_ret2
    exact ⟨_, by rw [HXF.out]; rfl, by rw [HXL.out]; exact World.ownsRow_nil _ _ _ _, (HBX.out _ I3.out).2.2.2⟩
  have HXF := Lib.hid (show frB g rows makes s1 q1 t1 s2 q2 t2 = true by unfold frB; rw [h1, h2, h3, decide_eq_true h4]; rfl)
  have HXL := Lib.hid (frL_yes HXF.out)
  have k1 := wok_true.1 h1
  have k2 := wok_true.1 h2
  have hq4 : (q1 == q2) = false := by simpa using h4
  obtain ⟨t1a, t1c, e1, j1⟩ := HT1.out.opened
  obtain ⟨t2a, t2c, e2, j2⟩ := HT2.out.opened
  obtain ⟨u, hu⟩ : ∃ u, t1.length = u := ⟨_, rfl⟩
  have hu' : t2.length = u := by rw [← hu, k1.lot.len, k2.lot.len]
  have hu2 : u ≤ 2 := by rw [← hu, k1.lot.len]; exact k1.lot.cl.u2
  rw [hu] at e1
  rw [hu'] at e2
  have HC1 := Lib.hid (show ∀ k, k < u → ∃ M, t1a = some ⟨M, 0, none⟩ ∧ ∀ w', Below w.heap.size w w' → w'.cell? ⟨M, k, none⟩ = some (.int .i64 (nth t1 k)) from fun k hk => by
    obtain ⟨M, e1, hl, e2⟩ := j1.get k (by rw [hu]; exact hk)
    exact ⟨M, e1, fun w' hb => (hb.cell (p := ⟨M, k, none⟩) hl).trans e2⟩)
  have HC2 := Lib.hid (show ∀ k, k < u → ∃ M, t2a = some ⟨M, 0, none⟩ ∧ ∀ w', Below w.heap.size w w' → w'.cell? ⟨M, k, none⟩ = some (.int .i64 (nth t2 k)) from fun k hk => by
    obtain ⟨M, e1, hl, e2⟩ := j2.get k (by rw [hu']; exact hk)
    exact ⟨M, e1, fun w' hb => (hb.cell (p := ⟨M, k, none⟩) hl).trans e2⟩)
  have HX1 := Lib.hid (show ∀ k, k < u → exB g (nth t1 k) = true from fun k hk => allEx_at k1.lot.ex (by rw [hu]; exact hk))
  have HX2 := Lib.hid (show ∀ k, k < u → exB g (nth t2 k) = true from fun k hk => allEx_at k2.lot.ex (by rw [hu']; exact hk))
  have HQ1 := Lib.hid k1.ex
  have HQ2 := Lib.hid k2.ex
  have HNE := Lib.hid h4
  have HS := Lib.hid (fromTo_succ g t1 t2 q1 q2)
  have HLN := Lib.hid (fromTo_len g t1 t2 q1 q2)
  have HUU : Hid (t1.length = u) := Lib.hid hu
  obtain ⟨⟨g0, g4⟩, a0, a1⟩ := exB_true.1 k1.ex
  obtain ⟨_, b0, b1⟩ := exB_true.1 k2.ex
  obtain ⟨o1, o2⟩ := ord_bd g0 g4
  have a2 : q1 ≤ 22 := by omega
  have b2 : q2 ≤ 22 := by omega
  have HO := Lib.hid (show 3 ≤ ord g ∧ ord g ≤ 23 from ⟨o1, o2⟩)
  have HGG := Lib.hid (show 0 ≤ g ∧ g < 4 from ⟨g0, g4⟩)
  clear k1 k2 j1 j2 hu hu' a1 b1 o1 o2 g0 g4 h4
  subst e1 e2
  clear HBX I0
  have HBX := Lib.hid (head3 w [.int .i64 g, rv, mv] [s1v, .int .i64 q1, .slice t1a u t1c] [s2v, .int .i64 q2, .slice t2a u t2c] 26 28 28)
  have I0 : Hid (InW (((w.alloc (.cells #[.int .i64 g, rv, mv] 26)).alloc (.cells #[s1v, .int .i64 q1, .slice t1a u t1c] 28)).alloc (.cells #[s2v, .int .i64 q2, .slice t2a u t2c] 28)) (w.heap.size + 3) (((w.alloc (.cells #[.int .i64 g, rv, mv] 26)).alloc (.cells #[s1v, .int .i64 q1, .slice t1a u t1c] 28)).alloc (.cells #[s2v, .int .i64 q2, .slice t2a u t2c] 28))) := Lib.hid (InW.start (by simp) (Below.refl _ _))
  go_enter Tryd.func17, Tryd.ntmps17
  go_wp2_with fail
  refine (iwok_any g rv mv s1v q1 (.slice t1a u t1c) rows makes s1 t1 _ (HG.out.on (HBX.out _ I0.out).2.2.2) (HH.out.on (HBX.out _ I0.out).2.2.2) (HS1.out.below (HBX.out _ I0.out).2.2.2) (HT1.out.below (HBX.out _ I0.out).2.2.2)).mono ?_
  rintro e w1 ⟨rfl, hb⟩
  rw [h1]
  have I1 := Lib.hid (I0.out.on hb)
  clear hb
  have p0 := (HBX.out _ I1.out).1.cell 0
  have p1 := (HBX.out _ I1.out).1.cell 1
  have p2 := (HBX.out _ I1.out).1.cell 2
  have r0 := (HBX.out _ I1.out).2.1.cell 0
  have r1 := (HBX.out _ I1.out).2.1.cell 1
  have r2 := (HBX.out _ I1.out).2.1.cell 2
  have bz0 := (HBX.out _ I1.out).2.2.1.cell 0
  have bz1 := (HBX.out _ I1.out).2.2.1.cell 1
  have bz2 := (HBX.out _ I1.out).2.2.1.cell 2
  simp at p0 p1 p2 r0 r1 r2 bz0 bz1 bz2
  go_wp2_with fail
  refine (iwok_any g rv mv s2v q2 (.slice t2a u t2c) rows makes s2 t2 _ (HG.out.on (HBX.out _ I1.out).2.2.2) (HH.out.on (HBX.out _ I1.out).2.2.2) (HS2.out.below (HBX.out _ I1.out).2.2.2) (HT2.out.below (HBX.out _ I1.out).2.2.2)).mono ?_
  rintro e w2 ⟨rfl, hb⟩
  rw [h2]
  have I2 := Lib.hid (I1.out.on hb)
  clear hb p0 p1 p2 r0 r1 r2 bz0 bz1 bz2
  have p0 := (HBX.out _ I2.out).1.cell 0
  have p1 := (HBX.out _ I2.out).1.cell 1
  have p2 := (HBX.out _ I2.out).1.cell 2
  have r0 := (HBX.out _ I2.out).2.1.cell 0
  have r1 := (HBX.out _ I2.out).2.1.cell 1
  have r2 := (HBX.out _ I2.out).2.1.cell 2
  have bz0 := (HBX.out _ I2.out).2.2.1.cell 0
  have bz1 := (HBX.out _ I2.out).2.2.1.cell 1
  have bz2 := (HBX.out _ I2.out).2.2.1.cell 2
  simp at p0 p1 p2 r0 r1 r2 bz0 bz1 bz2
  go_wp2_with fail
  refine (slEq_any s1v s2v s1 s2 _ (HS1.out.below (HBX.out _ I2.out).2.2.2) (HS2.out.below (HBX.out _ I2.out).2.2.2)).mono ?_
  rintro e w3 ⟨rfl, hb⟩
  rw [h3]
  have I3 := Lib.hid (I2.out.on hb)
  clear hb p0 p1 p2 r0 r1 r2 bz0 bz1 bz2
  have p0 := (HBX.out _ I3.out).1.cell 0
  have p1 := (HBX.out _ I3.out).1.cell 1
  have p2 := (HBX.out _ I3.out).1.cell 2
  have r0 := (HBX.out _ I3.out).2.1.cell 0
  have r1 := (HBX.out _ I3.out).2.1.cell 1
  have r2 := (HBX.out _ I3.out).2.1.cell 2
  have bz0 := (HBX.out _ I3.out).2.2.1.cell 0
  have bz1 := (HBX.out _ I3.out).2.2.1.cell 1
  have bz2 := (HBX.out _ I3.out).2.2.1.cell 2
  simp at p0 p1 p2 r0 r1 r2 bz0 bz1 bz2
  go_wp2
  clear p0 p1 p2 r0 r1 r2 bz0 bz1 bz2
  go_loopw [8, 38] (fun v i wr => ∃ k : Nat, k ≤ u ∧ i = .int .i64 k ∧ Hid (InW (((w.alloc (.cells #[.int .i64 g, rv, mv] 26)).alloc (.cells #[s1v, .int .i64 q1, .slice t1a u t1c] 28)).alloc (.cells #[s2v, .int .i64 q2, .slice t2a u t2c] 28)) (w.heap.size + 3) wr) ∧ Hid (Own wr (w.heap.size + 3) v (fromTo g t1 t2 q1 q2 k))) (fun _ i _ => u - (intOf i).toNat)
  case atStart => exact ⟨0, by omega, rfl, I3, Lib.hid (World.ownsRow_nil _ _ _ _)⟩
  case round =>
    obtain ⟨k, hk, rfl, hI, ho⟩ := hrel
    obtain ⟨wo, rfl⟩ : ∃ wo : World, wo = wr := ⟨_, rfl⟩
    by_cases hlt : k < u
    · obtain ⟨M1, rfl, hc1⟩ := HC1.out k hlt
      obtain ⟨M2, rfl, hc2⟩ := HC2.out k hlt
      have HK1 := Lib.hid hc1
      have HK2 := Lib.hid hc2
      have hlt1 : (k : Int) < (u : Int) := by omega
      have HQT := Lib.hid (HX1.out k hlt)
      have HQS := Lib.hid (HX2.out k hlt)
      obtain ⟨_, c0, c1⟩ := exB_true.1 (HX1.out k hlt)
      obtain ⟨_, d0, d1⟩ := exB_true.1 (HX2.out k hlt)
      have c2 : nth t1 k ≤ 22 := by have := HO.out.2; omega
      have d2 : nth t2 k ≤ 22 := by have := HO.out.2; omega
      obtain ⟨y, hy⟩ : ∃ y, secretOf g q1 (nth t1 k) q2 (nth t2 k) = y := ⟨_, rfl⟩
      have HY := Lib.hid hy
      have hll := HLN.out k
      have HK : Hid (Kp (((w.alloc (.cells #[.int .i64 g, rv, mv] 26)).alloc (.cells #[s1v, .int .i64 q1, .slice (some ⟨M1, 0, none⟩) u t1c] 28)).alloc (.cells #[s2v, .int .i64 q2, .slice (some ⟨M2, 0, none⟩) u t2c] 28)) (w.heap.size + 3) u8 (fromTo g t1 t2 q1 q2 k) y none wo.drew) := Lib.hid (Kp.on (w1 := wo) ⟨hI.out.1, hI.out.2, ho.out⟩ (Below.refl _ _).drew)
      have HBM := Lib.hid (head3 w [.int .i64 g, rv, mv] [s1v, .int .i64 q1, .slice (some ⟨M1, 0, none⟩) u t1c] [s2v, .int .i64 q2, .slice (some ⟨M2, 0, none⟩) u t2c] 26 28 28)
      have HBY : Hid (∀ z w', Kp (((w.alloc (.cells #[.int .i64 g, rv, mv] 26)).alloc (.cells #[s1v, .int .i64 q1, .slice (some ⟨M1, 0, none⟩) u t1c] 28)).alloc (.cells #[s2v, .int .i64 q2, .slice (some ⟨M2, 0, none⟩) u t2c] 28)) (w.heap.size + 3) u8 (fromTo g t1 t2 q1 q2 k) y z w' → InW (((w.alloc (.cells #[.int .i64 g, rv, mv] 26)).alloc (.cells #[s1v, .int .i64 q1, .slice (some ⟨M1, 0, none⟩) u t1c] 28)).alloc (.cells #[s2v, .int .i64 q2, .slice (some ⟨M2, 0, none⟩) u t2c] 28)) (w.heap.size + 3) w') := Lib.hid fun z w' h => h.below
      clear hc1 hc2 hI ho hy c1 d1
      go_wp2_with fail
      apply wp_region_H (S := fun k => k == 20 || k == 21) (C := fun z w' => Hid (Kp (((w.alloc (.cells #[.int .i64 g, rv, mv] 26)).alloc (.cells #[s1v, .int .i64 q1, .slice (some ⟨M1, 0, none⟩) u t1c] 28)).alloc (.cells #[s2v, .int .i64 q2, .slice (some ⟨M2, 0, none⟩) u t2c] 28)) (w.heap.size + 3) u8 (fromTo g t1 t2 q1 q2 k) y z w')) [0, 1, 2, 3, 4, 5, 6, 7, 8, 9, 10, 11, 12, 13, 14, 15, 16, 17, 18, 19] none
      · kernel_rfl
      · kernel_rfl
      · kernel_rfl
      · exact ⟨rfl, rfl, rfl, rfl, rfl, rfl, rfl, rfl, rfl, rfl, rfl, rfl, rfl, rfl, rfl, rfl, rfl, rfl, rfl, rfl, trivial⟩
      · rfl
      · decide
      · exact HK
      · intro z
        dsimp only [pickL, nthO]
        repeat (first | go_big_quiet_skip | (go_big_quiet_want; go_big_quiet_op; first | go_big_quiet_on | (refine ⟨_, fun _ _ => rfl, ?_⟩; go_big_quiet_on)))
        go_big_quiet_want
        go_big_quiet_op
        refine ⟨.int .i64 g, fun w' hw' => ?_, ?_⟩
        · have q := (HBM.out _ (HBY.out _ _ hw'.out)).1.cell 0
          try simp at q
          simp [go_sem, q]
        go_big_quiet_on
        repeat (first | go_big_quiet_skip | (go_big_quiet_want; go_big_quiet_op; first | go_big_quiet_on | (refine ⟨_, fun _ _ => rfl, ?_⟩; go_big_quiet_on)))
        go_big_quiet_want
        go_big_quiet_op
        refine ⟨.slice (some ⟨M1, 0, none⟩) u t1c, fun w' hw' => ?_, ?_⟩
        · have q := (HBM.out _ (HBY.out _ _ hw'.out)).2.1.cell 2
          try simp at q
          simp [go_sem, q]
        go_big_quiet_on
        repeat (first | go_big_quiet_skip | (go_big_quiet_want; go_big_quiet_op; first | go_big_quiet_on | (refine ⟨_, fun _ _ => rfl, ?_⟩; go_big_quiet_on)))
        go_big_quiet_want
        go_big_quiet_op
        refine ⟨.int .i64 (nth t1 k), fun w' hw' => ?_, ?_⟩
        · have q := HK1.out w' (HBM.out _ (HBY.out _ _ hw'.out)).2.2.2
          try simp at q
          simp [go_sem, q]
        go_big_quiet_on
        repeat (first | go_big_quiet_skip | (go_big_quiet_want; go_big_quiet_op; first | go_big_quiet_on | (refine ⟨_, fun _ _ => rfl, ?_⟩; go_big_quiet_on)))
        go_big_quiet_want
        go_big_quiet_op
        refine ⟨.slice (some ⟨M2, 0, none⟩) u t2c, fun w' hw' => ?_, ?_⟩
        · have q := (HBM.out _ (HBY.out _ _ hw'.out)).2.2.1.cell 2
          try simp at q
          simp [go_sem, q]
        go_big_quiet_on
        repeat (first | go_big_quiet_skip | (go_big_quiet_want; go_big_quiet_op; first | go_big_quiet_on | (refine ⟨_, fun _ _ => rfl, ?_⟩; go_big_quiet_on)))
        go_big_quiet_want
        go_big_quiet_op
        refine ⟨.int .i64 (nth t2 k), fun w' hw' => ?_, ?_⟩
        · have q := HK2.out w' (HBM.out _ (HBY.out _ _ hw'.out)).2.2.2
          try simp at q
          simp [go_sem, q]
        go_big_quiet_on
        repeat (first | go_big_quiet_skip | (go_big_quiet_want; go_big_quiet_op; first | go_big_quiet_on | (refine ⟨_, fun _ _ => rfl, ?_⟩; go_big_quiet_on)))
        go_big_quiet_want
        go_big_quiet_op
        refine ⟨.int .i64 q1, fun w' hw' => ?_, ?_⟩
        · have q := (HBM.out _ (HBY.out _ _ hw'.out)).2.1.cell 1
          try simp at q
          simp [go_sem, q]
        go_big_quiet_on
        repeat (first | go_big_quiet_skip | (go_big_quiet_want; go_big_quiet_op; first | go_big_quiet_on | (refine ⟨_, fun _ _ => rfl, ?_⟩; go_big_quiet_on)))
        go_big_quiet_want
        go_big_quiet_op
        refine ⟨.int .i64 q2, fun w' hw' => ?_, ?_⟩
        · have q := (HBM.out _ (HBY.out _ _ hw'.out)).2.2.1.cell 1
          try simp at q
          simp [go_sem, q]
        go_big_quiet_on
        repeat (first | go_big_quiet_skip | (go_big_quiet_want; go_big_quiet_op; first | go_big_quiet_on | (refine ⟨_, fun _ _ => rfl, ?_⟩; go_big_quiet_on)))
        go_big_quiet_want
        go_big_quiet_op
        go_big_quiet_call ((intro hw; exact (iquot_any g q1 (nth t1 k) q2 (nth t2 k) _ (HG.out.on (HBM.out _ (HBY.out _ _ hw.out)).2.2.2) HQ1.out HQT.out HQ2.out HQS.out HNE.out).mono fun _ _ ⟨he, hb⟩ => ⟨by rw [he, HY.out], Lib.hid (hw.out.on hb)⟩))
        exact wpQuiet_nil rfl
      · refine wpAnyH_special (i := 20) (d := some 61) rfl (by kernel_rfl) rfl rfl (by kernel_rfl) fun wa hc => ⟨.slice (some ⟨wa.heap.size, 0, none⟩) 1 1, wa.alloc (.cells #[.int .i64 y] 3), some (.inl wa.heap.size), .inl (by kernel_rfl), Lib.hid (Kp.build hc.out), ?_⟩
        clear hc
        refine wpAnyH_app (i := 21) (d := some 62) (v := u8) (xs := fromTo g t1 t2 q1 q2 k) (y := y) (B := w.heap.size + 3) (N := wa.heap.size) (.tmp 41) (.tmp 61) rfl (by kernel_rfl) rfl rfl (by kernel_rfl) rfl rfl rfl fun wb hc => ⟨hc.out.2.2.1, by omega, hc.out.2.1, hc.out.2.2.2, fun v' wc o4 g4 => ⟨some (.inr v'), Lib.hid (hc.out.app o4 g4), ?_⟩⟩
        clear hc o4 g4
        refine wpAnyH_assign (i := 22) (d := some 8) _ rfl (by kernel_rfl) rfl rfl (by kernel_rfl) rfl ?_
        refine ⟨by kernel_rfl, fun w2 hw2 => ?_⟩
        simp only [Act.put, Act.eval]
        have I2 : Hid (InW (((w.alloc (.cells #[.int .i64 g, rv, mv] 26)).alloc (.cells #[s1v, .int .i64 q1, .slice (some ⟨M1, 0, none⟩) u t1c] 28)).alloc (.cells #[s2v, .int .i64 q2, .slice (some ⟨M2, 0, none⟩) u t2c] 28)) (w.heap.size + 3) w2) := Lib.hid (HBY.out _ _ hw2.out)
        have O2 : Hid (Own w2 (w.heap.size + 3) v' (fromTo g t1 t2 q1 q2 (k + 1))) := Lib.hid (by rw [HS.out, HY.out]; exact hw2.out.2.2)
        clear hw2 HK HBY HBM
        go_wp2
        go_roundw
        case rel => exact ⟨k + 1, by omega, by go_num, I2, O2⟩
        case measure => simp [intOf]; omega
    · obtain rfl : k = u := by omega
      have HUV : Hid (fromTo g t1 t2 q1 q2 t1.length = fromTo g t1 t2 q1 q2 k) := Lib.hid (by rw [HUU.out])
      go_wp2
      go_ret2
      exact ⟨_, by rw [HXF.out]; rfl, by rw [HXL.out, HUV.out]; exact own_mono ho.out (by omega), (HBX.out _ hI.out).2.2.2⟩
end Go.Proofs.YtclihkcigppgjaaDoor
