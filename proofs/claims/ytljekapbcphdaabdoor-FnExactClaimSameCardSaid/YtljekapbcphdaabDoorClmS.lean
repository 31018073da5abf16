/- spec: the relations of envelopes: ClaimOpen, ClaimNumber, ClaimSame. -/
import Derived.Test.YtljekapbcphdaabDoorClmI
import Derived.Test.YtljekapbcphdaabDoorEnvS
namespace Go.Proofs.YtljekapbcphdaabDoor
open Go.RowKit

theorem sopen_no (g s v : Int) (w : World) (h : ¬ (sndB g s = true ∧ elB g v = true)) : Calls Tryd.prog 15 #[.int .i64 g, .int .i64 s, .int .i64 v] w (ClmPost w 0 [] []) := by
  have I0 := Lib.hid (InB.start w [.int .i64 0, .slice none 0 0, .slice none 0 0] 26)
  cases h1 : sndB g s
  · skip
    clear h
    go_enter Tryd.func15, Tryd.ntmps15
    go_wp2_with fail
    refine (ssnd_is h1 _).mono ?_
    rintro e w1 ⟨rfl, hb⟩
    have I1 := Lib.hid (InB.of hb)
    clear hb
    have c0 := I1.out.box.cell 0
    have c1 := I1.out.box.cell 1
    have c2 := I1.out.box.cell 2
    have f0 := I1.out.box.frozen 0
    have f1 := I1.out.box.frozen 1
    have f2 := I1.out.box.frozen 2
    simp at c0 c1 c2
    go_wp2
    refine bodyPost_ret (v := .agg #[.int .i64 0, .slice none 0 0, .slice none 0 0]) ?_ rfl ?_
    · simp [results, Tryd.results15, go_sem, c0, c1, c2]
    · exact clm_none (set3 I1.out.fin).1
  · skip
    have h2 : elB g v = false := by
      cases hh : elB g v
      · rfl
      · exact absurd ⟨h1, hh⟩ h
    clear h
    go_enter Tryd.func15, Tryd.ntmps15
    go_wp2_with fail
    refine (ssnd_is h1 _).mono ?_
    rintro e w1 ⟨rfl, hb⟩
    have I1 := Lib.hid (InB.of hb)
    clear hb
    go_wp2_with fail
    refine (sel_q h2 _).mono ?_
    rintro e w2 ⟨rfl, hb⟩
    have I2 := Lib.hid (I1.out.on hb)
    clear hb
    have c0 := I2.out.box.cell 0
    have c1 := I2.out.box.cell 1
    have c2 := I2.out.box.cell 2
    have f0 := I2.out.box.frozen 0
    have f1 := I2.out.box.frozen 1
    have f2 := I2.out.box.frozen 2
    simp at c0 c1 c2
    go_wp2
    refine bodyPost_ret (v := .agg #[.int .i64 0, .slice none 0 0, .slice none 0 0]) ?_ rfl ?_
    · simp [results, Tryd.results15, go_sem, c0, c1, c2]
    · exact clm_none (set3 I2.out.fin).1

set_option maxHeartbeats 1600000 in
theorem sopen_yes (g s v : Int) (w : World) (h : sndB g s = true ∧ elB g v = true) : Calls Tryd.prog 15 #[.int .i64 g, .int .i64 s, .int .i64 v] w (ClmPost w g [[bas g, s]] [v]) := by
  have I0 := Lib.hid (InB.start w [.int .i64 0, .slice none 0 0, .slice none 0 0] 26)
  obtain ⟨h1, h2⟩ := h
  go_enter Tryd.func15, Tryd.ntmps15
  go_wp2_with fail
  refine (ssnd_is h1 _).mono ?_
  rintro e w1 ⟨rfl, hb⟩
  have I1 := Lib.hid (InB.of hb)
  clear hb
  go_wp2_with fail
  refine (sel_q h2 _).mono ?_
  rintro e w2 ⟨rfl, hb⟩
  have I2 := Lib.hid (I1.out.on hb)
  clear hb
  go_wp2_with fail
  refine (sbas_any _ _).mono ?_
  rintro e w3 ⟨rfl, hb⟩
  have I3 := Lib.hid (I2.out.on hb)
  clear hb
  have OC : Hid (OwnCl (((w3.alloc (.cells #[.int .i64 (bas g), .int .i64 s] 3)).alloc (.cells #[.slice (some ⟨w3.heap.size, 0, none⟩) 2 2] 24)).alloc (.cells #[.int .i64 v] 3)) (w.heap.size + 1) (((w3.alloc (.cells #[.int .i64 (bas g), .int .i64 s] 3)).alloc (.cells #[.slice (some ⟨w3.heap.size, 0, none⟩) 2 2] 24)).alloc (.cells #[.int .i64 v] 3)).heap.size (.slice (some ⟨w3.heap.size + 1, 0, none⟩) 1 1) (.slice (some ⟨w3.heap.size + 2, 0, none⟩) 1 1) [.slice (some ⟨w3.heap.size, 0, none⟩) 2 2] [[bas g, s]] [v]) := Lib.hid (clm_lit2 w3 _ _ _ I3.out.size)
  have BQ : Hid (Below w.heap.size w (((w3.alloc (.cells #[.int .i64 (bas g), .int .i64 s] 3)).alloc (.cells #[.slice (some ⟨w3.heap.size, 0, none⟩) 2 2] 24)).alloc (.cells #[.int .i64 v] 3))) := Lib.hid (((I3.out.fin.alloc I3.out.fin.size _).alloc (by have := I3.out.size; simp; omega) _).alloc (by have := I3.out.size; simp; omega) _)
  have hsz := I3.out.size
  have c0 : (((w3.alloc (.cells #[.int .i64 (bas g), .int .i64 s] 3)).alloc (.cells #[.slice (some ⟨w3.heap.size, 0, none⟩) 2 2] 24)).alloc (.cells #[.int .i64 v] 3)).cell? ⟨w.heap.size, 0, none⟩ = some (.int .i64 0) := by rw [World.cell?_alloc_past _ _ _ (by simp; omega), World.cell?_alloc_past _ _ _ (by simp; omega), World.cell?_alloc_past _ _ _ (by omega)]; exact I3.out.box.cell 0
  have c1 : (((w3.alloc (.cells #[.int .i64 (bas g), .int .i64 s] 3)).alloc (.cells #[.slice (some ⟨w3.heap.size, 0, none⟩) 2 2] 24)).alloc (.cells #[.int .i64 v] 3)).cell? ⟨w.heap.size, 1, none⟩ = some (.slice none 0 0) := by rw [World.cell?_alloc_past _ _ _ (by simp; omega), World.cell?_alloc_past _ _ _ (by simp; omega), World.cell?_alloc_past _ _ _ (by omega)]; exact I3.out.box.cell 1
  have c2 : (((w3.alloc (.cells #[.int .i64 (bas g), .int .i64 s] 3)).alloc (.cells #[.slice (some ⟨w3.heap.size, 0, none⟩) 2 2] 24)).alloc (.cells #[.int .i64 v] 3)).cell? ⟨w.heap.size, 2, none⟩ = some (.slice none 0 0) := by rw [World.cell?_alloc_past _ _ _ (by simp; omega), World.cell?_alloc_past _ _ _ (by simp; omega), World.cell?_alloc_past _ _ _ (by omega)]; exact I3.out.box.cell 2
  have bq : Box (((w3.alloc (.cells #[.int .i64 (bas g), .int .i64 s] 3)).alloc (.cells #[.slice (some ⟨w3.heap.size, 0, none⟩) 2 2] 24)).alloc (.cells #[.int .i64 v] 3)) w.heap.size [.int .i64 0, .slice none 0 0, .slice none 0 0] := ((I3.out.box.alloc _).alloc _).alloc _
  have f0 := bq.frozen 0
  have f1 := bq.frozen 1
  have f2 := bq.frozen 2
  clear bq
  skip
  go_wp2
  refine bodyPost_ret (v := .agg #[.int .i64 g, .slice (some ⟨w3.heap.size + 1, 0, none⟩) 1 1, .slice (some ⟨w3.heap.size + 2, 0, none⟩) 1 1]) ?_ rfl ?_
  · simp [results, Tryd.results15, go_sem, c0, c1, c2]
  · exact clm_set BQ.out OC.out

theorem snum_no (g s v n : Int) (w : World) (h : ¬ (sndB g s = true ∧ elB g v = true ∧ exB g n = true)) : Calls Tryd.prog 20 #[.int .i64 g, .int .i64 s, .int .i64 v, .int .i64 n] w (ClmPost w 0 [] []) := by
  have I0 := Lib.hid (InB.start w [.int .i64 0, .slice none 0 0, .slice none 0 0] 26)
  cases h1 : sndB g s
  · skip
    clear h
    go_enter Tryd.func20, Tryd.ntmps20
    go_wp2_with fail
    refine (ssnd_is h1 _).mono ?_
    rintro e w1 ⟨rfl, hb⟩
    have I1 := Lib.hid (InB.of hb)
    clear hb
    have c0 := I1.out.box.cell 0
    have c1 := I1.out.box.cell 1
    have c2 := I1.out.box.cell 2
    have f0 := I1.out.box.frozen 0
    have f1 := I1.out.box.frozen 1
    have f2 := I1.out.box.frozen 2
    simp at c0 c1 c2
    go_wp2
    refine bodyPost_ret (v := .agg #[.int .i64 0, .slice none 0 0, .slice none 0 0]) ?_ rfl ?_
    · simp [results, Tryd.results20, go_sem, c0, c1, c2]
    · exact clm_none (set3 I1.out.fin).1
  · skip
    cases h2 : elB g v
    · skip
      clear h
      go_enter Tryd.func20, Tryd.ntmps20
      go_wp2_with fail
      refine (ssnd_is h1 _).mono ?_
      rintro e w1 ⟨rfl, hb⟩
      have I1 := Lib.hid (InB.of hb)
      clear hb
      go_wp2_with fail
      refine (sel_q h2 _).mono ?_
      rintro e w2 ⟨rfl, hb⟩
      have I2 := Lib.hid (I1.out.on hb)
      clear hb
      have c0 := I2.out.box.cell 0
      have c1 := I2.out.box.cell 1
      have c2 := I2.out.box.cell 2
      have f0 := I2.out.box.frozen 0
      have f1 := I2.out.box.frozen 1
      have f2 := I2.out.box.frozen 2
      simp at c0 c1 c2
      go_wp2
      refine bodyPost_ret (v := .agg #[.int .i64 0, .slice none 0 0, .slice none 0 0]) ?_ rfl ?_
      · simp [results, Tryd.results20, go_sem, c0, c1, c2]
      · exact clm_none (set3 I2.out.fin).1
    · skip
      have h3 : exB g n = false := by
        cases hh : exB g n
        · rfl
        · exact absurd ⟨h1, h2, hh⟩ h
      clear h
      go_enter Tryd.func20, Tryd.ntmps20
      go_wp2_with fail
      refine (ssnd_is h1 _).mono ?_
      rintro e w1 ⟨rfl, hb⟩
      have I1 := Lib.hid (InB.of hb)
      clear hb
      go_wp2_with fail
      refine (sel_q h2 _).mono ?_
      rintro e w2 ⟨rfl, hb⟩
      have I2 := Lib.hid (I1.out.on hb)
      clear hb
      go_wp2_with fail
      refine (sex_q h3 _).mono ?_
      rintro e w3 ⟨rfl, hb⟩
      have I3 := Lib.hid (I2.out.on hb)
      clear hb
      have c0 := I3.out.box.cell 0
      have c1 := I3.out.box.cell 1
      have c2 := I3.out.box.cell 2
      have f0 := I3.out.box.frozen 0
      have f1 := I3.out.box.frozen 1
      have f2 := I3.out.box.frozen 2
      simp at c0 c1 c2
      go_wp2
      refine bodyPost_ret (v := .agg #[.int .i64 0, .slice none 0 0, .slice none 0 0]) ?_ rfl ?_
      · simp [results, Tryd.results20, go_sem, c0, c1, c2]
      · exact clm_none (set3 I3.out.fin).1

set_option maxHeartbeats 1600000 in
theorem snum_yes (g s v n : Int) (w : World) (h : sndB g s = true ∧ elB g v = true ∧ exB g n = true) : Calls Tryd.prog 20 #[.int .i64 g, .int .i64 s, .int .i64 v, .int .i64 n] w (ClmPost w g [[s]] [numM g v n]) := by
  have I0 := Lib.hid (InB.start w [.int .i64 0, .slice none 0 0, .slice none 0 0] 26)
  obtain ⟨h1, h2, h3⟩ := h
  obtain ⟨⟨g0, g4⟩, n0, n1⟩ := exB_true.1 h3
  obtain ⟨p1, p2⟩ := prm_bd g0 g4
  obtain ⟨o1, o2⟩ := ord_bd g0 g4
  obtain ⟨b1, b2⟩ := bas_bd g0 g4
  obtain ⟨v0, v1, v2⟩ := elB_bound h2
  have P1 := pw_bound (prm g) (bas g) (by omega) ((-n) % ord g).toNat
  obtain ⟨m, hm⟩ : ∃ m, numM g v n = m := ⟨_, rfl⟩
  have HT := Lib.hid (show ∀ w' : World, Calls Tryd.prog 59 #[.int .i64 g, .int .i64 v, .int .i64 (pw (prm g) (bas g) ((-n) % ord g).toNat)] w' fun e w'' => e = .returned (.int .i64 (numM g v n)) ∧ Below w'.heap.size w' w'' from fun w' => stms_any g v _ w' g0 g4 (by omega) (by omega) (by omega) (by omega))
  rw [hm] at HT ⊢
  have n2 : n ≤ 22 := by omega
  clear hm n1 o1
  go_enter Tryd.func20, Tryd.ntmps20
  go_wp2_with fail
  refine (ssnd_is h1 _).mono ?_
  rintro e w1 ⟨rfl, hb⟩
  have I1 := Lib.hid (InB.of hb)
  clear hb
  go_wp2_with fail
  refine (sel_q h2 _).mono ?_
  rintro e w2 ⟨rfl, hb⟩
  have I2 := Lib.hid (I1.out.on hb)
  clear hb
  go_wp2_with fail
  refine (sex_q h3 _).mono ?_
  rintro e w3 ⟨rfl, hb⟩
  have I3 := Lib.hid (I2.out.on hb)
  clear hb
  have OX : Hid (OwnSS ((w3.alloc (.cells #[.int .i64 s] 3)).alloc (.cells #[.slice (some ⟨w3.heap.size, 0, none⟩) 1 1] 24)) (w.heap.size + 1) (w3.heap.size + 1 + 1) (.slice (some ⟨w3.heap.size + 1, 0, none⟩) 1 1) [.slice (some ⟨w3.heap.size, 0, none⟩) 1 1] [[s]]) := Lib.hid (by
    have := (ownSS_lit1 _ (own_lit1 w3 s) (by simp)).lower I3.out.size
    simpa only [World.size_alloc] using this)
  have IX : Hid (InB w [.int .i64 0, .slice none 0 0, .slice none 0 0] 26 ((w3.alloc (.cells #[.int .i64 s] 3)).alloc (.cells #[.slice (some ⟨w3.heap.size, 0, none⟩) 1 1] 24))) := Lib.hid (I3.out.on ((below_grow w3 _).trans ((below_grow _ _).mono (by simp))))
  go_wp2_with fail
  refine (sbas_any _ _).mono ?_
  rintro e w4 ⟨rfl, hb⟩
  have I4 := Lib.hid (IX.out.on hb)
  have O4 := Lib.hid (OX.out.on hb)
  have Z4 : w3.heap.size + 1 + 1 ≤ w4.heap.size := by have := hb.size; simpa using this
  clear hb OX IX
  go_wp2_with fail
  refine (spow_any _ _ _ _ g0 g4 (by omega) (by omega) (by omega) (by omega)).mono ?_
  rintro e w5 ⟨rfl, hb⟩
  have I5 := Lib.hid (I4.out.on hb)
  have O5 := Lib.hid (O4.out.on hb)
  have Z5 : w3.heap.size + 1 + 1 ≤ w5.heap.size := Nat.le_trans Z4 hb.size
  clear hb 
  go_wp2_with fail
  refine (HT.out _).mono ?_
  rintro e w6 ⟨rfl, hb⟩
  have I6 := Lib.hid (I5.out.on hb)
  have O6 := Lib.hid (O5.out.on hb)
  have Z6 : w3.heap.size + 1 + 1 ≤ w6.heap.size := Nat.le_trans Z5 hb.size
  clear hb 
  have OC : Hid (OwnCl (w6.alloc (.cells #[.int .i64 m] 3)) (w.heap.size + 1) (w6.alloc (.cells #[.int .i64 m] 3)).heap.size (.slice (some ⟨w3.heap.size + 1, 0, none⟩) 1 1) (.slice (some ⟨w6.heap.size, 0, none⟩) 1 1) [.slice (some ⟨w3.heap.size, 0, none⟩) 1 1] [[s]] [m]) :=
    Lib.hid ⟨⟨w3.heap.size + 1 + 1, by have := I3.out.size; omega, by simp; omega, O6.out.on (below_grow _ _), own_mono (own_lit1 w6 _) Z6⟩, fun k hk => ((own_lit1 w6 _).lt k hk).2⟩
  have BQ : Hid (Below w.heap.size w (w6.alloc (.cells #[.int .i64 m] 3))) := Lib.hid (I6.out.fin.alloc I6.out.fin.size _)
  have hsz := I6.out.size
  have bq : Box (w6.alloc (.cells #[.int .i64 m] 3)) w.heap.size [.int .i64 0, .slice none 0 0, .slice none 0 0] := I6.out.box.alloc _
  have c0 := bq.cell 0
  have c1 := bq.cell 1
  have c2 := bq.cell 2
  have f0 := bq.frozen 0
  have f1 := bq.frozen 1
  have f2 := bq.frozen 2
  simp at c0 c1 c2
  clear bq
  go_wp2
  refine bodyPost_ret (v := .agg #[.int .i64 g, .slice (some ⟨w3.heap.size + 1, 0, none⟩) 1 1, .slice (some ⟨w6.heap.size, 0, none⟩) 1 1]) ?_ rfl ?_
  · simp [results, Tryd.results20, go_sem, c0, c1, c2]
  · exact clm_set BQ.out OC.out

theorem ssam_no (g s a b : Int) (w : World) (h : ¬ (sndB g s = true ∧ elB g a = true ∧ elB g b = true)) : Calls Tryd.prog 22 #[.int .i64 g, .int .i64 s, .int .i64 a, .int .i64 b] w (ClmPost w 0 [] []) := by
  have I0 := Lib.hid (InB.start w [.int .i64 0, .slice none 0 0, .slice none 0 0] 26)
  cases h1 : sndB g s
  · skip
    clear h
    go_enter Tryd.func22, Tryd.ntmps22
    go_wp2_with fail
    refine (ssnd_is h1 _).mono ?_
    rintro e w1 ⟨rfl, hb⟩
    have I1 := Lib.hid (InB.of hb)
    clear hb
    have c0 := I1.out.box.cell 0
    have c1 := I1.out.box.cell 1
    have c2 := I1.out.box.cell 2
    have f0 := I1.out.box.frozen 0
    have f1 := I1.out.box.frozen 1
    have f2 := I1.out.box.frozen 2
    simp at c0 c1 c2
    go_wp2
    refine bodyPost_ret (v := .agg #[.int .i64 0, .slice none 0 0, .slice none 0 0]) ?_ rfl ?_
    · simp [results, Tryd.results22, go_sem, c0, c1, c2]
    · exact clm_none (set3 I1.out.fin).1
  · skip
    cases h2 : elB g a
    · skip
      clear h
      go_enter Tryd.func22, Tryd.ntmps22
      go_wp2_with fail
      refine (ssnd_is h1 _).mono ?_
      rintro e w1 ⟨rfl, hb⟩
      have I1 := Lib.hid (InB.of hb)
      clear hb
      go_wp2_with fail
      refine (sel_q h2 _).mono ?_
      rintro e w2 ⟨rfl, hb⟩
      have I2 := Lib.hid (I1.out.on hb)
      clear hb
      have c0 := I2.out.box.cell 0
      have c1 := I2.out.box.cell 1
      have c2 := I2.out.box.cell 2
      have f0 := I2.out.box.frozen 0
      have f1 := I2.out.box.frozen 1
      have f2 := I2.out.box.frozen 2
      simp at c0 c1 c2
      go_wp2
      refine bodyPost_ret (v := .agg #[.int .i64 0, .slice none 0 0, .slice none 0 0]) ?_ rfl ?_
      · simp [results, Tryd.results22, go_sem, c0, c1, c2]
      · exact clm_none (set3 I2.out.fin).1
    · skip
      have h3 : elB g b = false := by
        cases hh : elB g b
        · rfl
        · exact absurd ⟨h1, h2, hh⟩ h
      clear h
      go_enter Tryd.func22, Tryd.ntmps22
      go_wp2_with fail
      refine (ssnd_is h1 _).mono ?_
      rintro e w1 ⟨rfl, hb⟩
      have I1 := Lib.hid (InB.of hb)
      clear hb
      go_wp2_with fail
      refine (sel_q h2 _).mono ?_
      rintro e w2 ⟨rfl, hb⟩
      have I2 := Lib.hid (I1.out.on hb)
      clear hb
      go_wp2_with fail
      refine (sel_q h3 _).mono ?_
      rintro e w3 ⟨rfl, hb⟩
      have I3 := Lib.hid (I2.out.on hb)
      clear hb
      have c0 := I3.out.box.cell 0
      have c1 := I3.out.box.cell 1
      have c2 := I3.out.box.cell 2
      have f0 := I3.out.box.frozen 0
      have f1 := I3.out.box.frozen 1
      have f2 := I3.out.box.frozen 2
      simp at c0 c1 c2
      go_wp2
      refine bodyPost_ret (v := .agg #[.int .i64 0, .slice none 0 0, .slice none 0 0]) ?_ rfl ?_
      · simp [results, Tryd.results22, go_sem, c0, c1, c2]
      · exact clm_none (set3 I3.out.fin).1

set_option maxHeartbeats 1600000 in
theorem ssam_yes (g s a b : Int) (w : World) (h : sndB g s = true ∧ elB g a = true ∧ elB g b = true) : Calls Tryd.prog 22 #[.int .i64 g, .int .i64 s, .int .i64 a, .int .i64 b] w (ClmPost w g [[s]] [sameM g a b]) := by
  have I0 := Lib.hid (InB.start w [.int .i64 0, .slice none 0 0, .slice none 0 0] 26)
  obtain ⟨h1, h2, h3⟩ := h
  obtain ⟨g0, g4⟩ := elB_group h2
  obtain ⟨p1, p2⟩ := prm_bd g0 g4
  obtain ⟨o1, o2⟩ := ord_bd g0 g4
  obtain ⟨a0, a1, a2⟩ := elB_bound h2
  obtain ⟨b0, b1, b2⟩ := elB_bound h3
  have P1 := pw_bound (prm g) b (by omega) ((-1) % ord g).toNat
  obtain ⟨m, hm⟩ : ∃ m, sameM g a b = m := ⟨_, rfl⟩
  have HT := Lib.hid (show ∀ w' : World, Calls Tryd.prog 59 #[.int .i64 g, .int .i64 a, .int .i64 (pw (prm g) b ((-1) % ord g).toNat)] w' fun e w'' => e = .returned (.int .i64 (sameM g a b)) ∧ Below w'.heap.size w' w'' from fun w' => stms_any g a _ w' g0 g4 (by omega) (by omega) (by omega) (by omega))
  rw [hm] at HT ⊢
  clear hm
  go_enter Tryd.func22, Tryd.ntmps22
  go_wp2_with fail
  refine (ssnd_is h1 _).mono ?_
  rintro e w1 ⟨rfl, hb⟩
  have I1 := Lib.hid (InB.of hb)
  clear hb
  go_wp2_with fail
  refine (sel_q h2 _).mono ?_
  rintro e w2 ⟨rfl, hb⟩
  have I2 := Lib.hid (I1.out.on hb)
  clear hb
  go_wp2_with fail
  refine (sel_q h3 _).mono ?_
  rintro e w3 ⟨rfl, hb⟩
  have I3 := Lib.hid (I2.out.on hb)
  clear hb
  have OX : Hid (OwnSS ((w3.alloc (.cells #[.int .i64 s] 3)).alloc (.cells #[.slice (some ⟨w3.heap.size, 0, none⟩) 1 1] 24)) (w.heap.size + 1) (w3.heap.size + 1 + 1) (.slice (some ⟨w3.heap.size + 1, 0, none⟩) 1 1) [.slice (some ⟨w3.heap.size, 0, none⟩) 1 1] [[s]]) := Lib.hid (by
    have := (ownSS_lit1 _ (own_lit1 w3 s) (by simp)).lower I3.out.size
    simpa only [World.size_alloc] using this)
  have IX : Hid (InB w [.int .i64 0, .slice none 0 0, .slice none 0 0] 26 ((w3.alloc (.cells #[.int .i64 s] 3)).alloc (.cells #[.slice (some ⟨w3.heap.size, 0, none⟩) 1 1] 24))) := Lib.hid (I3.out.on ((below_grow w3 _).trans ((below_grow _ _).mono (by simp))))
  go_wp2_with fail
  refine (spow_any _ _ _ _ g0 g4 (by omega) (by omega) (by omega) (by omega)).mono ?_
  rintro e w4 ⟨rfl, hb⟩
  have I4 := Lib.hid (IX.out.on hb)
  have O4 := Lib.hid (OX.out.on hb)
  have Z4 : w3.heap.size + 1 + 1 ≤ w4.heap.size := by have := hb.size; simpa using this
  clear hb OX IX
  go_wp2_with fail
  refine (HT.out _).mono ?_
  rintro e w5 ⟨rfl, hb⟩
  have I5 := Lib.hid (I4.out.on hb)
  have O5 := Lib.hid (O4.out.on hb)
  have Z5 : w3.heap.size + 1 + 1 ≤ w5.heap.size := Nat.le_trans Z4 hb.size
  clear hb 
  have OC : Hid (OwnCl (w5.alloc (.cells #[.int .i64 m] 3)) (w.heap.size + 1) (w5.alloc (.cells #[.int .i64 m] 3)).heap.size (.slice (some ⟨w3.heap.size + 1, 0, none⟩) 1 1) (.slice (some ⟨w5.heap.size, 0, none⟩) 1 1) [.slice (some ⟨w3.heap.size, 0, none⟩) 1 1] [[s]] [m]) :=
    Lib.hid ⟨⟨w3.heap.size + 1 + 1, by have := I3.out.size; omega, by simp; omega, O5.out.on (below_grow _ _), own_mono (own_lit1 w5 _) Z5⟩, fun k hk => ((own_lit1 w5 _).lt k hk).2⟩
  have BQ : Hid (Below w.heap.size w (w5.alloc (.cells #[.int .i64 m] 3))) := Lib.hid (I5.out.fin.alloc I5.out.fin.size _)
  have hsz := I5.out.size
  have bq : Box (w5.alloc (.cells #[.int .i64 m] 3)) w.heap.size [.int .i64 0, .slice none 0 0, .slice none 0 0] := I5.out.box.alloc _
  have c0 := bq.cell 0
  have c1 := bq.cell 1
  have c2 := bq.cell 2
  have f0 := bq.frozen 0
  have f1 := bq.frozen 1
  have f2 := bq.frozen 2
  simp at c0 c1 c2
  clear bq
  go_wp2
  refine bodyPost_ret (v := .agg #[.int .i64 g, .slice (some ⟨w3.heap.size + 1, 0, none⟩) 1 1, .slice (some ⟨w5.heap.size, 0, none⟩) 1 1]) ?_ rfl ?_
  · simp [results, Tryd.results22, go_sem, c0, c1, c2]
  · exact clm_set BQ.out OC.out


end Go.Proofs.YtljekapbcphdaabDoor
