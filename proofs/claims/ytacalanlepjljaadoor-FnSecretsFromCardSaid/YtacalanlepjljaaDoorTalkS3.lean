/- spec.SecretFrom. -/
import Derived.Test.YtacalanlepjljaaDoorTalkS2
namespace Go.Proofs.YtacalanlepjljaaDoor
open Go.RowKit

/-- A later world than the one with the boxes of two talks. -/
def B2x (w : World) (s1 a1 t1 s2 a2 t2 : Int) (w' : World) : Prop := Below (w.heap.size + 2) ((w.alloc (.cells #[.int .i64 s1, .int .i64 a1, .int .i64 t1] 62)).alloc (.cells #[.int .i64 s2, .int .i64 a2, .int .i64 t2] 62)) w'
theorem B2x.cells {w w' : World} {s1 a1 t1 s2 a2 t2 : Int} (h : Hid (B2x w s1 a1 t1 s2 a2 t2 w')) :
    (w'.cell? ⟨w.heap.size, 0, none⟩ = some (.int .i64 s1) ∧ w'.cell? ⟨w.heap.size, 1, none⟩ = some (.int .i64 a1) ∧ w'.cell? ⟨w.heap.size, 2, none⟩ = some (.int .i64 t1)) ∧
    w'.cell? ⟨w.heap.size + 1, 0, none⟩ = some (.int .i64 s2) ∧ w'.cell? ⟨w.heap.size + 1, 1, none⟩ = some (.int .i64 a2) ∧ w'.cell? ⟨w.heap.size + 1, 2, none⟩ = some (.int .i64 t2) := by
  have hb := h.out
  unfold B2x at hb
  have h1 : ∀ o, w'.cell? ⟨w.heap.size, o, none⟩ = (w.alloc (.cells #[.int .i64 s1, .int .i64 a1, .int .i64 t1] 62)).cell? ⟨w.heap.size, o, none⟩ := fun o =>
    (hb.cell (p := ⟨w.heap.size, o, none⟩) (by show w.heap.size < w.heap.size + 2; omega)).trans (World.cell?_alloc_past _ _ _ (by simp))
  have h2 : ∀ o, w'.cell? ⟨w.heap.size + 1, o, none⟩ = ((w.alloc (.cells #[.int .i64 s1, .int .i64 a1, .int .i64 t1] 62)).alloc (.cells #[.int .i64 s2, .int .i64 a2, .int .i64 t2] 62)).cell? ⟨w.heap.size + 1, o, none⟩ := fun o => hb.cell (p := ⟨w.heap.size + 1, o, none⟩) (by show w.heap.size + 1 < w.heap.size + 2; omega)
  refine ⟨⟨?_, ?_, ?_⟩, ?_, ?_, ?_⟩
  · rw [h1, World.cell?_alloc_at _ _ _ _ rfl]; rfl
  · rw [h1, World.cell?_alloc_at _ _ _ _ rfl]; rfl
  · rw [h1, World.cell?_alloc_at _ _ _ _ rfl]; rfl
  · rw [h2, World.cell?_alloc_at _ _ _ _ (by simp)]; rfl
  · rw [h2, World.cell?_alloc_at _ _ _ _ (by simp)]; rfl
  · rw [h2, World.cell?_alloc_at _ _ _ _ (by simp)]; rfl
theorem B2x.on {w w1 w2 : World} {s1 a1 t1 s2 a2 t2 : Int} (h : Hid (B2x w s1 a1 t1 s2 a2 t2 w1)) (k : Below w1.heap.size w1 w2) : Hid (B2x w s1 a1 t1 s2 a2 t2 w2) :=
  Lib.hid (h.out.trans (k.mono (by have := h.out.size; simpa using this)))
theorem B2x.fin {w w1 : World} {s1 a1 t1 s2 a2 t2 : Int} (h : Hid (B2x w s1 a1 t1 s2 a2 t2 w1)) : Below w.heap.size w w1 :=
  ((below_alloc w _).trans ((Below.refl w.heap.size _).alloc (by simp) _)).trans (h.out.mono (by omega))
theorem B2x.start (w : World) (s1 a1 t1 s2 a2 t2 : Int) : Hid (B2x w s1 a1 t1 s2 a2 t2 ((w.alloc (.cells #[.int .i64 s1, .int .i64 a1, .int .i64 t1] 62)).alloc (.cells #[.int .i64 s2, .int .i64 a2, .int .i64 t2] 62))) := Lib.hid (Below.refl _ _)

def secB (g key s1 a1 t1 s2 a2 t2 : Int) : Bool := tokB g key s1 a1 t1 && tokB g key s2 a2 t2 && decide (s1 = s2) && decide (a1 ≠ a2)
theorem secB_true {g key s1 a1 t1 s2 a2 t2 : Int} : secB g key s1 a1 t1 s2 a2 t2 = true ↔ tokB g key s1 a1 t1 = true ∧ tokB g key s2 a2 t2 = true ∧ s1 = s2 ∧ a1 ≠ a2 := by unfold secB; simp [and_assoc]

theorem ssec_no (g key s1 a1 t1 s2 a2 t2 : Int) (w : World) (h : secB g key s1 a1 t1 s2 a2 t2 = false) : Calls Tryd.prog 82 #[.int .i64 g, .int .i64 key, .agg #[.int .i64 s1, .int .i64 a1, .int .i64 t1], .agg #[.int .i64 s2, .int .i64 a2, .int .i64 t2]] w fun e w' => e = .returned (.tuple #[.int .i64 (-1), .bool false]) ∧ Below w.heap.size w w' := by
  have HB0 := B2x.start w s1 a1 t1 s2 a2 t2
  have hn : ¬ (tokB g key s1 a1 t1 = true ∧ tokB g key s2 a2 t2 = true ∧ s1 = s2 ∧ a1 ≠ a2) := fun k => by rw [secB_true.2 k] at h; cases h
  clear h
  cases h1 : tokB g key s1 a1 t1
  · clear hn
    go_enter Tryd.func82, Tryd.ntmps82
    go_wp2_with fail
    refine (stok_any _ _ _ _ _ _).mono ?_
    rintro e w1 ⟨rfl, hb⟩
    have HB1 := B2x.on HB0 hb
    clear hb
    go_wp2
    go_ret2
    exact ⟨rfl, B2x.fin HB1⟩
  · cases h2 : tokB g key s2 a2 t2
    · clear hn
      go_enter Tryd.func82, Tryd.ntmps82
      go_wp2_with fail
      refine (stok_any _ _ _ _ _ _).mono ?_
      rintro e w1 ⟨rfl, hb⟩
      have HB1 := B2x.on HB0 hb
      clear hb
      obtain ⟨⟨c0, c1, c2⟩, d0, d1, d2⟩ := B2x.cells HB1
      go_wp2_with fail
      refine (stok_any _ _ _ _ _ _).mono ?_
      rintro e w2 ⟨rfl, hb⟩
      have HB2 := B2x.on HB1 hb
      clear hb
      go_wp2
      go_ret2
      exact ⟨rfl, B2x.fin HB2⟩
    · by_cases h3 : s1 = s2
      · have h4 : (a1 == a2) = true := by
          by_cases h4 : a1 = a2
          · simpa using h4
          · exact absurd ⟨h1, h2, h3, h4⟩ hn
        have h3' : (s1 != s2) = false := by simpa using h3
        clear hn h3
        go_enter Tryd.func82, Tryd.ntmps82
        go_wp2_with fail
        refine (stok_any _ _ _ _ _ _).mono ?_
        rintro e w1 ⟨rfl, hb⟩
        have HB1 := B2x.on HB0 hb
        clear hb
        obtain ⟨⟨c0, c1, c2⟩, d0, d1, d2⟩ := B2x.cells HB1
        go_wp2_with fail
        refine (stok_any _ _ _ _ _ _).mono ?_
        rintro e w2 ⟨rfl, hb⟩
        have HB2 := B2x.on HB1 hb
        clear hb
        clear c0 c1 c2 d0 d1 d2
        obtain ⟨⟨c0, c1, c2⟩, d0, d1, d2⟩ := B2x.cells HB2
        go_wp2
        go_ret2
        exact ⟨rfl, B2x.fin HB2⟩
      · have h3' : (s1 != s2) = true := by simpa using h3
        clear hn h3
        go_enter Tryd.func82, Tryd.ntmps82
        go_wp2_with fail
        refine (stok_any _ _ _ _ _ _).mono ?_
        rintro e w1 ⟨rfl, hb⟩
        have HB1 := B2x.on HB0 hb
        clear hb
        obtain ⟨⟨c0, c1, c2⟩, d0, d1, d2⟩ := B2x.cells HB1
        go_wp2_with fail
        refine (stok_any _ _ _ _ _ _).mono ?_
        rintro e w2 ⟨rfl, hb⟩
        have HB2 := B2x.on HB1 hb
        clear hb
        clear c0 c1 c2 d0 d1 d2
        obtain ⟨⟨c0, c1, c2⟩, d0, d1, d2⟩ := B2x.cells HB2
        go_wp2
        go_ret2
        exact ⟨rfl, B2x.fin HB2⟩

theorem smod_bx {w w1 : World} {s1 a1 t1 s2 a2 t2 : Int} (n q : Int) (h : Hid (B2x w s1 a1 t1 s2 a2 t2 w1)) (h1 : -9999 ≤ n) (h2 : n ≤ 9999) (q1 : 1 ≤ q) (q2 : q ≤ 100) : Calls Tryd.prog 88 #[.int .i64 n, .int .i64 q] w1 fun e w' => e = .returned (.int .i64 (n % q)) ∧ Hid (B2x w s1 a1 t1 s2 a2 t2 w') :=
  (smod_any n q w1 h1 h2 q1 q2).mono fun _ _ ⟨he, hw⟩ => ⟨he, by rw [← hw]; exact h⟩
theorem sback_bx {w w1 : World} {s1 a1 t1 s2 a2 t2 : Int} (g n : Int) (h : Hid (B2x w s1 a1 t1 s2 a2 t2 w1)) : Calls Tryd.prog 100 #[.int .i64 g, .int .i64 n] w1 fun e w' => e = .returned (.int .i64 (gback g n)) ∧ Hid (B2x w s1 a1 t1 s2 a2 t2 w') :=
  (sback_any g n w1).mono fun _ _ ⟨he, hb⟩ => ⟨he, B2x.on h hb⟩

set_option maxHeartbeats 1600000 in
theorem ssec_yes (g key s1 a1 t1 s2 a2 t2 : Int) (w : World) (h : secB g key s1 a1 t1 s2 a2 t2 = true) : Calls Tryd.prog 82 #[.int .i64 g, .int .i64 key, .agg #[.int .i64 s1, .int .i64 a1, .int .i64 t1], .agg #[.int .i64 s2, .int .i64 a2, .int .i64 t2]] w fun e w' => e = .returned (.tuple #[.int .i64 (secretOf g a1 t1 a2 t2), .bool true]) ∧ Below w.heap.size w w' := by
  have HB0 := B2x.start w s1 a1 t1 s2 a2 t2
  obtain ⟨h1, h2, h3, h4⟩ := secB_true.1 h
  obtain ⟨hk, _, e1, f1, _⟩ := tok_yes.1 h1
  obtain ⟨_, _, e2, f2, _⟩ := tok_yes.1 h2
  obtain ⟨g0, g4⟩ := elB_group hk
  obtain ⟨_, x1, x2⟩ := exB_true.1 e1
  obtain ⟨_, y1, y2⟩ := exB_true.1 f1
  obtain ⟨_, u1, u2⟩ := exB_true.1 e2
  obtain ⟨_, z1, z2⟩ := exB_true.1 f2
  obtain ⟨o1, o2⟩ := ord_bd g0 g4
  have h3' : (s1 != s2) = false := by simpa using h3
  have h4' : (a1 == a2) = false := by simpa using h4
  have hz : (ord g == 0) = false := by rw [beq_eq_false_iff_ne]; omega
  have hz2 : ¬ ord g = 0 := by omega
  have m1 := Int.emod_nonneg (t1 - t2) hz2
  have m2 := Int.emod_lt_of_pos (t1 - t2) (show 0 < ord g by omega)
  obtain ⟨b1, b2⟩ : -1 ≤ gback g ((a1 - a2) % ord g) ∧ gback g ((a1 - a2) % ord g) < ord g := by
    rcases back_prod (ex_of_mod g0 g4 (a1 - a2)) with ⟨e, _⟩ | ⟨e, e', _⟩ <;> omega
  have b3 : 0 ≤ gback g ((a1 - a2) % ord g) := by
    have := (secret_key (g := g) (key := key) (say := s1) h1 (by rw [h3]; exact h2) h4).1
    rcases back_prod (ex_of_mod g0 g4 (a1 - a2)) with ⟨_, e⟩ | ⟨e, _, _⟩
    · exfalso
      have h' := Int.dvd_of_emod_eq_zero e
      obtain ⟨c, hc⟩ := h'
      by_cases c1 : 0 < c
      · have := Int.mul_le_mul_of_nonneg_left (show (1 : Int) ≤ c by omega) (show 0 ≤ ord g by omega); omega
      · by_cases c2 : c < 0
        · have := Int.mul_le_mul_of_nonneg_left (show (1 : Int) ≤ -c by omega) (show 0 ≤ ord g by omega)
          rw [Int.mul_neg] at this; omega
        · have : c = 0 := by omega
          rw [this] at hc; omega
    · exact e
  have p0 : 0 ≤ (t1 - t2) % ord g * gback g ((a1 - a2) % ord g) := Int.mul_nonneg m1 b3
  have p1 : (t1 - t2) % ord g * gback g ((a1 - a2) % ord g) ≤ 23 * 23 := Int.mul_le_mul (by omega) (by omega) (by omega) (by omega)
  clear h h3 h4
  go_enter Tryd.func82, Tryd.ntmps82
  go_wp2_with fail
  refine (stok_any _ _ _ _ _ _).mono ?_
  rintro e w1 ⟨rfl, hb⟩
  have HB1 := B2x.on HB0 hb
  clear hb
  obtain ⟨⟨c0, c1, c2⟩, d0, d1, d2⟩ := B2x.cells HB1
  go_wp2_with fail
  refine (stok_any _ _ _ _ _ _).mono ?_
  rintro e w2 ⟨rfl, hb⟩
  have HB2 := B2x.on HB1 hb
  clear hb
  clear c0 c1 c2 d0 d1 d2
  obtain ⟨⟨c0, c1, c2⟩, d0, d1, d2⟩ := B2x.cells HB2
  go_wp2_with fail
  refine (sord_any _ _).mono ?_
  rintro e w3 ⟨rfl, hb⟩
  have HB3 := B2x.on HB2 hb
  clear hb
  clear c0 c1 c2 d0 d1 d2
  go_wp2_with fail
  have HD : Hid (B2x w s1 a1 t1 s2 a2 t2 w3.drew) := Lib.hid HB3.out.drew
  refine wp_region_class (C := fun w' => Hid (B2x w s1 a1 t1 s2 a2 t2 w')) (by kernel_rfl) (by kernel_rfl) HD ?_
  have e1 : ((t1 - t2) % ord g * gback g ((a1 - a2) % ord g)).tmod (ord g) = (t1 - t2) % ord g * gback g ((a1 - a2) % ord g) % ord g := Int.tmod_eq_emod_of_nonneg p0
  repeat (first | go_big_quiet_skip | (go_big_quiet_want; go_big_quiet_op; first | go_big_quiet_on | (refine ⟨_, fun _ _ => rfl, ?_⟩; go_big_quiet_on)))
  go_big_quiet_want
  go_big_quiet_op
  refine ⟨.int .i64 t1, fun w' hw' => ?_, ?_⟩
  · have q := (B2x.cells hw').1.2.2
    simp [go_sem, q]
  go_big_quiet_on
  repeat (first | go_big_quiet_skip | (go_big_quiet_want; go_big_quiet_op; first | go_big_quiet_on | (refine ⟨_, fun _ _ => rfl, ?_⟩; go_big_quiet_on)))
  go_big_quiet_want
  go_big_quiet_op
  refine ⟨.int .i64 t2, fun w' hw' => ?_, ?_⟩
  · have q := (B2x.cells hw').2.2.2
    simp [go_sem, q]
  go_big_quiet_on
  repeat (first | go_big_quiet_skip | (go_big_quiet_want; go_big_quiet_op; first | go_big_quiet_on | (refine ⟨_, fun _ _ => rfl, ?_⟩; go_big_quiet_on)))
  go_big_quiet_want
  go_big_quiet_op
  go_big_quiet_call ((intro hw; exact smod_bx _ _ hw (by omega) (by omega) (by omega) (by omega)))
  repeat (first | go_big_quiet_skip | (go_big_quiet_want; go_big_quiet_op; first | go_big_quiet_on | (refine ⟨_, fun _ _ => rfl, ?_⟩; go_big_quiet_on)))
  go_big_quiet_want
  go_big_quiet_op
  refine ⟨.int .i64 a1, fun w' hw' => ?_, ?_⟩
  · have q := (B2x.cells hw').1.2.1
    simp [go_sem, q]
  go_big_quiet_on
  repeat (first | go_big_quiet_skip | (go_big_quiet_want; go_big_quiet_op; first | go_big_quiet_on | (refine ⟨_, fun _ _ => rfl, ?_⟩; go_big_quiet_on)))
  go_big_quiet_want
  go_big_quiet_op
  refine ⟨.int .i64 a2, fun w' hw' => ?_, ?_⟩
  · have q := (B2x.cells hw').2.2.1
    simp [go_sem, q]
  go_big_quiet_on
  repeat (first | go_big_quiet_skip | (go_big_quiet_want; go_big_quiet_op; first | go_big_quiet_on | (refine ⟨_, fun _ _ => rfl, ?_⟩; go_big_quiet_on)))
  go_big_quiet_want
  go_big_quiet_op
  go_big_quiet_call ((intro hw; exact smod_bx _ _ hw (by omega) (by omega) (by omega) (by omega)))
  repeat (first | go_big_quiet_skip | (go_big_quiet_want; go_big_quiet_op; first | go_big_quiet_on | (refine ⟨_, fun _ _ => rfl, ?_⟩; go_big_quiet_on)))
  go_big_quiet_want
  go_big_quiet_op
  go_big_quiet_call ((intro hw; exact sback_bx _ _ hw))
  repeat (first | go_big_quiet_skip | (go_big_quiet_want; go_big_quiet_op; first | go_big_quiet_on | (refine ⟨_, fun _ _ => rfl, ?_⟩; go_big_quiet_on)))
  clear e1
  refine wpQuiet_nil ?_
  intro w' hw'
  go_wp2
  go_ret2
  exact ⟨rfl, B2x.fin hw'⟩

end Go.Proofs.YtacalanlepjljaaDoor
