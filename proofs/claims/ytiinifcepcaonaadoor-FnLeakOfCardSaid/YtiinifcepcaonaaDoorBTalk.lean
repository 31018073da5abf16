/- TalkS, TalkS2, TalkS3, TalkEq, in one text. -/
import Derived.Test.YtiinifcepcaonaaDoorBWalk
import Derived.Test.YtiinifcepcaonaaDoorBPure
import Derived.Deep.RegionHeld3
import Derived.Laws.ResultCell
import Derived.Outline
import Derived.Laws.StructEq
/- Contracts of spec's chapter 2: keys and talks. -/
namespace Go.Proofs.YtiinifcepcaonaaDoor
open Go.RowKit

def l2B (g s a t : Int) : Bool := elB g s && exB g a && exB g t
theorem l2B_true {g s a t : Int} : l2B g s a t = true ↔ elB g s = true ∧ exB g a = true ∧ exB g t = true := by unfold l2B; simp [and_assoc]

/-- A box of three cells, in a later world. -/
theorem box3 {w wk : World} {x y z : Value} {T : TypeId} (hb : Below (w.heap.size + 1) (w.alloc (.cells #[x, y, z] T)) wk) :
    (wk.cell? ⟨w.heap.size, 0, none⟩ = some x ∧ wk.cell? ⟨w.heap.size, 1, none⟩ = some y ∧ wk.cell? ⟨w.heap.size, 2, none⟩ = some z) ∧ wk.frozen? ⟨w.heap.size, 0, none⟩ = false ∧ wk.frozen? ⟨w.heap.size, 1, none⟩ = false ∧ wk.frozen? ⟨w.heap.size, 2, none⟩ = false ∧ w.heap.size < wk.heap.size := by
  have hc : ∀ o, wk.cell? ⟨w.heap.size, o, none⟩ = (w.alloc (.cells #[x, y, z] T)).cell? ⟨w.heap.size, o, none⟩ := fun o => hb.cell (p := ⟨w.heap.size, o, none⟩) (Nat.lt_succ_self _)
  have hf : ∀ o, wk.frozen? ⟨w.heap.size, o, none⟩ = (w.alloc (.cells #[x, y, z] T)).frozen? ⟨w.heap.size, o, none⟩ := fun o => hb.frozen (p := ⟨w.heap.size, o, none⟩) (Nat.lt_succ_self _)
  have hs := hb.size
  refine ⟨⟨?_, ?_, ?_⟩, ?_, ?_, ?_, by simp at hs; omega⟩
  · rw [hc, World.cell?_alloc_at _ _ _ _ rfl]; rfl
  · rw [hc, World.cell?_alloc_at _ _ _ _ rfl]; rfl
  · rw [hc, World.cell?_alloc_at _ _ _ _ rfl]; rfl
  · rw [hf, World.frozen?_alloc_at _ _ _ _ rfl]
  · rw [hf, World.frozen?_alloc_at _ _ _ _ rfl]
  · rw [hf, World.frozen?_alloc_at _ _ _ _ rfl]
theorem below_alloc (w : World) (o : Obj) : Below w.heap.size w (w.alloc o) := (Below.refl _ _).alloc (Nat.le_refl _) _
theorem box_on {w w1 w2 : World} {o : Obj} (h : Below (w.heap.size + 1) (w.alloc o) w1) (k : Below w1.heap.size w1 w2) : Below (w.heap.size + 1) (w.alloc o) w2 := h.trans (k.mono (by have := h.size; simpa using this))
theorem box_end {w w1 : World} {o : Obj} (h : Below (w.heap.size + 1) (w.alloc o) w1) : Below w.heap.size w w1 := (below_alloc w o).trans (h.mono (Nat.le_succ _))

theorem sl2_any (g s a t : Int) (w : World) : Calls Tryd.prog 75 #[.int .i64 g, .agg #[.int .i64 s, .int .i64 a, .int .i64 t]] w fun e w' => e = .returned (.bool (l2B g s a t)) ∧ Below w.heap.size w w' := by
  have HB := Lib.hid (Below.refl (w.heap.size + 1) (w.alloc (.cells #[.int .i64 s, .int .i64 a, .int .i64 t] 45)))
  cases hs : elB g s
  · have HX := Lib.hid (show l2B g s a t = false by unfold l2B; rw [hs]; rfl)
    go_enter Tryd.func75, Tryd.ntmps75
    go_wp2_with fail
    refine (sel_any _ _ _).mono ?_
    rintro e w1 ⟨rfl, hb⟩
    have HB1 := Lib.hid (box_on HB.out hb)
    go_wp2
    go_ret
    exact ⟨by rw [HX.out]; rfl, box_end HB1.out⟩
  · cases ha : exB g a
    · have HX := Lib.hid (show l2B g s a t = false by unfold l2B; rw [hs, ha]; rfl)
      go_enter Tryd.func75, Tryd.ntmps75
      go_wp2_with fail
      refine (sel_any _ _ _).mono ?_
      rintro e w1 ⟨rfl, hb⟩
      have HB1 := Lib.hid (box_on HB.out hb)
      obtain ⟨⟨c0, c1, c2⟩, _⟩ := box3 HB1.out
      clear hb
      go_wp2_with fail
      refine (sex_any _ _ _).mono ?_
      rintro e w2 ⟨rfl, hb⟩
      have HB2 := Lib.hid (box_on HB1.out hb)
      clear hb
      go_wp2
      go_ret
      exact ⟨by rw [HX.out]; rfl, box_end HB2.out⟩
    · have HX := Lib.hid (show l2B g s a t = exB g t by unfold l2B; rw [hs, ha]; rfl)
      go_enter Tryd.func75, Tryd.ntmps75
      go_wp2_with fail
      refine (sel_any _ _ _).mono ?_
      rintro e w1 ⟨rfl, hb⟩
      have HB1 := Lib.hid (box_on HB.out hb)
      obtain ⟨⟨c0, c1, c2⟩, _⟩ := box3 HB1.out
      clear hb
      go_wp2_with fail
      refine (sex_any _ _ _).mono ?_
      rintro e w2 ⟨rfl, hb⟩
      have HB2 := Lib.hid (box_on HB1.out hb)
      clear hb c0 c1 c2
      obtain ⟨⟨c0, c1, c2⟩, _⟩ := box3 HB2.out
      go_wp2_with fail
      refine (sex_any _ _ _).mono ?_
      rintro e w3 ⟨rfl, hb⟩
      have HB3 := Lib.hid (box_on HB2.out hb)
      clear hb
      go_wp2
      go_ret
      exact ⟨by rw [HX.out]; rfl, box_end HB3.out⟩

theorem stalk_yes (g secret further ask : Int) (w : World) (h1 : exB g secret = true) (h2 : exB g further = true) (h3 : exB g ask = true) :
    Calls Tryd.prog 87 #[.int .i64 g, .int .i64 secret, .int .i64 further, .int .i64 ask] w fun e w' => e = .returned (.tuple #[.agg #[.int .i64 (gp g (bas g) further), .int .i64 ask, .int .i64 (tellOf g secret further ask)], .bool true]) ∧ Below w.heap.size w w' := by
  have HB := Lib.hid (Below.refl (w.heap.size + 1) (w.alloc (.cells #[.int .i64 0, .int .i64 0, .int .i64 0] 45)))
  obtain ⟨⟨g0, g4⟩, s0, s1⟩ := exB_true.1 h1
  obtain ⟨_, f0, f1⟩ := exB_true.1 h2
  obtain ⟨_, a0, a1⟩ := exB_true.1 h3
  obtain ⟨o1, o2⟩ := ord_bd g0 g4
  obtain ⟨b1, b2⟩ := bas_bd g0 g4
  have p0 : 0 ≤ ask * secret := Int.mul_nonneg (by omega) (by omega)
  have p1 : ask * secret ≤ 23 * 23 := Int.mul_le_mul (by omega) (by omega) (by omega) (by omega)
  have hz : (ord g == 0) = false := by rw [beq_eq_false_iff_ne]; omega
  go_enter Tryd.func87, Tryd.ntmps87
  go_wp2_with fail
  refine (sex_any _ _ _).mono ?_
  rintro e w1 ⟨rfl, hb⟩
  have HB1 := Lib.hid (box_on HB.out hb); clear hb
  go_wp2_with fail
  refine (sex_any _ _ _).mono ?_
  rintro e w2 ⟨rfl, hb⟩
  have HB2 := Lib.hid (box_on HB1.out hb); clear hb
  go_wp2_with fail
  refine (sex_any _ _ _).mono ?_
  rintro e w3 ⟨rfl, hb⟩
  have HB3 := Lib.hid (box_on HB2.out hb); clear hb
  go_wp2_with fail
  refine (sbas_any _ _).mono ?_
  rintro e w4 ⟨rfl, hb⟩
  have HB4 := Lib.hid (box_on HB3.out hb); clear hb
  go_wp2_with fail
  refine (spow_any _ _ _ _ g0 g4 (by omega) (by omega) (by omega) (by omega)).mono ?_
  rintro e w5 ⟨rfl, hb⟩
  have HB5 := Lib.hid (box_on HB4.out hb); clear hb
  go_wp2_with fail
  refine (sord_any _ _).mono ?_
  rintro e w6 ⟨rfl, hb⟩
  have HB6 := Lib.hid (box_on HB5.out hb); clear hb
  obtain ⟨⟨c0, c1, c2⟩, k0, k1, k2, hz6⟩ := box3 HB6.out
  go_wp2
  refine bodyPost_ret (v := .tuple #[.agg #[.int .i64 (gp g (bas g) further), .int .i64 ask, .int .i64 (tellOf g secret further ask)], .bool true]) ?_ rfl ⟨rfl, ?_⟩
  · simp [results, Tryd.results87, go_sem, c0, c1, c2, tellOf, gp]
  · exact (((box_end HB6.out).setCell (Nat.le_refl _) _).setCell (Nat.le_refl _) _).setCell (Nat.le_refl _) _

theorem stalk_no (g secret further ask : Int) (w : World) (h : ¬ (exB g secret = true ∧ exB g further = true ∧ exB g ask = true)) :
    Calls Tryd.prog 87 #[.int .i64 g, .int .i64 secret, .int .i64 further, .int .i64 ask] w fun e w' => e = .returned (.tuple #[.agg #[.int .i64 0, .int .i64 0, .int .i64 0], .bool false]) ∧ Below w.heap.size w w' := by
  have HB0 := Lib.hid (Below.refl (w.heap.size + 1) (w.alloc (.cells #[.int .i64 0, .int .i64 0, .int .i64 0] 45)))
  cases h1 : exB g secret
  · clear h
    go_enter Tryd.func87, Tryd.ntmps87
    go_wp2_with fail
    refine (sex_any _ _ _).mono ?_
    rintro e w1 ⟨rfl, hb⟩
    have HB1 := Lib.hid (box_on HB0.out hb); clear hb
    obtain ⟨⟨c0, c1, c2⟩, k0, k1, k2, hz6⟩ := box3 HB1.out
    go_wp2
    refine bodyPost_ret (v := .tuple #[.agg #[.int .i64 0, .int .i64 0, .int .i64 0], .bool false]) ?_ rfl ⟨rfl, ?_⟩
    · simp [results, Tryd.results87, go_sem, c0, c1, c2]
    · first | exact (((box_end HB1.out).setCell (Nat.le_refl _) _).setCell (Nat.le_refl _) _).setCell (Nat.le_refl _) _ | exact box_end HB1.out
  · cases h2 : exB g further
    · clear h
      go_enter Tryd.func87, Tryd.ntmps87
      go_wp2_with fail
      refine (sex_any _ _ _).mono ?_
      rintro e w1 ⟨rfl, hb⟩
      have HB1 := Lib.hid (box_on HB0.out hb); clear hb
      go_wp2_with fail
      refine (sex_any _ _ _).mono ?_
      rintro e w2 ⟨rfl, hb⟩
      have HB2 := Lib.hid (box_on HB1.out hb); clear hb
      obtain ⟨⟨c0, c1, c2⟩, k0, k1, k2, hz6⟩ := box3 HB2.out
      go_wp2
      refine bodyPost_ret (v := .tuple #[.agg #[.int .i64 0, .int .i64 0, .int .i64 0], .bool false]) ?_ rfl ⟨rfl, ?_⟩
      · simp [results, Tryd.results87, go_sem, c0, c1, c2]
      · first | exact (((box_end HB2.out).setCell (Nat.le_refl _) _).setCell (Nat.le_refl _) _).setCell (Nat.le_refl _) _ | exact box_end HB2.out
    · have h3 : exB g ask = false := by
        cases h3 : exB g ask
        · rfl
        · exact absurd ⟨h1, h2, h3⟩ h
      clear h
      go_enter Tryd.func87, Tryd.ntmps87
      go_wp2_with fail
      refine (sex_any _ _ _).mono ?_
      rintro e w1 ⟨rfl, hb⟩
      have HB1 := Lib.hid (box_on HB0.out hb); clear hb
      go_wp2_with fail
      refine (sex_any _ _ _).mono ?_
      rintro e w2 ⟨rfl, hb⟩
      have HB2 := Lib.hid (box_on HB1.out hb); clear hb
      go_wp2_with fail
      refine (sex_any _ _ _).mono ?_
      rintro e w3 ⟨rfl, hb⟩
      have HB3 := Lib.hid (box_on HB2.out hb); clear hb
      obtain ⟨⟨c0, c1, c2⟩, k0, k1, k2, hz6⟩ := box3 HB3.out
      go_wp2
      refine bodyPost_ret (v := .tuple #[.agg #[.int .i64 0, .int .i64 0, .int .i64 0], .bool false]) ?_ rfl ⟨rfl, ?_⟩
      · simp [results, Tryd.results87, go_sem, c0, c1, c2]
      · first | exact (((box_end HB3.out).setCell (Nat.le_refl _) _).setCell (Nat.le_refl _) _).setCell (Nat.le_refl _) _ | exact box_end HB3.out

theorem smade_no (g key ask tell : Int) (w : World) (h : ¬ (elB g key = true ∧ exB g ask = true ∧ exB g tell = true)) :
    Calls Tryd.prog 86 #[.int .i64 g, .int .i64 key, .int .i64 ask, .int .i64 tell] w fun e w' => e = .returned (.tuple #[.agg #[.int .i64 0, .int .i64 0, .int .i64 0], .bool false]) ∧ Below w.heap.size w w' := by
  have HB0 := Lib.hid (Below.refl (w.heap.size + 1) (w.alloc (.cells #[.int .i64 0, .int .i64 0, .int .i64 0] 45)))
  cases h1 : elB g key
  · clear h
    go_enter Tryd.func86, Tryd.ntmps86
    go_wp2_with fail
    refine (sel_any _ _ _).mono ?_
    rintro e w1 ⟨rfl, hb⟩
    have HB1 := Lib.hid (box_on HB0.out hb); clear hb
    obtain ⟨⟨c0, c1, c2⟩, k0, k1, k2, hz6⟩ := box3 HB1.out
    go_wp2
    refine bodyPost_ret (v := .tuple #[.agg #[.int .i64 0, .int .i64 0, .int .i64 0], .bool false]) ?_ rfl ⟨rfl, ?_⟩
    · simp [results, Tryd.results86, go_sem, c0, c1, c2]
    · first | exact (((box_end HB1.out).setCell (Nat.le_refl _) _).setCell (Nat.le_refl _) _).setCell (Nat.le_refl _) _ | exact box_end HB1.out
  · cases h2 : exB g ask
    · clear h
      go_enter Tryd.func86, Tryd.ntmps86
      go_wp2_with fail
      refine (sel_any _ _ _).mono ?_
      rintro e w1 ⟨rfl, hb⟩
      have HB1 := Lib.hid (box_on HB0.out hb); clear hb
      go_wp2_with fail
      refine (sex_any _ _ _).mono ?_
      rintro e w2 ⟨rfl, hb⟩
      have HB2 := Lib.hid (box_on HB1.out hb); clear hb
      obtain ⟨⟨c0, c1, c2⟩, k0, k1, k2, hz6⟩ := box3 HB2.out
      go_wp2
      refine bodyPost_ret (v := .tuple #[.agg #[.int .i64 0, .int .i64 0, .int .i64 0], .bool false]) ?_ rfl ⟨rfl, ?_⟩
      · simp [results, Tryd.results86, go_sem, c0, c1, c2]
      · first | exact (((box_end HB2.out).setCell (Nat.le_refl _) _).setCell (Nat.le_refl _) _).setCell (Nat.le_refl _) _ | exact box_end HB2.out
    · have h3 : exB g tell = false := by
        cases h3 : exB g tell
        · rfl
        · exact absurd ⟨h1, h2, h3⟩ h
      clear h
      go_enter Tryd.func86, Tryd.ntmps86
      go_wp2_with fail
      refine (sel_any _ _ _).mono ?_
      rintro e w1 ⟨rfl, hb⟩
      have HB1 := Lib.hid (box_on HB0.out hb); clear hb
      go_wp2_with fail
      refine (sex_any _ _ _).mono ?_
      rintro e w2 ⟨rfl, hb⟩
      have HB2 := Lib.hid (box_on HB1.out hb); clear hb
      go_wp2_with fail
      refine (sex_any _ _ _).mono ?_
      rintro e w3 ⟨rfl, hb⟩
      have HB3 := Lib.hid (box_on HB2.out hb); clear hb
      obtain ⟨⟨c0, c1, c2⟩, k0, k1, k2, hz6⟩ := box3 HB3.out
      go_wp2
      refine bodyPost_ret (v := .tuple #[.agg #[.int .i64 0, .int .i64 0, .int .i64 0], .bool false]) ?_ rfl ⟨rfl, ?_⟩
      · simp [results, Tryd.results86, go_sem, c0, c1, c2]
      · first | exact (((box_end HB3.out).setCell (Nat.le_refl _) _).setCell (Nat.le_refl _) _).setCell (Nat.le_refl _) _ | exact box_end HB3.out

theorem smade_yes (g key ask tell : Int) (w : World) (h1 : elB g key = true) (h2 : exB g ask = true) (h3 : exB g tell = true) :
    Calls Tryd.prog 86 #[.int .i64 g, .int .i64 key, .int .i64 ask, .int .i64 tell] w fun e w' => e = .returned (.tuple #[.agg #[.int .i64 (sayUp g key ask tell), .int .i64 ask, .int .i64 tell], .bool true]) ∧ Below w.heap.size w w' := by
  have HB0 := Lib.hid (Below.refl (w.heap.size + 1) (w.alloc (.cells #[.int .i64 0, .int .i64 0, .int .i64 0] 45)))
  obtain ⟨g0, g4⟩ := elB_group h1
  obtain ⟨e1, _, e2⟩ := elB_bound h1
  obtain ⟨_, a0, a1⟩ := exB_true.1 h2
  obtain ⟨_, t0, t1⟩ := exB_true.1 h3
  obtain ⟨o1, o2⟩ := ord_bd g0 g4
  obtain ⟨b1, b2⟩ := bas_bd g0 g4
  obtain ⟨p1, p2⟩ := prm_bd g0 g4
  have HS := Lib.hid (show pw (prm g) (bas g) (tell % ord g).toNat * pw (prm g) key ((-ask) % ord g).toNat % prm g = sayUp g key ask tell from rfl)
  obtain ⟨r1, r2⟩ := pw_bound (prm g) (bas g) (by omega) (tell % ord g).toNat
  obtain ⟨r3, r4⟩ := pw_bound (prm g) key (by omega) ((-ask) % ord g).toNat
  go_enter Tryd.func86, Tryd.ntmps86
  go_wp2_with fail
  refine (sel_any _ _ _).mono ?_
  rintro e w1 ⟨rfl, hb⟩
  have HB1 := Lib.hid (box_on HB0.out hb); clear hb
  go_wp2_with fail
  refine (sex_any _ _ _).mono ?_
  rintro e w2 ⟨rfl, hb⟩
  have HB2 := Lib.hid (box_on HB1.out hb); clear hb
  go_wp2_with fail
  refine (sex_any _ _ _).mono ?_
  rintro e w3 ⟨rfl, hb⟩
  have HB3 := Lib.hid (box_on HB2.out hb); clear hb
  go_wp2_with fail
  refine (sbas_any _ _).mono ?_
  rintro e w4 ⟨rfl, hb⟩
  have HB4 := Lib.hid (box_on HB3.out hb); clear hb
  go_wp2_with fail
  refine (spow_any _ _ _ _ g0 g4 (by omega) (by omega) (by omega) (by omega)).mono ?_
  rintro e w5 ⟨rfl, hb⟩
  have HB5 := Lib.hid (box_on HB4.out hb); clear hb
  go_wp2_with fail
  refine (spow_any _ _ _ _ g0 g4 (by omega) (by omega) (by omega) (by omega)).mono ?_
  rintro e w6 ⟨rfl, hb⟩
  have HB6 := Lib.hid (box_on HB5.out hb); clear hb
  go_wp2_with fail
  refine (stms_any _ _ _ _ g0 g4 (by omega) (by omega) (by omega) (by omega)).mono ?_
  rintro e w7 ⟨rfl, hb⟩
  have HB7 := Lib.hid (box_on HB6.out hb); clear hb
  rw [HS.out]
  obtain ⟨⟨c0, c1, c2⟩, k0, k1, k2, hz6⟩ := box3 HB7.out
  go_wp2
  refine bodyPost_ret (v := .tuple #[.agg #[.int .i64 (sayUp g key ask tell), .int .i64 ask, .int .i64 tell], .bool true]) ?_ rfl ⟨rfl, ?_⟩
  · simp [results, Tryd.results86, go_sem, c0, c1, c2]
  · exact (((box_end HB7.out).setCell (Nat.le_refl _) _).setCell (Nat.le_refl _) _).setCell (Nat.le_refl _) _

/-- A later world than the one with the box of a talk. -/
def Bx (w : World) (s a t : Int) (w' : World) : Prop := Below (w.heap.size + 1) (w.alloc (.cells #[.int .i64 s, .int .i64 a, .int .i64 t] 45)) w'
theorem Bx.cells {w w' : World} {s a t : Int} (h : Hid (Bx w s a t w')) : w'.cell? ⟨w.heap.size, 0, none⟩ = some (.int .i64 s) ∧ w'.cell? ⟨w.heap.size, 1, none⟩ = some (.int .i64 a) ∧ w'.cell? ⟨w.heap.size, 2, none⟩ = some (.int .i64 t) := (box3 h.out).1
theorem Bx.on {w w1 w2 : World} {s a t : Int} (h : Hid (Bx w s a t w1)) (k : Below w1.heap.size w1 w2) : Hid (Bx w s a t w2) := Lib.hid (box_on h.out k)
theorem sel_bx {w w1 : World} {s a t : Int} (g x : Int) (h : Hid (Bx w s a t w1)) : Calls Tryd.prog 58 #[.int .i64 g, .int .i64 x] w1 fun e w' => e = .returned (.bool (elB g x)) ∧ Hid (Bx w s a t w') := (sel_any g x w1).mono fun _ _ ⟨he, hb⟩ => ⟨he, Bx.on h hb⟩
theorem sl2_bx {w w1 : World} {s a t : Int} (g x y z : Int) (h : Hid (Bx w s a t w1)) : Calls Tryd.prog 75 #[.int .i64 g, .agg #[.int .i64 x, .int .i64 y, .int .i64 z]] w1 fun e w' => e = .returned (.bool (l2B g x y z)) ∧ Hid (Bx w s a t w') := (sl2_any g x y z w1).mono fun _ _ ⟨he, hb⟩ => ⟨he, Bx.on h hb⟩
theorem sbas_bx {w w1 : World} {s a t : Int} (g : Int) (h : Hid (Bx w s a t w1)) : Calls Tryd.prog 77 #[.int .i64 g] w1 fun e w' => e = .returned (.int .i64 (bas g)) ∧ Hid (Bx w s a t w') := (sbas_any g w1).mono fun _ _ ⟨he, hb⟩ => ⟨he, Bx.on h hb⟩
theorem spow_bx {w w1 : World} {s a t : Int} (g x n : Int) (h : Hid (Bx w s a t w1)) (h0 : 0 ≤ g) (h4 : g < 4) (a0 : 0 ≤ x) (a1 : x ≤ 100) (n0 : -9999 ≤ n) (n1 : n ≤ 9999) : Calls Tryd.prog 76 #[.int .i64 g, .int .i64 x, .int .i64 n] w1 fun e w' => e = .returned (.int .i64 (gp g x n)) ∧ Hid (Bx w s a t w') := (spow_any g x n w1 h0 h4 a0 a1 n0 n1).mono fun _ _ ⟨he, hb⟩ => ⟨he, Bx.on h hb⟩
theorem stms_bx {w w1 : World} {s a t : Int} (g x y : Int) (h : Hid (Bx w s a t w1)) (h0 : 0 ≤ g) (h4 : g < 4) (a0 : 0 ≤ x) (a1 : x ≤ 100) (b0 : 0 ≤ y) (b1 : y ≤ 100) : Calls Tryd.prog 78 #[.int .i64 g, .int .i64 x, .int .i64 y] w1 fun e w' => e = .returned (.int .i64 (x * y % prm g)) ∧ Hid (Bx w s a t w') := (stms_any g x y w1 h0 h4 a0 a1 b0 b1).mono fun _ _ ⟨he, hb⟩ => ⟨he, Bx.on h hb⟩

end Go.Proofs.YtiinifcepcaonaaDoor

/- spec.TalkOk: a region that draws its order, with loads and calls that make memory, some of them guarded: walked once in the order of the text, at a class of worlds. -/
namespace Go.Proofs.YtiinifcepcaonaaDoor
open Go.RowKit

/-- One walk of the text serves every order, at whatever class of worlds that the region's first world is of. -/
theorem wp_region_class {P : Program} {C : World → Prop} {id : Nat} {Q : Exit → Act → World → Prop} {a : Act} {w : World} {l : List Oper} (hm : P.follows .mixedOrders = true) (hB : Region.lexB .any l.toArray = true) (hC : C w.drew)
    (h : wpQuiet P l.toArray C (fun a' => ∀ w', C w' → Q .normal a' w') l a) : (Code.region id l.toArray true).wp P Q a w :=
  wp_region_quiet (C := C) hm hB hC (by simpa using h)

set_option maxHeartbeats 1600000 in
theorem stok_any (g key s a t : Int) (w : World) : Calls Tryd.prog 59 #[.int .i64 g, .int .i64 key, .agg #[.int .i64 s, .int .i64 a, .int .i64 t]] w fun e w' => e = .returned (.bool (tokB g key s a t)) ∧ Below w.heap.size w w' := by
  have HB0 : Hid (Bx w s a t (w.alloc (.cells #[.int .i64 s, .int .i64 a, .int .i64 t] 45)).drew) := Lib.hid (Below.refl _ _).drew
  cases hk : elB g key
  · have HX := Lib.hid (show tokB g key s a t = false by unfold tokB; rw [hk]; rfl)
    go_enter Tryd.func59, Tryd.ntmps59
    go_wp2_with fail
    refine wp_region_class (C := fun w' => Hid (Bx w s a t w')) (by kernel_rfl) (by kernel_rfl) HB0 ?_
    repeat (first | go_big_quiet_skip | (go_big_quiet_want; go_big_quiet_op; first | go_big_quiet_on | (refine ⟨_, fun _ _ => rfl, ?_⟩; go_big_quiet_on)))
    go_big_quiet_want
    go_big_quiet_op
    go_big_quiet_call ((intro hw; (have c := sel_bx g key hw; rw [hk] at c; exact c)))
    repeat (first | go_big_quiet_skip | (go_big_quiet_want; go_big_quiet_op; first | go_big_quiet_on | (refine ⟨_, fun _ _ => rfl, ?_⟩; go_big_quiet_on)))
    refine wpQuiet_nil ?_
    intro w' hw'
    go_wp2
    go_ret
    exact ⟨by rw [HX.out]; rfl, box_end hw'.out⟩
  · cases hl : l2B g s a t
    · have HX := Lib.hid (show tokB g key s a t = false by
        cases hb : tokB g key s a t
        · rfl
        · obtain ⟨_, x1, x2, x3, _⟩ := tok_yes.1 hb
          rw [l2B_true.2 ⟨x1, x2, x3⟩] at hl; cases hl)
      go_enter Tryd.func59, Tryd.ntmps59
      go_wp2_with fail
      refine wp_region_class (C := fun w' => Hid (Bx w s a t w')) (by kernel_rfl) (by kernel_rfl) HB0 ?_
      repeat (first | go_big_quiet_skip | (go_big_quiet_want; go_big_quiet_op; first | go_big_quiet_on | (refine ⟨_, fun _ _ => rfl, ?_⟩; go_big_quiet_on)))
      go_big_quiet_want
      go_big_quiet_op
      go_big_quiet_call ((intro hw; (have c := sel_bx g key hw; rw [hk] at c; exact c)))
      repeat (first | go_big_quiet_skip | (go_big_quiet_want; go_big_quiet_op; first | go_big_quiet_on | (refine ⟨_, fun _ _ => rfl, ?_⟩; go_big_quiet_on)))
      go_big_quiet_want
      go_big_quiet_op
      refine ⟨.agg #[.int .i64 s, .int .i64 a, .int .i64 t], fun w' hw' => ?_, ?_⟩
      · obtain ⟨q, q1, q2⟩ := Bx.cells hw'
        simp [go_sem, q, q1, q2]
      go_big_quiet_on
      repeat (first | go_big_quiet_skip | (go_big_quiet_want; go_big_quiet_op; first | go_big_quiet_on | (refine ⟨_, fun _ _ => rfl, ?_⟩; go_big_quiet_on)))
      go_big_quiet_want
      go_big_quiet_op
      go_big_quiet_call ((intro hw; (have c := sl2_bx g s a t hw; rw [hl] at c; exact c)))
      repeat (first | go_big_quiet_skip | (go_big_quiet_want; go_big_quiet_op; first | go_big_quiet_on | (refine ⟨_, fun _ _ => rfl, ?_⟩; go_big_quiet_on)))
      refine wpQuiet_nil ?_
      intro w' hw'
      go_wp2
      go_ret
      exact ⟨by rw [HX.out]; rfl, box_end hw'.out⟩
    · obtain ⟨g0, g4⟩ := elB_group hk
      obtain ⟨e1, _, e2⟩ := elB_bound hk
      obtain ⟨hs, ha, ht⟩ := l2B_true.1 hl
      obtain ⟨f1, _, f2⟩ := elB_bound hs
      obtain ⟨_, a0, a1⟩ := exB_true.1 ha
      obtain ⟨_, t0, t1⟩ := exB_true.1 ht
      obtain ⟨o1, o2⟩ := ord_bd g0 g4
      obtain ⟨b1, b2⟩ := bas_bd g0 g4
      obtain ⟨p1, p2⟩ := prm_bd g0 g4
      obtain ⟨r3, _, r4⟩ := elB_bound (gp_el hk a)
      have HX := Lib.hid (show tokB g key s a t = (gp g (bas g) t == s * gp g key a % prm g) by unfold tokB; rw [hk, hs, ha, ht]; rfl)
      go_enter Tryd.func59, Tryd.ntmps59
      go_wp2_with fail
      refine wp_region_class (C := fun w' => Hid (Bx w s a t w')) (by kernel_rfl) (by kernel_rfl) HB0 ?_
      repeat (first | go_big_quiet_skip | (go_big_quiet_want; go_big_quiet_op; first | go_big_quiet_on | (refine ⟨_, fun _ _ => rfl, ?_⟩; go_big_quiet_on)))
      go_big_quiet_want
      go_big_quiet_op
      go_big_quiet_call ((intro hw; (have c := sel_bx g key hw; rw [hk] at c; exact c)))
      repeat (first | go_big_quiet_skip | (go_big_quiet_want; go_big_quiet_op; first | go_big_quiet_on | (refine ⟨_, fun _ _ => rfl, ?_⟩; go_big_quiet_on)))
      go_big_quiet_want
      go_big_quiet_op
      refine ⟨.agg #[.int .i64 s, .int .i64 a, .int .i64 t], fun w' hw' => ?_, ?_⟩
      · obtain ⟨q, q1, q2⟩ := Bx.cells hw'
        simp [go_sem, q, q1, q2]
      go_big_quiet_on
      repeat (first | go_big_quiet_skip | (go_big_quiet_want; go_big_quiet_op; first | go_big_quiet_on | (refine ⟨_, fun _ _ => rfl, ?_⟩; go_big_quiet_on)))
      go_big_quiet_want
      go_big_quiet_op
      go_big_quiet_call ((intro hw; (have c := sl2_bx g s a t hw; rw [hl] at c; exact c)))
      repeat (first | go_big_quiet_skip | (go_big_quiet_want; go_big_quiet_op; first | go_big_quiet_on | (refine ⟨_, fun _ _ => rfl, ?_⟩; go_big_quiet_on)))
      go_big_quiet_want
      go_big_quiet_op
      go_big_quiet_call ((intro hw; exact sbas_bx _ hw))
      repeat (first | go_big_quiet_skip | (go_big_quiet_want; go_big_quiet_op; first | go_big_quiet_on | (refine ⟨_, fun _ _ => rfl, ?_⟩; go_big_quiet_on)))
      go_big_quiet_want
      go_big_quiet_op
      refine ⟨.int .i64 t, fun w' hw' => ?_, ?_⟩
      · have q := (Bx.cells hw').2.2
        simp [go_sem, q]
      go_big_quiet_on
      repeat (first | go_big_quiet_skip | (go_big_quiet_want; go_big_quiet_op; first | go_big_quiet_on | (refine ⟨_, fun _ _ => rfl, ?_⟩; go_big_quiet_on)))
      go_big_quiet_want
      go_big_quiet_op
      go_big_quiet_call ((intro hw; exact spow_bx _ _ _ hw g0 g4 (by omega) (by omega) (by omega) (by omega)))
      repeat (first | go_big_quiet_skip | (go_big_quiet_want; go_big_quiet_op; first | go_big_quiet_on | (refine ⟨_, fun _ _ => rfl, ?_⟩; go_big_quiet_on)))
      go_big_quiet_want
      go_big_quiet_op
      refine ⟨.int .i64 s, fun w' hw' => ?_, ?_⟩
      · have q := (Bx.cells hw').1
        simp [go_sem, q]
      go_big_quiet_on
      repeat (first | go_big_quiet_skip | (go_big_quiet_want; go_big_quiet_op; first | go_big_quiet_on | (refine ⟨_, fun _ _ => rfl, ?_⟩; go_big_quiet_on)))
      go_big_quiet_want
      go_big_quiet_op
      refine ⟨.int .i64 a, fun w' hw' => ?_, ?_⟩
      · have q := (Bx.cells hw').2.1
        simp [go_sem, q]
      go_big_quiet_on
      repeat (first | go_big_quiet_skip | (go_big_quiet_want; go_big_quiet_op; first | go_big_quiet_on | (refine ⟨_, fun _ _ => rfl, ?_⟩; go_big_quiet_on)))
      go_big_quiet_want
      go_big_quiet_op
      go_big_quiet_call ((intro hw; exact spow_bx _ _ _ hw g0 g4 (by omega) (by omega) (by omega) (by omega)))
      repeat (first | go_big_quiet_skip | (go_big_quiet_want; go_big_quiet_op; first | go_big_quiet_on | (refine ⟨_, fun _ _ => rfl, ?_⟩; go_big_quiet_on)))
      go_big_quiet_want
      go_big_quiet_op
      go_big_quiet_call ((intro hw; exact stms_bx _ _ _ hw g0 g4 (by omega) (by omega) (by omega) (by omega)))
      repeat (first | go_big_quiet_skip | (go_big_quiet_want; go_big_quiet_op; first | go_big_quiet_on | (refine ⟨_, fun _ _ => rfl, ?_⟩; go_big_quiet_on)))
      refine wpQuiet_nil ?_
      intro w' hw'
      go_wp2
      go_ret
      exact ⟨ret_bool HX.out.symm, box_end hw'.out⟩

end Go.Proofs.YtiinifcepcaonaaDoor

/- spec.SecretFrom. -/
namespace Go.Proofs.YtiinifcepcaonaaDoor
open Go.RowKit

/-- A later world than the one with the boxes of two talks. -/
def B2x (w : World) (s1 a1 t1 s2 a2 t2 : Int) (w' : World) : Prop := Below (w.heap.size + 2) ((w.alloc (.cells #[.int .i64 s1, .int .i64 a1, .int .i64 t1] 45)).alloc (.cells #[.int .i64 s2, .int .i64 a2, .int .i64 t2] 45)) w'
theorem B2x.cells {w w' : World} {s1 a1 t1 s2 a2 t2 : Int} (h : Hid (B2x w s1 a1 t1 s2 a2 t2 w')) :
    (w'.cell? ⟨w.heap.size, 0, none⟩ = some (.int .i64 s1) ∧ w'.cell? ⟨w.heap.size, 1, none⟩ = some (.int .i64 a1) ∧ w'.cell? ⟨w.heap.size, 2, none⟩ = some (.int .i64 t1)) ∧
    w'.cell? ⟨w.heap.size + 1, 0, none⟩ = some (.int .i64 s2) ∧ w'.cell? ⟨w.heap.size + 1, 1, none⟩ = some (.int .i64 a2) ∧ w'.cell? ⟨w.heap.size + 1, 2, none⟩ = some (.int .i64 t2) := by
  have hb := h.out
  unfold B2x at hb
  have h1 : ∀ o, w'.cell? ⟨w.heap.size, o, none⟩ = (w.alloc (.cells #[.int .i64 s1, .int .i64 a1, .int .i64 t1] 45)).cell? ⟨w.heap.size, o, none⟩ := fun o =>
    (hb.cell (p := ⟨w.heap.size, o, none⟩) (by show w.heap.size < w.heap.size + 2; omega)).trans (World.cell?_alloc_past _ _ _ (by simp))
  have h2 : ∀ o, w'.cell? ⟨w.heap.size + 1, o, none⟩ = ((w.alloc (.cells #[.int .i64 s1, .int .i64 a1, .int .i64 t1] 45)).alloc (.cells #[.int .i64 s2, .int .i64 a2, .int .i64 t2] 45)).cell? ⟨w.heap.size + 1, o, none⟩ := fun o => hb.cell (p := ⟨w.heap.size + 1, o, none⟩) (by show w.heap.size + 1 < w.heap.size + 2; omega)
  refine ⟨⟨?_, ?_, ?_⟩, ?_, ?_, ?_⟩
  · rw [h1, World.cell?_alloc_at _ _ _ _ rfl]; rfl
  · rw [h1, World.cell?_alloc_at _ _ _ _ rfl]; rfl
  · rw [h1, World.cell?_alloc_at _ _ _ _ rfl]; rfl
  · rw [h2, World.cell?_alloc_at _ _ _ _ (by simp)]; rfl
  · rw [h2, World.cell?_alloc_at _ _ _ _ (by simp)]; rfl
  · rw [h2, World.cell?_alloc_at _ _ _ _ (by simp)]; rfl
theorem B2x.on {w w1 w2 : World} {s1 a1 t1 s2 a2 t2 : Int} (h : Hid (B2x w s1 a1 t1 s2 a2 t2 w1)) (k : Below w1.heap.size w1 w2) : Hid (B2x w s1 a1 t1 s2 a2 t2 w2) :=
  Lib.hid (h.out.trans (k.mono (by have := h.out.size; simpa using this)))
theorem B2x.fin {w w1 : World} {s1 a1 t1 s2 a2 t2 : Int} (h : Hid (B2x w s1 a1 t1 s2 a2 t2 w1)) : Below w.heap.size w w1 :=
  ((below_alloc w _).trans ((Below.refl w.heap.size _).alloc (by simp) _)).trans (h.out.mono (by omega))
theorem B2x.start (w : World) (s1 a1 t1 s2 a2 t2 : Int) : Hid (B2x w s1 a1 t1 s2 a2 t2 ((w.alloc (.cells #[.int .i64 s1, .int .i64 a1, .int .i64 t1] 45)).alloc (.cells #[.int .i64 s2, .int .i64 a2, .int .i64 t2] 45))) := Lib.hid (Below.refl _ _)

def secB (g key s1 a1 t1 s2 a2 t2 : Int) : Bool := tokB g key s1 a1 t1 && tokB g key s2 a2 t2 && decide (s1 = s2) && decide (a1 ≠ a2)
theorem secB_true {g key s1 a1 t1 s2 a2 t2 : Int} : secB g key s1 a1 t1 s2 a2 t2 = true ↔ tokB g key s1 a1 t1 = true ∧ tokB g key s2 a2 t2 = true ∧ s1 = s2 ∧ a1 ≠ a2 := by unfold secB; simp [and_assoc]

theorem ssec_no (g key s1 a1 t1 s2 a2 t2 : Int) (w : World) (h : secB g key s1 a1 t1 s2 a2 t2 = false) : Calls Tryd.prog 46 #[.int .i64 g, .int .i64 key, .agg #[.int .i64 s1, .int .i64 a1, .int .i64 t1], .agg #[.int .i64 s2, .int .i64 a2, .int .i64 t2]] w fun e w' => e = .returned (.tuple #[.int .i64 (-1), .bool false]) ∧ Below w.heap.size w w' := by
  have HB0 := B2x.start w s1 a1 t1 s2 a2 t2
  have hn : ¬ (tokB g key s1 a1 t1 = true ∧ tokB g key s2 a2 t2 = true ∧ s1 = s2 ∧ a1 ≠ a2) := fun k => by rw [secB_true.2 k] at h; cases h
  clear h
  cases h1 : tokB g key s1 a1 t1
  · clear hn
    go_enter Tryd.func46, Tryd.ntmps46
    go_wp2_with fail
    refine (stok_any _ _ _ _ _ _).mono ?_
    rintro e w1 ⟨rfl, hb⟩
    have HB1 := B2x.on HB0 hb
    clear hb
    go_wp2
    go_ret2
    exact ⟨rfl, B2x.fin HB1⟩
  · cases h2 : tokB g key s2 a2 t2
    · clear hn
      go_enter Tryd.func46, Tryd.ntmps46
      go_wp2_with fail
      refine (stok_any _ _ _ _ _ _).mono ?_
      rintro e w1 ⟨rfl, hb⟩
      have HB1 := B2x.on HB0 hb
      clear hb
      obtain ⟨⟨c0, c1, c2⟩, d0, d1, d2⟩ := B2x.cells HB1
      go_wp2_with fail
      refine (stok_any _ _ _ _ _ _).mono ?_
      rintro e w2 ⟨rfl, hb⟩
      have HB2 := B2x.on HB1 hb
      clear hb
      go_wp2
      go_ret2
      exact ⟨rfl, B2x.fin HB2⟩
    · by_cases h3 : s1 = s2
      · have h4 : (a1 == a2) = true := by
          by_cases h4 : a1 = a2
          · simpa using h4
          · exact absurd ⟨h1, h2, h3, h4⟩ hn
        have h3' : (s1 != s2) = false := by simpa using h3
        clear hn h3
        go_enter Tryd.func46, Tryd.ntmps46
        go_wp2_with fail
        refine (stok_any _ _ _ _ _ _).mono ?_
        rintro e w1 ⟨rfl, hb⟩
        have HB1 := B2x.on HB0 hb
        clear hb
        obtain ⟨⟨c0, c1, c2⟩, d0, d1, d2⟩ := B2x.cells HB1
        go_wp2_with fail
        refine (stok_any _ _ _ _ _ _).mono ?_
        rintro e w2 ⟨rfl, hb⟩
        have HB2 := B2x.on HB1 hb
        clear hb
        clear c0 c1 c2 d0 d1 d2
        obtain ⟨⟨c0, c1, c2⟩, d0, d1, d2⟩ := B2x.cells HB2
        go_wp2
        go_ret2
        exact ⟨rfl, B2x.fin HB2⟩
      · have h3' : (s1 != s2) = true := by simpa using h3
        clear hn h3
        go_enter Tryd.func46, Tryd.ntmps46
        go_wp2_with fail
        refine (stok_any _ _ _ _ _ _).mono ?_
        rintro e w1 ⟨rfl, hb⟩
        have HB1 := B2x.on HB0 hb
        clear hb
        obtain ⟨⟨c0, c1, c2⟩, d0, d1, d2⟩ := B2x.cells HB1
        go_wp2_with fail
        refine (stok_any _ _ _ _ _ _).mono ?_
        rintro e w2 ⟨rfl, hb⟩
        have HB2 := B2x.on HB1 hb
        clear hb
        clear c0 c1 c2 d0 d1 d2
        obtain ⟨⟨c0, c1, c2⟩, d0, d1, d2⟩ := B2x.cells HB2
        go_wp2
        go_ret2
        exact ⟨rfl, B2x.fin HB2⟩

theorem smod_bx {w w1 : World} {s1 a1 t1 s2 a2 t2 : Int} (n q : Int) (h : Hid (B2x w s1 a1 t1 s2 a2 t2 w1)) (h1 : -9999 ≤ n) (h2 : n ≤ 9999) (q1 : 1 ≤ q) (q2 : q ≤ 100) : Calls Tryd.prog 64 #[.int .i64 n, .int .i64 q] w1 fun e w' => e = .returned (.int .i64 (n % q)) ∧ Hid (B2x w s1 a1 t1 s2 a2 t2 w') :=
  (smod_any n q w1 h1 h2 q1 q2).mono fun _ _ ⟨he, hw⟩ => ⟨he, by rw [← hw]; exact h⟩
theorem sback_bx {w w1 : World} {s1 a1 t1 s2 a2 t2 : Int} (g n : Int) (h : Hid (B2x w s1 a1 t1 s2 a2 t2 w1)) : Calls Tryd.prog 65 #[.int .i64 g, .int .i64 n] w1 fun e w' => e = .returned (.int .i64 (gback g n)) ∧ Hid (B2x w s1 a1 t1 s2 a2 t2 w') :=
  (sback_any g n w1).mono fun _ _ ⟨he, hb⟩ => ⟨he, B2x.on h hb⟩

set_option maxHeartbeats 1600000 in
theorem ssec_yes (g key s1 a1 t1 s2 a2 t2 : Int) (w : World) (h : secB g key s1 a1 t1 s2 a2 t2 = true) : Calls Tryd.prog 46 #[.int .i64 g, .int .i64 key, .agg #[.int .i64 s1, .int .i64 a1, .int .i64 t1], .agg #[.int .i64 s2, .int .i64 a2, .int .i64 t2]] w fun e w' => e = .returned (.tuple #[.int .i64 (secretOf g a1 t1 a2 t2), .bool true]) ∧ Below w.heap.size w w' := by
  have HB0 := B2x.start w s1 a1 t1 s2 a2 t2
  obtain ⟨h1, h2, h3, h4⟩ := secB_true.1 h
  obtain ⟨hk, _, e1, f1, _⟩ := tok_yes.1 h1
  obtain ⟨_, _, e2, f2, _⟩ := tok_yes.1 h2
  obtain ⟨g0, g4⟩ := elB_group hk
  obtain ⟨_, x1, x2⟩ := exB_true.1 e1
  obtain ⟨_, y1, y2⟩ := exB_true.1 f1
  obtain ⟨_, u1, u2⟩ := exB_true.1 e2
  obtain ⟨_, z1, z2⟩ := exB_true.1 f2
  obtain ⟨o1, o2⟩ := ord_bd g0 g4
  have h3' : (s1 != s2) = false := by simpa using h3
  have h4' : (a1 == a2) = false := by simpa using h4
  have hz : (ord g == 0) = false := by rw [beq_eq_false_iff_ne]; omega
  have hz2 : ¬ ord g = 0 := by omega
  have m1 := Int.emod_nonneg (t1 - t2) hz2
  have m2 := Int.emod_lt_of_pos (t1 - t2) (show 0 < ord g by omega)
  obtain ⟨b1, b2⟩ : -1 ≤ gback g ((a1 - a2) % ord g) ∧ gback g ((a1 - a2) % ord g) < ord g := by
    rcases back_prod (ex_of_mod g0 g4 (a1 - a2)) with ⟨e, _⟩ | ⟨e, e', _⟩ <;> omega
  have b3 : 0 ≤ gback g ((a1 - a2) % ord g) := by
    have := (secret_key (g := g) (key := key) (say := s1) h1 (by rw [h3]; exact h2) h4).1
    rcases back_prod (ex_of_mod g0 g4 (a1 - a2)) with ⟨_, e⟩ | ⟨e, _, _⟩
    · exfalso
      have h' := Int.dvd_of_emod_eq_zero e
      obtain ⟨c, hc⟩ := h'
      by_cases c1 : 0 < c
      · have := Int.mul_le_mul_of_nonneg_left (show (1 : Int) ≤ c by omega) (show 0 ≤ ord g by omega); omega
      · by_cases c2 : c < 0
        · have := Int.mul_le_mul_of_nonneg_left (show (1 : Int) ≤ -c by omega) (show 0 ≤ ord g by omega)
          rw [Int.mul_neg] at this; omega
        · have : c = 0 := by omega
          rw [this] at hc; omega
    · exact e
  have p0 : 0 ≤ (t1 - t2) % ord g * gback g ((a1 - a2) % ord g) := Int.mul_nonneg m1 b3
  have p1 : (t1 - t2) % ord g * gback g ((a1 - a2) % ord g) ≤ 23 * 23 := Int.mul_le_mul (by omega) (by omega) (by omega) (by omega)
  clear h h3 h4
  go_enter Tryd.func46, Tryd.ntmps46
  go_wp2_with fail
  refine (stok_any _ _ _ _ _ _).mono ?_
  rintro e w1 ⟨rfl, hb⟩
  have HB1 := B2x.on HB0 hb
  clear hb
  obtain ⟨⟨c0, c1, c2⟩, d0, d1, d2⟩ := B2x.cells HB1
  go_wp2_with fail
  refine (stok_any _ _ _ _ _ _).mono ?_
  rintro e w2 ⟨rfl, hb⟩
  have HB2 := B2x.on HB1 hb
  clear hb
  clear c0 c1 c2 d0 d1 d2
  obtain ⟨⟨c0, c1, c2⟩, d0, d1, d2⟩ := B2x.cells HB2
  go_wp2_with fail
  refine (sord_any _ _).mono ?_
  rintro e w3 ⟨rfl, hb⟩
  have HB3 := B2x.on HB2 hb
  clear hb
  clear c0 c1 c2 d0 d1 d2
  go_wp2_with fail
  have HD : Hid (B2x w s1 a1 t1 s2 a2 t2 w3.drew) := Lib.hid HB3.out.drew
  refine wp_region_class (C := fun w' => Hid (B2x w s1 a1 t1 s2 a2 t2 w')) (by kernel_rfl) (by kernel_rfl) HD ?_
  have e1 : ((t1 - t2) % ord g * gback g ((a1 - a2) % ord g)).tmod (ord g) = (t1 - t2) % ord g * gback g ((a1 - a2) % ord g) % ord g := Int.tmod_eq_emod_of_nonneg p0
  repeat (first | go_big_quiet_skip | (go_big_quiet_want; go_big_quiet_op; first | go_big_quiet_on | (refine ⟨_, fun _ _ => rfl, ?_⟩; go_big_quiet_on)))
  go_big_quiet_want
  go_big_quiet_op
  refine ⟨.int .i64 t1, fun w' hw' => ?_, ?_⟩
  · have q := (B2x.cells hw').1.2.2
    simp [go_sem, q]
  go_big_quiet_on
  repeat (first | go_big_quiet_skip | (go_big_quiet_want; go_big_quiet_op; first | go_big_quiet_on | (refine ⟨_, fun _ _ => rfl, ?_⟩; go_big_quiet_on)))
  go_big_quiet_want
  go_big_quiet_op
  refine ⟨.int .i64 t2, fun w' hw' => ?_, ?_⟩
  · have q := (B2x.cells hw').2.2.2
    simp [go_sem, q]
  go_big_quiet_on
  repeat (first | go_big_quiet_skip | (go_big_quiet_want; go_big_quiet_op; first | go_big_quiet_on | (refine ⟨_, fun _ _ => rfl, ?_⟩; go_big_quiet_on)))
  go_big_quiet_want
  go_big_quiet_op
  go_big_quiet_call ((intro hw; exact smod_bx _ _ hw (by omega) (by omega) (by omega) (by omega)))
  repeat (first | go_big_quiet_skip | (go_big_quiet_want; go_big_quiet_op; first | go_big_quiet_on | (refine ⟨_, fun _ _ => rfl, ?_⟩; go_big_quiet_on)))
  go_big_quiet_want
  go_big_quiet_op
  refine ⟨.int .i64 a1, fun w' hw' => ?_, ?_⟩
  · have q := (B2x.cells hw').1.2.1
    simp [go_sem, q]
  go_big_quiet_on
  repeat (first | go_big_quiet_skip | (go_big_quiet_want; go_big_quiet_op; first | go_big_quiet_on | (refine ⟨_, fun _ _ => rfl, ?_⟩; go_big_quiet_on)))
  go_big_quiet_want
  go_big_quiet_op
  refine ⟨.int .i64 a2, fun w' hw' => ?_, ?_⟩
  · have q := (B2x.cells hw').2.2.1
    simp [go_sem, q]
  go_big_quiet_on
  repeat (first | go_big_quiet_skip | (go_big_quiet_want; go_big_quiet_op; first | go_big_quiet_on | (refine ⟨_, fun _ _ => rfl, ?_⟩; go_big_quiet_on)))
  go_big_quiet_want
  go_big_quiet_op
  go_big_quiet_call ((intro hw; exact smod_bx _ _ hw (by omega) (by omega) (by omega) (by omega)))
  repeat (first | go_big_quiet_skip | (go_big_quiet_want; go_big_quiet_op; first | go_big_quiet_on | (refine ⟨_, fun _ _ => rfl, ?_⟩; go_big_quiet_on)))
  go_big_quiet_want
  go_big_quiet_op
  go_big_quiet_call ((intro hw; exact sback_bx _ _ hw))
  repeat (first | go_big_quiet_skip | (go_big_quiet_want; go_big_quiet_op; first | go_big_quiet_on | (refine ⟨_, fun _ _ => rfl, ?_⟩; go_big_quiet_on)))
  clear e1
  refine wpQuiet_nil ?_
  intro w' hw'
  go_wp2
  go_ret2
  exact ⟨rfl, B2x.fin hw'⟩

end Go.Proofs.YtiinifcepcaonaaDoor

/- Two talks compared with == and !=. -/
namespace Go.Proofs.YtiinifcepcaonaaDoor
open Go.RowKit

theorem talkStood : Tryd.prog.stoodInHeld 45 = false := by kernel_rfl
theorem talkGuard : Tryd.prog.eqGuardType Tryd.prog.depth 45 = false := by kernel_rfl
theorem talkFields : Tryd.prog.underlying 45 = some (.struct (Tryd.prog.fieldsOf 45)) := by kernel_rfl
def talkB (s a t s' a' t' : Int) : Bool := decide (s = s') && decide (a = a') && decide (t = t')
theorem talkB_refl (s a t : Int) : talkB s a t s a t = true := by simp [talkB]
theorem run_equal_talk (s a t s' a' t' : Int) (w : World) : (Op.equalIn 10000 45 (.agg #[.int .i64 s, .int .i64 a, .int .i64 t]) (.agg #[.int .i64 s', .int .i64 a', .int .i64 t'])).run Tryd.prog w = .ok (talkB s a t s' a' t') w := by
  rw [run_equalIn_struct w 9999 _ _ _ talkFields talkStood]
  by_cases h1 : s = s' <;> by_cases h2 : a = a' <;> by_cases h3 : t = t' <;> simp [Program.fieldsOf, Tryd.underlying45, Op.eqFields, go_sem, talkB, h1, h2, h3, Tryd.underlying3]
end Go.Proofs.YtiinifcepcaonaaDoor
