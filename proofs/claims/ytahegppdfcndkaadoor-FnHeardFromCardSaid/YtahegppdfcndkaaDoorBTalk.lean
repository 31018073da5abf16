/- TalkS, TalkS2, TalkS3, TalkEq, in one text. -/
import Derived.Test.YtahegppdfcndkaaDoorBWalk
import Derived.Test.YtahegppdfcndkaaDoorBPure
import Derived.Deep.RegionHeld3
import Derived.Laws.ResultCell
import Derived.Outline
import Derived.Laws.StructEq
/- Contracts of spec's chapter 2: keys and talks. -/
namespace Go.Proofs.YtahegppdfcndkaaDoor
open Go.RowKit

def l2B (g s a t : Int) : Bool := elB g s && exB g a && exB g t
theorem l2B_true {g s a t : Int} : l2B g s a t = true ↔ elB g s = true ∧ exB g a = true ∧ exB g t = true := by unfold l2B; simp [and_assoc]

/-- A box of three cells, in a later world. -/
theorem box3 {w wk : World} {x y z : Value} {T : TypeId} (hb : Below (w.heap.size + 1) (w.alloc (.cells #[x, y, z] T)) wk) :
    (wk.cell? ⟨w.heap.size, 0, none⟩ = some x ∧ wk.cell? ⟨w.heap.size, 1, none⟩ = some y ∧ wk.cell? ⟨w.heap.size, 2, none⟩ = some z) ∧ wk.frozen? ⟨w.heap.size, 0, none⟩ = false ∧ wk.frozen? ⟨w.heap.size, 1, none⟩ = false ∧ wk.frozen? ⟨w.heap.size, 2, none⟩ = false ∧ w.heap.size < wk.heap.size := by
  have hc : ∀ o, wk.cell? ⟨w.heap.size, o, none⟩ = (w.alloc (.cells #[x, y, z] T)).cell? ⟨w.heap.size, o, none⟩ := fun o => hb.cell (p := ⟨w.heap.size, o, none⟩) (Nat.lt_succ_self _)
  have hf : ∀ o, wk.frozen? ⟨w.heap.size, o, none⟩ = (w.alloc (.cells #[x, y, z] T)).frozen? ⟨w.heap.size, o, none⟩ := fun o => hb.frozen (p := ⟨w.heap.size, o, none⟩) (Nat.lt_succ_self _)
  have hs := hb.size
  refine ⟨⟨?_, ?_, ?_⟩, ?_, ?_, ?_, by simp at hs; omega⟩
  · rw [hc, World.cell?_alloc_at _ _ _ _ rfl]; rfl
  · rw [hc, World.cell?_alloc_at _ _ _ _ rfl]; rfl
  · rw [hc, World.cell?_alloc_at _ _ _ _ rfl]; rfl
  · rw [hf, World.frozen?_alloc_at _ _ _ _ rfl]
  · rw [hf, World.frozen?_alloc_at _ _ _ _ rfl]
  · rw [hf, World.frozen?_alloc_at _ _ _ _ rfl]
theorem below_alloc (w : World) (o : Obj) : Below w.heap.size w (w.alloc o) := (Below.refl _ _).alloc (Nat.le_refl _) _
theorem box_on {w w1 w2 : World} {o : Obj} (h : Below (w.heap.size + 1) (w.alloc o) w1) (k : Below w1.heap.size w1 w2) : Below (w.heap.size + 1) (w.alloc o) w2 := h.trans (k.mono (by have := h.size; simpa using this))
theorem box_end {w w1 : World} {o : Obj} (h : Below (w.heap.size + 1) (w.alloc o) w1) : Below w.heap.size w w1 := (below_alloc w o).trans (h.mono (Nat.le_succ _))

theorem stalk_yes (g secret further ask : Int) (w : World) (h1 : exB g secret = true) (h2 : exB g further = true) (h3 : exB g ask = true) :
    Calls Tryd.prog 30 #[.int .i64 g, .int .i64 secret, .int .i64 further, .int .i64 ask] w fun e w' => e = .returned (.tuple #[.agg #[.int .i64 (gp g (bas g) further), .int .i64 ask, .int .i64 (tellOf g secret further ask)], .bool true]) ∧ Below w.heap.size w w' := by
  have HB := Lib.hid (Below.refl (w.heap.size + 1) (w.alloc (.cells #[.int .i64 0, .int .i64 0, .int .i64 0] 37)))
  obtain ⟨⟨g0, g4⟩, s0, s1⟩ := exB_true.1 h1
  obtain ⟨_, f0, f1⟩ := exB_true.1 h2
  obtain ⟨_, a0, a1⟩ := exB_true.1 h3
  obtain ⟨o1, o2⟩ := ord_bd g0 g4
  obtain ⟨b1, b2⟩ := bas_bd g0 g4
  have p0 : 0 ≤ ask * secret := Int.mul_nonneg (by omega) (by omega)
  have p1 : ask * secret ≤ 23 * 23 := Int.mul_le_mul (by omega) (by omega) (by omega) (by omega)
  have hz : (ord g == 0) = false := by rw [beq_eq_false_iff_ne]; omega
  go_enter Tryd.func30, Tryd.ntmps30
  go_wp2_with fail
  refine (sex_any _ _ _).mono ?_
  rintro e w1 ⟨rfl, hb⟩
  have HB1 := Lib.hid (box_on HB.out hb); clear hb
  go_wp2_with fail
  refine (sex_any _ _ _).mono ?_
  rintro e w2 ⟨rfl, hb⟩
  have HB2 := Lib.hid (box_on HB1.out hb); clear hb
  go_wp2_with fail
  refine (sex_any _ _ _).mono ?_
  rintro e w3 ⟨rfl, hb⟩
  have HB3 := Lib.hid (box_on HB2.out hb); clear hb
  go_wp2_with fail
  refine (sbas_any _ _).mono ?_
  rintro e w4 ⟨rfl, hb⟩
  have HB4 := Lib.hid (box_on HB3.out hb); clear hb
  go_wp2_with fail
  refine (spow_any _ _ _ _ g0 g4 (by omega) (by omega) (by omega) (by omega)).mono ?_
  rintro e w5 ⟨rfl, hb⟩
  have HB5 := Lib.hid (box_on HB4.out hb); clear hb
  go_wp2_with fail
  refine (sord_any _ _).mono ?_
  rintro e w6 ⟨rfl, hb⟩
  have HB6 := Lib.hid (box_on HB5.out hb); clear hb
  obtain ⟨⟨c0, c1, c2⟩, k0, k1, k2, hz6⟩ := box3 HB6.out
  go_wp2
  refine bodyPost_ret (v := .tuple #[.agg #[.int .i64 (gp g (bas g) further), .int .i64 ask, .int .i64 (tellOf g secret further ask)], .bool true]) ?_ rfl ⟨rfl, ?_⟩
  · simp [results, Tryd.results30, go_sem, c0, c1, c2, tellOf, gp]
  · exact (((box_end HB6.out).setCell (Nat.le_refl _) _).setCell (Nat.le_refl _) _).setCell (Nat.le_refl _) _

theorem stalk_no (g secret further ask : Int) (w : World) (h : ¬ (exB g secret = true ∧ exB g further = true ∧ exB g ask = true)) :
    Calls Tryd.prog 30 #[.int .i64 g, .int .i64 secret, .int .i64 further, .int .i64 ask] w fun e w' => e = .returned (.tuple #[.agg #[.int .i64 0, .int .i64 0, .int .i64 0], .bool false]) ∧ Below w.heap.size w w' := by
  have HB0 := Lib.hid (Below.refl (w.heap.size + 1) (w.alloc (.cells #[.int .i64 0, .int .i64 0, .int .i64 0] 37)))
  cases h1 : exB g secret
  · clear h
    go_enter Tryd.func30, Tryd.ntmps30
    go_wp2_with fail
    refine (sex_any _ _ _).mono ?_
    rintro e w1 ⟨rfl, hb⟩
    have HB1 := Lib.hid (box_on HB0.out hb); clear hb
    obtain ⟨⟨c0, c1, c2⟩, k0, k1, k2, hz6⟩ := box3 HB1.out
    go_wp2
    refine bodyPost_ret (v := .tuple #[.agg #[.int .i64 0, .int .i64 0, .int .i64 0], .bool false]) ?_ rfl ⟨rfl, ?_⟩
    · simp [results, Tryd.results30, go_sem, c0, c1, c2]
    · first | exact (((box_end HB1.out).setCell (Nat.le_refl _) _).setCell (Nat.le_refl _) _).setCell (Nat.le_refl _) _ | exact box_end HB1.out
  · cases h2 : exB g further
    · clear h
      go_enter Tryd.func30, Tryd.ntmps30
      go_wp2_with fail
      refine (sex_any _ _ _).mono ?_
      rintro e w1 ⟨rfl, hb⟩
      have HB1 := Lib.hid (box_on HB0.out hb); clear hb
      go_wp2_with fail
      refine (sex_any _ _ _).mono ?_
      rintro e w2 ⟨rfl, hb⟩
      have HB2 := Lib.hid (box_on HB1.out hb); clear hb
      obtain ⟨⟨c0, c1, c2⟩, k0, k1, k2, hz6⟩ := box3 HB2.out
      go_wp2
      refine bodyPost_ret (v := .tuple #[.agg #[.int .i64 0, .int .i64 0, .int .i64 0], .bool false]) ?_ rfl ⟨rfl, ?_⟩
      · simp [results, Tryd.results30, go_sem, c0, c1, c2]
      · first | exact (((box_end HB2.out).setCell (Nat.le_refl _) _).setCell (Nat.le_refl _) _).setCell (Nat.le_refl _) _ | exact box_end HB2.out
    · have h3 : exB g ask = false := by
        cases h3 : exB g ask
        · rfl
        · exact absurd ⟨h1, h2, h3⟩ h
      clear h
      go_enter Tryd.func30, Tryd.ntmps30
      go_wp2_with fail
      refine (sex_any _ _ _).mono ?_
      rintro e w1 ⟨rfl, hb⟩
      have HB1 := Lib.hid (box_on HB0.out hb); clear hb
      go_wp2_with fail
      refine (sex_any _ _ _).mono ?_
      rintro e w2 ⟨rfl, hb⟩
      have HB2 := Lib.hid (box_on HB1.out hb); clear hb
      go_wp2_with fail
      refine (sex_any _ _ _).mono ?_
      rintro e w3 ⟨rfl, hb⟩
      have HB3 := Lib.hid (box_on HB2.out hb); clear hb
      obtain ⟨⟨c0, c1, c2⟩, k0, k1, k2, hz6⟩ := box3 HB3.out
      go_wp2
      refine bodyPost_ret (v := .tuple #[.agg #[.int .i64 0, .int .i64 0, .int .i64 0], .bool false]) ?_ rfl ⟨rfl, ?_⟩
      · simp [results, Tryd.results30, go_sem, c0, c1, c2]
      · first | exact (((box_end HB3.out).setCell (Nat.le_refl _) _).setCell (Nat.le_refl _) _).setCell (Nat.le_refl _) _ | exact box_end HB3.out

theorem smade_no (g key ask tell : Int) (w : World) (h : ¬ (elB g key = true ∧ exB g ask = true ∧ exB g tell = true)) :
    Calls Tryd.prog 41 #[.int .i64 g, .int .i64 key, .int .i64 ask, .int .i64 tell] w fun e w' => e = .returned (.tuple #[.agg #[.int .i64 0, .int .i64 0, .int .i64 0], .bool false]) ∧ Below w.heap.size w w' := by
  have HB0 := Lib.hid (Below.refl (w.heap.size + 1) (w.alloc (.cells #[.int .i64 0, .int .i64 0, .int .i64 0] 37)))
  cases h1 : elB g key
  · clear h
    go_enter Tryd.func41, Tryd.ntmps41
    go_wp2_with fail
    refine (sel_any _ _ _).mono ?_
    rintro e w1 ⟨rfl, hb⟩
    have HB1 := Lib.hid (box_on HB0.out hb); clear hb
    obtain ⟨⟨c0, c1, c2⟩, k0, k1, k2, hz6⟩ := box3 HB1.out
    go_wp2
    refine bodyPost_ret (v := .tuple #[.agg #[.int .i64 0, .int .i64 0, .int .i64 0], .bool false]) ?_ rfl ⟨rfl, ?_⟩
    · simp [results, Tryd.results41, go_sem, c0, c1, c2]
    · first | exact (((box_end HB1.out).setCell (Nat.le_refl _) _).setCell (Nat.le_refl _) _).setCell (Nat.le_refl _) _ | exact box_end HB1.out
  · cases h2 : exB g ask
    · clear h
      go_enter Tryd.func41, Tryd.ntmps41
      go_wp2_with fail
      refine (sel_any _ _ _).mono ?_
      rintro e w1 ⟨rfl, hb⟩
      have HB1 := Lib.hid (box_on HB0.out hb); clear hb
      go_wp2_with fail
      refine (sex_any _ _ _).mono ?_
      rintro e w2 ⟨rfl, hb⟩
      have HB2 := Lib.hid (box_on HB1.out hb); clear hb
      obtain ⟨⟨c0, c1, c2⟩, k0, k1, k2, hz6⟩ := box3 HB2.out
      go_wp2
      refine bodyPost_ret (v := .tuple #[.agg #[.int .i64 0, .int .i64 0, .int .i64 0], .bool false]) ?_ rfl ⟨rfl, ?_⟩
      · simp [results, Tryd.results41, go_sem, c0, c1, c2]
      · first | exact (((box_end HB2.out).setCell (Nat.le_refl _) _).setCell (Nat.le_refl _) _).setCell (Nat.le_refl _) _ | exact box_end HB2.out
    · have h3 : exB g tell = false := by
        cases h3 : exB g tell
        · rfl
        · exact absurd ⟨h1, h2, h3⟩ h
      clear h
      go_enter Tryd.func41, Tryd.ntmps41
      go_wp2_with fail
      refine (sel_any _ _ _).mono ?_
      rintro e w1 ⟨rfl, hb⟩
      have HB1 := Lib.hid (box_on HB0.out hb); clear hb
      go_wp2_with fail
      refine (sex_any _ _ _).mono ?_
      rintro e w2 ⟨rfl, hb⟩
      have HB2 := Lib.hid (box_on HB1.out hb); clear hb
      go_wp2_with fail
      refine (sex_any _ _ _).mono ?_
      rintro e w3 ⟨rfl, hb⟩
      have HB3 := Lib.hid (box_on HB2.out hb); clear hb
      obtain ⟨⟨c0, c1, c2⟩, k0, k1, k2, hz6⟩ := box3 HB3.out
      go_wp2
      refine bodyPost_ret (v := .tuple #[.agg #[.int .i64 0, .int .i64 0, .int .i64 0], .bool false]) ?_ rfl ⟨rfl, ?_⟩
      · simp [results, Tryd.results41, go_sem, c0, c1, c2]
      · first | exact (((box_end HB3.out).setCell (Nat.le_refl _) _).setCell (Nat.le_refl _) _).setCell (Nat.le_refl _) _ | exact box_end HB3.out

theorem smade_yes (g key ask tell : Int) (w : World) (h1 : elB g key = true) (h2 : exB g ask = true) (h3 : exB g tell = true) :
    Calls Tryd.prog 41 #[.int .i64 g, .int .i64 key, .int .i64 ask, .int .i64 tell] w fun e w' => e = .returned (.tuple #[.agg #[.int .i64 (sayUp g key ask tell), .int .i64 ask, .int .i64 tell], .bool true]) ∧ Below w.heap.size w w' := by
  have HB0 := Lib.hid (Below.refl (w.heap.size + 1) (w.alloc (.cells #[.int .i64 0, .int .i64 0, .int .i64 0] 37)))
  obtain ⟨g0, g4⟩ := elB_group h1
  obtain ⟨e1, _, e2⟩ := elB_bound h1
  obtain ⟨_, a0, a1⟩ := exB_true.1 h2
  obtain ⟨_, t0, t1⟩ := exB_true.1 h3
  obtain ⟨o1, o2⟩ := ord_bd g0 g4
  obtain ⟨b1, b2⟩ := bas_bd g0 g4
  obtain ⟨p1, p2⟩ := prm_bd g0 g4
  have HS := Lib.hid (show pw (prm g) (bas g) (tell % ord g).toNat * pw (prm g) key ((-ask) % ord g).toNat % prm g = sayUp g key ask tell from rfl)
  obtain ⟨r1, r2⟩ := pw_bound (prm g) (bas g) (by omega) (tell % ord g).toNat
  obtain ⟨r3, r4⟩ := pw_bound (prm g) key (by omega) ((-ask) % ord g).toNat
  go_enter Tryd.func41, Tryd.ntmps41
  go_wp2_with fail
  refine (sel_any _ _ _).mono ?_
  rintro e w1 ⟨rfl, hb⟩
  have HB1 := Lib.hid (box_on HB0.out hb); clear hb
  go_wp2_with fail
  refine (sex_any _ _ _).mono ?_
  rintro e w2 ⟨rfl, hb⟩
  have HB2 := Lib.hid (box_on HB1.out hb); clear hb
  go_wp2_with fail
  refine (sex_any _ _ _).mono ?_
  rintro e w3 ⟨rfl, hb⟩
  have HB3 := Lib.hid (box_on HB2.out hb); clear hb
  go_wp2_with fail
  refine (sbas_any _ _).mono ?_
  rintro e w4 ⟨rfl, hb⟩
  have HB4 := Lib.hid (box_on HB3.out hb); clear hb
  go_wp2_with fail
  refine (spow_any _ _ _ _ g0 g4 (by omega) (by omega) (by omega) (by omega)).mono ?_
  rintro e w5 ⟨rfl, hb⟩
  have HB5 := Lib.hid (box_on HB4.out hb); clear hb
  go_wp2_with fail
  refine (spow_any _ _ _ _ g0 g4 (by omega) (by omega) (by omega) (by omega)).mono ?_
  rintro e w6 ⟨rfl, hb⟩
  have HB6 := Lib.hid (box_on HB5.out hb); clear hb
  go_wp2_with fail
  refine (stms_any _ _ _ _ g0 g4 (by omega) (by omega) (by omega) (by omega)).mono ?_
  rintro e w7 ⟨rfl, hb⟩
  have HB7 := Lib.hid (box_on HB6.out hb); clear hb
  rw [HS.out]
  obtain ⟨⟨c0, c1, c2⟩, k0, k1, k2, hz6⟩ := box3 HB7.out
  go_wp2
  refine bodyPost_ret (v := .tuple #[.agg #[.int .i64 (sayUp g key ask tell), .int .i64 ask, .int .i64 tell], .bool true]) ?_ rfl ⟨rfl, ?_⟩
  · simp [results, Tryd.results41, go_sem, c0, c1, c2]
  · exact (((box_end HB7.out).setCell (Nat.le_refl _) _).setCell (Nat.le_refl _) _).setCell (Nat.le_refl _) _

/-- A later world than the one with the box of a talk. -/
def Bx (w : World) (s a t : Int) (w' : World) : Prop := Below (w.heap.size + 1) (w.alloc (.cells #[.int .i64 s, .int .i64 a, .int .i64 t] 37)) w'
theorem Bx.cells {w w' : World} {s a t : Int} (h : Hid (Bx w s a t w')) : w'.cell? ⟨w.heap.size, 0, none⟩ = some (.int .i64 s) ∧ w'.cell? ⟨w.heap.size, 1, none⟩ = some (.int .i64 a) ∧ w'.cell? ⟨w.heap.size, 2, none⟩ = some (.int .i64 t) := (box3 h.out).1
theorem Bx.on {w w1 w2 : World} {s a t : Int} (h : Hid (Bx w s a t w1)) (k : Below w1.heap.size w1 w2) : Hid (Bx w s a t w2) := Lib.hid (box_on h.out k)
theorem sel_bx {w w1 : World} {s a t : Int} (g x : Int) (h : Hid (Bx w s a t w1)) : Calls Tryd.prog 40 #[.int .i64 g, .int .i64 x] w1 fun e w' => e = .returned (.bool (elB g x)) ∧ Hid (Bx w s a t w') := (sel_any g x w1).mono fun _ _ ⟨he, hb⟩ => ⟨he, Bx.on h hb⟩
theorem sbas_bx {w w1 : World} {s a t : Int} (g : Int) (h : Hid (Bx w s a t w1)) : Calls Tryd.prog 29 #[.int .i64 g] w1 fun e w' => e = .returned (.int .i64 (bas g)) ∧ Hid (Bx w s a t w') := (sbas_any g w1).mono fun _ _ ⟨he, hb⟩ => ⟨he, Bx.on h hb⟩
theorem spow_bx {w w1 : World} {s a t : Int} (g x n : Int) (h : Hid (Bx w s a t w1)) (h0 : 0 ≤ g) (h4 : g < 4) (a0 : 0 ≤ x) (a1 : x ≤ 100) (n0 : -9999 ≤ n) (n1 : n ≤ 9999) : Calls Tryd.prog 28 #[.int .i64 g, .int .i64 x, .int .i64 n] w1 fun e w' => e = .returned (.int .i64 (gp g x n)) ∧ Hid (Bx w s a t w') := (spow_any g x n w1 h0 h4 a0 a1 n0 n1).mono fun _ _ ⟨he, hb⟩ => ⟨he, Bx.on h hb⟩
theorem stms_bx {w w1 : World} {s a t : Int} (g x y : Int) (h : Hid (Bx w s a t w1)) (h0 : 0 ≤ g) (h4 : g < 4) (a0 : 0 ≤ x) (a1 : x ≤ 100) (b0 : 0 ≤ y) (b1 : y ≤ 100) : Calls Tryd.prog 58 #[.int .i64 g, .int .i64 x, .int .i64 y] w1 fun e w' => e = .returned (.int .i64 (x * y % prm g)) ∧ Hid (Bx w s a t w') := (stms_any g x y w1 h0 h4 a0 a1 b0 b1).mono fun _ _ ⟨he, hb⟩ => ⟨he, Bx.on h hb⟩

end Go.Proofs.YtahegppdfcndkaaDoor

/- spec.TalkOk: a region that draws its order, with loads and calls that make memory, some of them guarded: walked once in the order of the text, at a class of worlds. -/
namespace Go.Proofs.YtahegppdfcndkaaDoor
open Go.RowKit

/-- One walk of the text serves every order, at whatever class of worlds that the region's first world is of. -/
theorem wp_region_class {P : Program} {C : World → Prop} {id : Nat} {Q : Exit → Act → World → Prop} {a : Act} {w : World} {l : List Oper} (hm : P.follows .mixedOrders = true) (hB : Region.lexB .any l.toArray = true) (hC : C w.drew)
    (h : wpQuiet P l.toArray C (fun a' => ∀ w', C w' → Q .normal a' w') l a) : (Code.region id l.toArray true).wp P Q a w :=
  wp_region_quiet (C := C) hm hB hC (by simpa using h)

end Go.Proofs.YtahegppdfcndkaaDoor

/- spec.SecretFrom. -/
namespace Go.Proofs.YtahegppdfcndkaaDoor
open Go.RowKit

/-- A later world than the one with the boxes of two talks. -/
def B2x (w : World) (s1 a1 t1 s2 a2 t2 : Int) (w' : World) : Prop := Below (w.heap.size + 2) ((w.alloc (.cells #[.int .i64 s1, .int .i64 a1, .int .i64 t1] 37)).alloc (.cells #[.int .i64 s2, .int .i64 a2, .int .i64 t2] 37)) w'
theorem B2x.cells {w w' : World} {s1 a1 t1 s2 a2 t2 : Int} (h : Hid (B2x w s1 a1 t1 s2 a2 t2 w')) :
    (w'.cell? ⟨w.heap.size, 0, none⟩ = some (.int .i64 s1) ∧ w'.cell? ⟨w.heap.size, 1, none⟩ = some (.int .i64 a1) ∧ w'.cell? ⟨w.heap.size, 2, none⟩ = some (.int .i64 t1)) ∧
    w'.cell? ⟨w.heap.size + 1, 0, none⟩ = some (.int .i64 s2) ∧ w'.cell? ⟨w.heap.size + 1, 1, none⟩ = some (.int .i64 a2) ∧ w'.cell? ⟨w.heap.size + 1, 2, none⟩ = some (.int .i64 t2) := by
  have hb := h.out
  unfold B2x at hb
  have h1 : ∀ o, w'.cell? ⟨w.heap.size, o, none⟩ = (w.alloc (.cells #[.int .i64 s1, .int .i64 a1, .int .i64 t1] 37)).cell? ⟨w.heap.size, o, none⟩ := fun o =>
    (hb.cell (p := ⟨w.heap.size, o, none⟩) (by show w.heap.size < w.heap.size + 2; omega)).trans (World.cell?_alloc_past _ _ _ (by simp))
  have h2 : ∀ o, w'.cell? ⟨w.heap.size + 1, o, none⟩ = ((w.alloc (.cells #[.int .i64 s1, .int .i64 a1, .int .i64 t1] 37)).alloc (.cells #[.int .i64 s2, .int .i64 a2, .int .i64 t2] 37)).cell? ⟨w.heap.size + 1, o, none⟩ := fun o => hb.cell (p := ⟨w.heap.size + 1, o, none⟩) (by show w.heap.size + 1 < w.heap.size + 2; omega)
  refine ⟨⟨?_, ?_, ?_⟩, ?_, ?_, ?_⟩
  · rw [h1, World.cell?_alloc_at _ _ _ _ rfl]; rfl
  · rw [h1, World.cell?_alloc_at _ _ _ _ rfl]; rfl
  · rw [h1, World.cell?_alloc_at _ _ _ _ rfl]; rfl
  · rw [h2, World.cell?_alloc_at _ _ _ _ (by simp)]; rfl
  · rw [h2, World.cell?_alloc_at _ _ _ _ (by simp)]; rfl
  · rw [h2, World.cell?_alloc_at _ _ _ _ (by simp)]; rfl
theorem B2x.on {w w1 w2 : World} {s1 a1 t1 s2 a2 t2 : Int} (h : Hid (B2x w s1 a1 t1 s2 a2 t2 w1)) (k : Below w1.heap.size w1 w2) : Hid (B2x w s1 a1 t1 s2 a2 t2 w2) :=
  Lib.hid (h.out.trans (k.mono (by have := h.out.size; simpa using this)))
theorem B2x.fin {w w1 : World} {s1 a1 t1 s2 a2 t2 : Int} (h : Hid (B2x w s1 a1 t1 s2 a2 t2 w1)) : Below w.heap.size w w1 :=
  ((below_alloc w _).trans ((Below.refl w.heap.size _).alloc (by simp) _)).trans (h.out.mono (by omega))
theorem B2x.start (w : World) (s1 a1 t1 s2 a2 t2 : Int) : Hid (B2x w s1 a1 t1 s2 a2 t2 ((w.alloc (.cells #[.int .i64 s1, .int .i64 a1, .int .i64 t1] 37)).alloc (.cells #[.int .i64 s2, .int .i64 a2, .int .i64 t2] 37))) := Lib.hid (Below.refl _ _)

def secB (g key s1 a1 t1 s2 a2 t2 : Int) : Bool := tokB g key s1 a1 t1 && tokB g key s2 a2 t2 && decide (s1 = s2) && decide (a1 ≠ a2)
theorem secB_true {g key s1 a1 t1 s2 a2 t2 : Int} : secB g key s1 a1 t1 s2 a2 t2 = true ↔ tokB g key s1 a1 t1 = true ∧ tokB g key s2 a2 t2 = true ∧ s1 = s2 ∧ a1 ≠ a2 := by unfold secB; simp [and_assoc]

theorem smod_bx {w w1 : World} {s1 a1 t1 s2 a2 t2 : Int} (n q : Int) (h : Hid (B2x w s1 a1 t1 s2 a2 t2 w1)) (h1 : -9999 ≤ n) (h2 : n ≤ 9999) (q1 : 1 ≤ q) (q2 : q ≤ 100) : Calls Tryd.prog 54 #[.int .i64 n, .int .i64 q] w1 fun e w' => e = .returned (.int .i64 (n % q)) ∧ Hid (B2x w s1 a1 t1 s2 a2 t2 w') :=
  (smod_any n q w1 h1 h2 q1 q2).mono fun _ _ ⟨he, hw⟩ => ⟨he, by rw [← hw]; exact h⟩
end Go.Proofs.YtahegppdfcndkaaDoor

/- Two talks compared with == and !=. -/
namespace Go.Proofs.YtahegppdfcndkaaDoor
open Go.RowKit

theorem talkStood : Tryd.prog.stoodInHeld 37 = false := by kernel_rfl
theorem talkGuard : Tryd.prog.eqGuardType Tryd.prog.depth 37 = false := by kernel_rfl
theorem talkFields : Tryd.prog.underlying 37 = some (.struct (Tryd.prog.fieldsOf 37)) := by kernel_rfl
def talkB (s a t s' a' t' : Int) : Bool := decide (s = s') && decide (a = a') && decide (t = t')
theorem talkB_refl (s a t : Int) : talkB s a t s a t = true := by simp [talkB]
theorem run_equal_talk (s a t s' a' t' : Int) (w : World) : (Op.equalIn 10000 37 (.agg #[.int .i64 s, .int .i64 a, .int .i64 t]) (.agg #[.int .i64 s', .int .i64 a', .int .i64 t'])).run Tryd.prog w = .ok (talkB s a t s' a' t') w := by
  rw [run_equalIn_struct w 9999 _ _ _ talkFields talkStood]
  by_cases h1 : s = s' <;> by_cases h2 : a = a' <;> by_cases h3 : t = t' <;> simp [Program.fieldsOf, Tryd.underlying37, Op.eqFields, go_sem, talkB, h1, h2, h3, Tryd.underlying3]
end Go.Proofs.YtahegppdfcndkaaDoor
