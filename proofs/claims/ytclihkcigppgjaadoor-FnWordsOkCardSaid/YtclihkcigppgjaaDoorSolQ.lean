/- How many solutions a relation has: none, or the order to some power; differences of solutions. -/
import Derived.Test.YtclihkcigppgjaaDoorSolP
namespace Go.Proofs.YtclihkcigppgjaaDoor

theorem row_append {a b : List (List Int)} {j : Nat} : row (a ++ b) j = if j < a.length then row a j else row b (j - a.length) := by
  unfold row
  rw [List.getD_eq_getElem?_getD, List.getD_eq_getElem?_getD, List.getD_eq_getElem?_getD, List.getElem?_append]
  by_cases h : j < a.length
  · rw [if_pos h, if_pos h]
  · rw [if_neg h, if_neg h]
theorem ext_row {xs : List Int} : ∀ {n k : Nat}, k < n → row (extTo xs n) k = xs ++ [(k : Int)]
  | 0, k, h => by omega
  | n + 1, k, h => by
    unfold extTo
    rw [row_append, extTo_len]
    by_cases e : k < n
    · rw [if_pos e]; exact ext_row e
    · obtain rfl : k = n := by omega
      rw [if_neg e, Nat.sub_self]; rfl
theorem long_row {q : Nat} {xss : List (List Int)} : ∀ {n j k : Nat}, j < n → k < q → row (longTo q xss n) (j * q + k) = row xss j ++ [(k : Int)]
  | 0, j, k, h, _ => by omega
  | n + 1, j, k, h, hk => by
    unfold longTo
    rw [row_append, longTo_len]
    by_cases e : j < n
    · have : (j + 1) * q ≤ n * q := Nat.mul_le_mul_right q e
      rw [Nat.succ_mul] at this
      rw [if_pos (by omega)]; exact long_row e hk
    · obtain rfl : j = n := by omega
      rw [if_neg (by omega), show j * q + k - j * q = k by omega, ext_row hk]
theorem lots1_row {q k : Nat} (hk : k < q) : row (lots q 1) k = [(k : Int)] := by
  have := long_row (q := q) (xss := lots q 0) (n := 1) (j := 0) (k := k) (by omega) hk
  rw [Nat.zero_mul, Nat.zero_add] at this
  exact this
theorem lots2_row {q x y : Nat} (hx : x < q) (hy : y < q) : row (lots q 2) (x * q + y) = [(x : Int), (y : Int)] := by
  have hl : (lots q 1).length = q := by rw [lots_len]; simp
  have := long_row (q := q) (xss := lots q 1) (n := (lots q 1).length) (j := x) (k := y) (by rw [hl]; exact hx) hy
  rw [lots1_row hx] at this
  exact this

theorem dot_lin2 {g q c : Int} {xs es f1 f2 hs : List Int} : ∀ n, (∀ j, j < n → Cg q (nth hs j) (nth es j + c * (nth f1 j - nth f2 j))) → Cg q (dotTo g xs hs n) (dotTo g xs es n + c * (dotTo g xs f1 n - dotTo g xs f2 n))
  | 0, _ => ⟨0, by simp [dotTo]⟩
  | n + 1, h => by
    obtain ⟨k, hk⟩ := dot_lin2 n (fun j hj => h j (by omega))
    obtain ⟨m, hm⟩ := h n (by omega)
    refine ⟨k + lg g (nth xs n) * m, ?_⟩
    rw [dotTo_succ, dotTo_succ, dotTo_succ, dotTo_succ, hk, hm]
    grind
/-- The line through two solutions, from a third one on, holds solutions only. -/
theorem sol_line {g : Int} {rows : List (List Int)} {makes es f1 f2 hs : List Int} (he : Lot g rows makes es) (e : mkAll g rows es = makes) (h1 : Lot g rows makes f1) (e1 : mkAll g rows f1 = makes) (h2 : Lot g rows makes f2) (e2 : mkAll g rows f2 = makes)
    (hh : Lot g rows makes hs) (c : Int) (h : ∀ j, j < unk rows → Cg (ord g) (nth hs j) (nth es j + c * (nth f1 j - nth f2 j))) : mkAll g rows hs = makes := by
  refine hh.solved.2 fun k hk => ?_
  have d0 := he.solved.1 e k hk
  have d1 := h1.solved.1 e1 k hk
  have d2 := h2.solved.1 e2 k hk
  have d := dot_lin2 (g := g) (q := ord g) (c := c) (xs := row rows k) (unk rows) h
  unfold dotR at *
  rw [he.len] at d0; rw [h1.len] at d1; rw [h2.len] at d2; rw [hh.len]
  obtain ⟨a0, b0⟩ := d0
  obtain ⟨a1, b1⟩ := d1
  obtain ⟨a2, b2⟩ := d2
  refine d.trans ⟨a0 + c * (a1 - a2), ?_⟩
  rw [b0, b1, b2]; grind
/-- Differences of solutions make 1 everywhere. -/
def onesTo : Nat → List Int
  | 0 => []
  | k + 1 => onesTo k ++ [1]
theorem onesTo_len : ∀ n, (onesTo n).length = n
  | 0 => rfl
  | n + 1 => by unfold onesTo; rw [List.length_append, onesTo_len n]; rfl
theorem onesTo_nth : ∀ n k, k < n → nth (onesTo n) k = 1
  | 0, k, h => by omega
  | n + 1, k, h => by
    unfold onesTo
    rw [nth_app, onesTo_len]
    by_cases e : k < n
    · rw [if_pos e]; exact onesTo_nth n k e
    · obtain rfl : k = n := by omega
      rw [if_neg e, if_pos rfl]
theorem ones_cl {g : Int} {rows : List (List Int)} {makes : List Int} (h : Cl g rows makes) : Cl g rows (onesTo rows.length) :=
  ⟨h.g0, h.g4, h.r1, h.r3, onesTo_len _, h.u1, h.u2, h.row, allEl_yes fun j hj => by rw [onesTo_len] at hj; rw [onesTo_nth _ j hj]; exact one_el h.g0 h.g4⟩
/-- The first n places of the differences of two lots, by the order. -/
def apartTo (g : Int) (f1 f2 : List Int) : Nat → List Int
  | 0 => []
  | k + 1 => apartTo g f1 f2 k ++ [(nth f1 k - nth f2 k) % ord g]
theorem apartTo_len (g : Int) (f1 f2 : List Int) : ∀ k, (apartTo g f1 f2 k).length = k
  | 0 => rfl
  | k + 1 => by unfold apartTo; rw [List.length_append, apartTo_len g f1 f2 k]; rfl
theorem apartTo_nth (g : Int) (f1 f2 : List Int) : ∀ n k, k < n → nth (apartTo g f1 f2 n) k = (nth f1 k - nth f2 k) % ord g
  | 0, k, h => by omega
  | n + 1, k, h => by
    unfold apartTo
    rw [nth_app, apartTo_len]
    by_cases e : k < n
    · rw [if_pos e]; exact apartTo_nth g f1 f2 n k e
    · obtain rfl : k = n := by omega
      rw [if_neg e, if_pos rfl]
def apartAll (g : Int) (f1 f2 : List Int) : List Int := apartTo g f1 f2 f1.length
theorem lg_one {g : Int} (h0 : 0 ≤ g) (h4 : g < 4) : Cg (ord g) (lg g 1) 0 := by
  have e := el_lg (one_el h0 h4)
  refine (gp_cg h0 h4).1 ?_
  rw [← e, gp_zero]
theorem apart_solves {g : Int} {rows : List (List Int)} {makes f1 f2 : List Int} (h1 : Lot g rows makes f1) (e1 : mkAll g rows f1 = makes) (h2 : Lot g rows makes f2) (e2 : mkAll g rows f2 = makes) : solvB g rows (onesTo rows.length) (apartAll g f1 f2) = true := by
  have hcl := ones_cl h1.cl
  have hlen : (apartAll g f1 f2).length = unk rows := by unfold apartAll; rw [apartTo_len]; exact h1.len
  have hl : Lot g rows (onesTo rows.length) (apartAll g f1 f2) := ⟨hcl, hlen, allEx_yes fun j hj => by
    rw [hlen] at hj
    rw [show nth (apartAll g f1 f2) j = _ from apartTo_nth g f1 f2 _ j (by rw [h1.len]; exact hj)]
    exact ex_of_mod hcl.g0 hcl.g4 _⟩
  refine solv_true.2 ⟨hl, hl.solved.2 fun k hk => ?_⟩
  rw [onesTo_nth _ k hk]
  have d1 := h1.solved.1 e1 k hk
  have d2 := h2.solved.1 e2 k hk
  have d := dot_lin2 (g := g) (q := ord g) (c := 1) (xs := row rows k) (es := []) (f1 := f1) (f2 := f2) (hs := apartAll g f1 f2) (unk rows) (fun j hj => by
    rw [show nth (apartAll g f1 f2) j = _ from apartTo_nth g f1 f2 _ j (by rw [h1.len]; exact hj), show nth [] j = 0 from rfl]
    exact (Cg.rem _ _).trans ⟨0, by grind⟩)
  have z : ∀ n, dotTo g (row rows k) [] n = 0 := fun n => by
    induction n with
    | zero => rfl
    | succ n ih => rw [dotTo_succ, ih, show nth [] n = 0 from rfl]; grind
  rw [z] at d
  unfold dotR at *
  rw [h1.len] at d1; rw [h2.len] at d2; rw [hlen]
  obtain ⟨a1, b1⟩ := d1
  obtain ⟨a2, b2⟩ := d2
  refine (d.trans ⟨a1 - a2, ?_⟩).trans (lg_one hcl.g0 hcl.g4).symm
  rw [b1, b2]; grind

theorem ord_inv {g : Int} (g0 : 0 ≤ g) (g4 : g < 4) {a b : Nat} (ha : (a : Int) < ord g) (hb : (b : Int) < ord g) (hne : a ≠ b) : ∃ c : Int, Cg (ord g) (((a : Int) - b) * c) 1 := by
  have ho := ord_bd g0 g4
  have hd : exB g (((a : Int) - b) % ord g) = true := ex_of_mod g0 g4 _
  have hd0 : ((a : Int) - b) % ord g ≠ 0 := by
    intro h
    obtain ⟨k, hk⟩ := cg_mod.1 (show ((a : Int) - b) % ord g = 0 % ord g by rw [h]; simp)
    have : k = 0 := by
      rcases Int.lt_trichotomy k 0 with hk' | hk' | hk'
      · have : ord g * k ≤ ord g * (-1) := Int.mul_le_mul_of_nonneg_left (by omega) (by omega)
        omega
      · exact hk'
      · have : ord g * 1 ≤ ord g * k := Int.mul_le_mul_of_nonneg_left (by omega) (by omega)
        omega
    subst this
    simp at hk
    omega
  have hb := (back_prod hd).resolve_left (fun h => hd0 h.2)
  refine ⟨gback g (((a : Int) - b) % ord g), Cg.trans ?_ (cg_mod.1 (show ((a : Int) - b) % ord g * gback g (((a : Int) - b) % ord g) % ord g = 1 % ord g by rw [hb.2.2, Int.emod_eq_of_lt (by omega) (by omega)]))⟩
  exact cg_mod.1 (modmul _ _ _).symm

theorem sols_count {g : Int} {rows : List (List Int)} {makes : List Int} (hcl : Cl g rows makes) : ∃ m, (sols g rows makes).length = 0 ∨ (sols g rows makes).length = (ord g).toNat ^ m := by
  have ho := ord_bd hcl.g0 hcl.g4
  obtain ⟨q, hq⟩ : ∃ q : Nat, (ord g).toNat = q := ⟨_, rfl⟩
  have hqi : ord g = (q : Int) := by omega
  have q2 : 2 ≤ q := by omega
  have lot : ∀ {es : List Int}, solvB g rows makes es = true → Lot g rows makes es ∧ mkAll g rows es = makes := fun h => solv_true.1 h
  have inv : ∀ a b : Nat, a < q → b < q → a ≠ b → ∃ c : Int, Cg q (((a : Int) - b) * c) 1 := fun a b ha hb hne => by
    have := ord_inv hcl.g0 hcl.g4 (a := a) (b := b) (by omega) (by omega) hne
    rwa [hqi] at this
  rw [sols_yes (clB_true.2 hcl), solTo_count, lots_len, hq]
  have hu : unk rows = 1 ∨ unk rows = 2 := by have := hcl.u1; have := hcl.u2; omega
  rcases hu with hu | hu
  · rw [hu, Nat.pow_one]
    have hr : ∀ k, k < q → solvB g rows makes (row (lots q 1) k) = solvB g rows makes [(k : Int)] := fun k hk => by rw [lots1_row hk]
    have hL : ∀ k : Nat, k < q → Lot g rows makes [(k : Int)] := fun k hk => ⟨hcl, by rw [hu]; rfl, by unfold allEx; simp; exact exB_true.2 ⟨⟨hcl.g0, hcl.g4⟩, by omega, by omega⟩⟩
    have := ansTo_dich (h := fun k => solvB g rows makes (row (lots q 1) k)) (q := q) fun a b ha hb hne e1 e2 c hc => by
      simp only [hr a ha, hr b hb, hr c hc] at e1 e2 ⊢
      obtain ⟨l1, m1⟩ := lot e1
      obtain ⟨l2, m2⟩ := lot e2
      obtain ⟨i, j, hi⟩ := inv a b ha hb hne
      refine solv_true.2 ⟨hL c hc, sol_line l1 m1 l1 m1 l2 m2 (hL c hc) (((c : Int) - a) * i) fun k hk => ?_⟩
      obtain rfl : k = 0 := by omega
      show Cg (ord g) (c : Int) (a + ((c : Int) - a) * i * ((a : Int) - b))
      rw [hqi]
      exact ⟨-(((c : Int) - a) * j), by grind⟩
    rcases this with h | h
    · have : ansTo (fun k => solvB g rows makes (row (lots q 1) k)) q = 0 ∨ ansTo (fun k => solvB g rows makes (row (lots q 1) k)) q = 1 := by omega
      rcases this with e | e
      · exact ⟨0, .inl e⟩
      · exact ⟨0, .inr (by rw [e]; rfl)⟩
    · exact ⟨1, .inr (by rw [ansTo_all h]; simp)⟩
  · rw [hu, Nat.pow_two, ansTo_rows]
    have hr : ∀ x y, x < q → y < q → solvB g rows makes (row (lots q 2) (x * q + y)) = solvB g rows makes [(x : Int), (y : Int)] := fun x y hx hy => by rw [lots2_row hx hy]
    have hL : ∀ x y : Nat, x < q → y < q → Lot g rows makes [(x : Int), (y : Int)] := fun x y hx hy => ⟨hcl, by rw [hu]; rfl, by
      unfold allEx; simp; exact ⟨exB_true.2 ⟨⟨hcl.g0, hcl.g4⟩, by omega, by omega⟩, exB_true.2 ⟨⟨hcl.g0, hcl.g4⟩, by omega, by omega⟩⟩⟩
    refine count2 (q := q) (h := fun x y => solvB g rows makes (row (lots q 2) (x * q + y))) q2 inv fun x y x1 y1 x2 y2 x' y' a1 a2 a3 a4 a5 a6 a7 a8 e0 e1 e2 c c1 c2 => ?_
    simp only [hr _ _ a1 a2, hr _ _ a3 a4, hr _ _ a5 a6, hr _ _ a7 a8] at e0 e1 e2 ⊢
    obtain ⟨l0, m0⟩ := lot e0
    obtain ⟨l1, m1⟩ := lot e1
    obtain ⟨l2, m2⟩ := lot e2
    refine solv_true.2 ⟨hL _ _ a7 a8, sol_line l0 m0 l1 m1 l2 m2 (hL _ _ a7 a8) c fun k hk => ?_⟩
    rw [hqi]
    match k, hk with
    | 0, _ => exact c1
    | 1, _ => exact c2
    | k + 2, hk => omega
end Go.Proofs.YtclihkcigppgjaaDoor
