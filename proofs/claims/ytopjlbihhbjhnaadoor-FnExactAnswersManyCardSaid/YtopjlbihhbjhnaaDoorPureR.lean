/- Plain mathematics of relations: rows, what they make, all lots of exponents, talks on all rows: no program. -/
import Derived.Test.YtopjlbihhbjhnaaDoorPureT
namespace Go.Proofs.YtopjlbihhbjhnaaDoor

/-- The row at place j. -/
def row (xss : List (List Int)) (j : Nat) : List Int := xss.getD j []
theorem row_get {xss : List (List Int)} {j : Nat} (h : j < xss.length) : row xss j = xss[j] := by
  unfold row; rw [List.getD_eq_getElem?_getD, List.getElem?_eq_getElem h]; rfl
theorem row_mem {xss : List (List Int)} {j : Nat} (h : j < xss.length) : row xss j ∈ xss := by rw [row_get h]; exact List.getElem_mem _
theorem row_out {xss : List (List Int)} {j : Nat} (h : xss.length ≤ j) : row xss j = [] := by unfold row; rw [List.getD_eq_getElem?_getD, List.getElem?_eq_none h]; rfl
theorem row_of {xss : List (List Int)} {ys : List Int} (h : ys ∈ xss) : ∃ j, j < xss.length ∧ row xss j = ys := by
  obtain ⟨j, hj, e⟩ := List.getElem_of_mem h
  exact ⟨j, hj, by rw [row_get hj]; exact e⟩
theorem nth_of {xs : List Int} {y : Int} (h : y ∈ xs) : ∃ j, j < xs.length ∧ nth xs j = y := by
  obtain ⟨j, hj, e⟩ := List.getElem_of_mem h
  exact ⟨j, hj, by rw [nth_get hj]; exact e⟩

def allEl (g : Int) (xs : List Int) : Bool := xs.all (elB g)
def allEx (g : Int) (xs : List Int) : Bool := xs.all (exB g)
theorem allEl_yes {g : Int} {xs : List Int} (h : ∀ j, j < xs.length → elB g (nth xs j) = true) : allEl g xs = true := by
  unfold allEl; rw [List.all_eq_true]; intro x hx
  obtain ⟨j, hj, rfl⟩ := nth_of hx; exact h j hj
theorem allEl_at {g : Int} {xs : List Int} (h : allEl g xs = true) {j : Nat} (hj : j < xs.length) : elB g (nth xs j) = true := List.all_eq_true.1 h _ (nth_mem hj)
theorem allEl_no {g : Int} {xs : List Int} {j : Nat} (hj : j < xs.length) (h : elB g (nth xs j) = false) : allEl g xs = false := by
  cases hb : allEl g xs
  · rfl
  · rw [allEl_at hb hj] at h; cases h
theorem allEx_yes {g : Int} {xs : List Int} (h : ∀ j, j < xs.length → exB g (nth xs j) = true) : allEx g xs = true := by
  unfold allEx; rw [List.all_eq_true]; intro x hx
  obtain ⟨j, hj, rfl⟩ := nth_of hx; exact h j hj
theorem allEx_at {g : Int} {xs : List Int} (h : allEx g xs = true) {j : Nat} (hj : j < xs.length) : exB g (nth xs j) = true := List.all_eq_true.1 h _ (nth_mem hj)
theorem allEx_no {g : Int} {xs : List Int} {j : Nat} (hj : j < xs.length) (h : exB g (nth xs j) = false) : allEx g xs = false := by
  cases hb : allEx g xs
  · rfl
  · rw [allEx_at hb hj] at h; cases h

/-- How many unknown exponents. -/
def unk (rows : List (List Int)) : Nat := (row rows 0).length
def rowOk (g : Int) (u : Nat) (xs : List Int) : Bool := decide (xs.length = u) && allEl g xs
structure Cl (g : Int) (rows : List (List Int)) (makes : List Int) : Prop where
  g0 : 0 ≤ g
  g4 : g < 4
  r1 : 1 ≤ rows.length
  r3 : rows.length ≤ 3
  m : makes.length = rows.length
  u1 : 1 ≤ unk rows
  u2 : unk rows ≤ 2
  row : ∀ j, j < rows.length → (row rows j).length = unk rows ∧ allEl g (row rows j) = true
  makes : allEl g makes = true
def clB (g : Int) (rows : List (List Int)) (makes : List Int) : Bool :=
  gok g && (decide (1 ≤ rows.length) && (decide (rows.length ≤ 3) && (decide (makes.length = rows.length) && (decide (1 ≤ unk rows) && (decide (unk rows ≤ 2) && (rows.all (rowOk g (unk rows)) && allEl g makes))))))
theorem clB_true {g : Int} {rows : List (List Int)} {makes : List Int} : clB g rows makes = true ↔ Cl g rows makes := by
  unfold clB
  simp only [Bool.and_eq_true, gok_true, decide_eq_true_eq, List.all_eq_true]
  constructor
  · rintro ⟨⟨h0, h4⟩, h1, h2, h3, h5, h6, h7, h8⟩
    refine ⟨h0, h4, h1, h2, h3, h5, h6, fun j hj => ?_, h8⟩
    have := h7 _ (row_mem hj)
    unfold rowOk at this; simpa using this
  · intro h
    refine ⟨⟨h.g0, h.g4⟩, h.r1, h.r3, h.m, h.u1, h.u2, fun xs hx => ?_, h.makes⟩
    obtain ⟨j, hj, rfl⟩ := row_of hx
    have := h.row j hj
    unfold rowOk; simp [this.1, this.2]
theorem clB_false {g : Int} {rows : List (List Int)} {makes : List Int} (h : ¬ Cl g rows makes) : clB g rows makes = false := by
  cases hb : clB g rows makes
  · rfl
  · exact absurd (clB_true.1 hb) h
theorem cl_false {g : Int} {rows : List (List Int)} {makes : List Int} (h : clB g rows makes = false) : ¬ Cl g rows makes := fun k => by rw [clB_true.2 k] at h; cases h

/-- An exponent for each unknown one. -/
structure Lot (g : Int) (rows : List (List Int)) (makes es : List Int) : Prop where
  cl : Cl g rows makes
  len : es.length = unk rows
  ex : allEx g es = true
def lotB (g : Int) (rows : List (List Int)) (makes es : List Int) : Bool := clB g rows makes && (decide (es.length = unk rows) && allEx g es)
theorem lotB_true {g : Int} {rows : List (List Int)} {makes es : List Int} : lotB g rows makes es = true ↔ Lot g rows makes es := by
  unfold lotB
  simp only [Bool.and_eq_true, clB_true, decide_eq_true_eq]
  exact ⟨fun ⟨a, b, c⟩ => ⟨a, b, c⟩, fun h => ⟨h.cl, h.len, h.ex⟩⟩
theorem lotB_false {g : Int} {rows : List (List Int)} {makes es : List Int} (h : ¬ Lot g rows makes es) : lotB g rows makes es = false := by
  cases hb : lotB g rows makes es
  · rfl
  · exact absurd (lotB_true.1 hb) h

/-- What the first j places of a row make. -/
def prodTo (g : Int) (xs es : List Int) : Nat → Int
  | 0 => 1
  | j + 1 => tim g (prodTo g xs es j) (gpow g (nth xs j) (nth es j))
theorem prodTo_succ (g : Int) (xs es : List Int) (j : Nat) : prodTo g xs es (j + 1) = tim g (prodTo g xs es j) (gpow g (nth xs j) (nth es j)) := rfl
/-- What the first k rows make. -/
def mkTo (g : Int) (rows : List (List Int)) (es : List Int) : Nat → List Int
  | 0 => []
  | k + 1 => mkTo g rows es k ++ [prodTo g (row rows k) es es.length]
theorem mkTo_succ (g : Int) (rows : List (List Int)) (es : List Int) (k : Nat) : mkTo g rows es (k + 1) = mkTo g rows es k ++ [prodTo g (row rows k) es es.length] := rfl
theorem mkTo_len (g : Int) (rows : List (List Int)) (es : List Int) : ∀ k, (mkTo g rows es k).length = k
  | 0 => rfl
  | k + 1 => by rw [mkTo_succ, List.length_append, mkTo_len g rows es k]; rfl
theorem nth_app {xs : List Int} {y : Int} {j : Nat} : nth (xs ++ [y]) j = if j < xs.length then nth xs j else if j = xs.length then y else 0 := by
  unfold nth
  rw [List.getD_eq_getElem?_getD, List.getD_eq_getElem?_getD]
  by_cases h : j < xs.length
  · rw [if_pos h, List.getElem?_append_left h]
  · rw [if_neg h, List.getElem?_append_right (by omega)]
    by_cases e : j = xs.length
    · rw [if_pos e, e, Nat.sub_self]; rfl
    · rw [if_neg e, List.getElem?_eq_none (by simp; omega)]; rfl
theorem mkTo_nth (g : Int) (rows : List (List Int)) (es : List Int) : ∀ n k, k < n → nth (mkTo g rows es n) k = prodTo g (row rows k) es es.length
  | 0, k, h => by omega
  | n + 1, k, h => by
    rw [mkTo_succ, nth_app, mkTo_len]
    by_cases e : k < n
    · rw [if_pos e]; exact mkTo_nth g rows es n k e
    · obtain rfl : k = n := by omega
      rw [if_neg e, if_pos rfl]
def mkAll (g : Int) (rows : List (List Int)) (es : List Int) : List Int := mkTo g rows es rows.length
theorem mkAll_len (g : Int) (rows : List (List Int)) (es : List Int) : (mkAll g rows es).length = rows.length := mkTo_len _ _ _ _
def rmk (g : Int) (rows : List (List Int)) (makes es : List Int) : List Int := if lotB g rows makes es then mkAll g rows es else []
theorem rmk_yes {g : Int} {rows : List (List Int)} {makes es : List Int} (h : lotB g rows makes es = true) : rmk g rows makes es = mkAll g rows es := by simp [rmk, h]
theorem rmk_no {g : Int} {rows : List (List Int)} {makes es : List Int} (h : lotB g rows makes es = false) : rmk g rows makes es = [] := by simp [rmk, h]
theorem rmk_len (g : Int) (rows : List (List Int)) (makes es : List Int) : (rmk g rows makes es).length ≤ 3 := by
  cases h : lotB g rows makes es
  · rw [rmk_no h]; simp
  · rw [rmk_yes h, mkAll_len]; exact (lotB_true.1 h).cl.r3
def solvB (g : Int) (rows : List (List Int)) (makes es : List Int) : Bool := lotB g rows makes es && sameB (mkAll g rows es) makes
theorem solv_no {g : Int} {rows : List (List Int)} {makes es : List Int} (h : lotB g rows makes es = false) : solvB g rows makes es = false := by simp [solvB, h]
theorem solv_yes {g : Int} {rows : List (List Int)} {makes es : List Int} (h : lotB g rows makes es = true) : solvB g rows makes es = sameB (mkAll g rows es) makes := by simp [solvB, h]

theorem one_el {g : Int} (h0 : 0 ≤ g) (h4 : g < 4) : elB g 1 = true := by rcases g_cases h0 h4 with rfl | rfl | rfl | rfl <;> decide
theorem ex_pow {g n : Int} (hx : exB g n = true) : -9999 ≤ n ∧ n ≤ 9999 := by
  obtain ⟨⟨h0, h4⟩, n0, n1⟩ := exB_true.1 hx
  have := ord_bd h0 h4; omega
theorem gpow_ex {g a n : Int} (ha : elB g a = true) (hx : exB g n = true) : gpow g a n = gp g a n := gpow_gp ha (ex_pow hx).1 (ex_pow hx).2
/-- What a row makes so far is an element. -/
theorem prodTo_el {g : Int} {xs es : List Int} (h0 : 0 ≤ g) (h4 : g < 4) (hx : allEl g xs = true) (he : allEx g es = true) : ∀ j, j ≤ xs.length → j ≤ es.length → elB g (prodTo g xs es j) = true
  | 0, _, _ => one_el h0 h4
  | j + 1, h1, h2 => by
    rw [prodTo_succ]
    refine tim_el (prodTo_el h0 h4 hx he j (by omega) (by omega)) ?_
    rw [gpow_ex (allEl_at hx (by omega)) (allEx_at he (by omega))]
    exact gp_el (allEl_at hx (by omega)) _
theorem Lot.prod_el {g : Int} {rows : List (List Int)} {makes es : List Int} (h : Lot g rows makes es) {k : Nat} (hk : k < rows.length) {j : Nat} (hj : j ≤ es.length) : elB g (prodTo g (row rows k) es j) = true :=
  prodTo_el h.cl.g0 h.cl.g4 (h.cl.row k hk).2 h.ex j (by have := (h.cl.row k hk).1; have := h.len; omega) hj
theorem Lot.mk_el {g : Int} {rows : List (List Int)} {makes es : List Int} (h : Lot g rows makes es) : allEl g (mkAll g rows es) = true := allEl_yes fun j hj => by
  rw [mkAll_len] at hj
  rw [show nth (mkAll g rows es) j = _ from mkTo_nth g rows es _ j hj]
  exact h.prod_el hj (Nat.le_refl _)

/-- A list of elements, each times the power of what its row makes. -/
def timesTo (g : Int) (xs makes : List Int) (p : Int) : Nat → List Int
  | 0 => []
  | k + 1 => timesTo g xs makes p k ++ [tim g (nth xs k) (gpow g (nth makes k) p)]
theorem timesTo_succ (g : Int) (xs makes : List Int) (p : Int) (k : Nat) : timesTo g xs makes p (k + 1) = timesTo g xs makes p k ++ [tim g (nth xs k) (gpow g (nth makes k) p)] := rfl
theorem timesTo_len (g : Int) (xs makes : List Int) (p : Int) : ∀ k, (timesTo g xs makes p k).length = k
  | 0 => rfl
  | k + 1 => by rw [timesTo_succ, List.length_append, timesTo_len g xs makes p k]; rfl
theorem timesTo_nth (g : Int) (xs makes : List Int) (p : Int) : ∀ n k, k < n → nth (timesTo g xs makes p n) k = tim g (nth xs k) (gpow g (nth makes k) p)
  | 0, k, h => by omega
  | n + 1, k, h => by
    rw [timesTo_succ, nth_app, timesTo_len]
    by_cases e : k < n
    · rw [if_pos e]; exact timesTo_nth g xs makes p n k e
    · obtain rfl : k = n := by omega
      rw [if_neg e, if_pos rfl]
def timesAll (g : Int) (xs makes : List Int) (p : Int) : List Int := timesTo g xs makes p xs.length
theorem timesAll_len (g : Int) (xs makes : List Int) (p : Int) : (timesAll g xs makes p).length = xs.length := timesTo_len _ _ _ _ _

theorem list_eq {xs ys : List Int} (hl : xs.length = ys.length) (h : ∀ j, j < xs.length → nth xs j = nth ys j) : xs = ys := by
  refine List.ext_getElem hl fun j h1 h2 => ?_
  rw [← nth_get h1, ← nth_get h2]; exact h j h1
def wokB (g : Int) (rows : List (List Int)) (makes says : List Int) (ask : Int) (tells : List Int) : Bool :=
  clB g rows makes && (decide (says.length = rows.length) && (allEl g says && (lotB g rows makes tells && (exB g ask && sameB (mkAll g rows tells) (timesAll g says makes ask)))))
structure Wok (g : Int) (rows : List (List Int)) (makes says : List Int) (ask : Int) (tells : List Int) : Prop where
  lot : Lot g rows makes tells
  len : says.length = rows.length
  el : allEl g says = true
  ex : exB g ask = true
  same : mkAll g rows tells = timesAll g says makes ask
theorem wok_true {g : Int} {rows : List (List Int)} {makes says : List Int} {ask : Int} {tells : List Int} : wokB g rows makes says ask tells = true ↔ Wok g rows makes says ask tells := by
  unfold wokB sameB
  simp only [Bool.and_eq_true, clB_true, lotB_true, decide_eq_true_eq]
  exact ⟨fun ⟨_, b, c, d, e, f⟩ => ⟨d, b, c, e, f⟩, fun h => ⟨h.lot.cl, h.len, h.el, h.lot, h.ex, h.same⟩⟩
theorem wok_false {g : Int} {rows : List (List Int)} {makes says : List Int} {ask : Int} {tells : List Int} (h : ¬ Wok g rows makes says ask tells) : wokB g rows makes says ask tells = false := by
  cases hb : wokB g rows makes says ask tells
  · rfl
  · exact absurd (wok_true.1 hb) h

def tellsTo (g : Int) (es further : List Int) (ask : Int) : Nat → List Int
  | 0 => []
  | k + 1 => tellsTo g es further ask k ++ [(nth further k + ask * nth es k) % ord g]
theorem tellsTo_succ (g : Int) (es further : List Int) (ask : Int) (k : Nat) : tellsTo g es further ask (k + 1) = tellsTo g es further ask k ++ [(nth further k + ask * nth es k) % ord g] := rfl
theorem tellsTo_len (g : Int) (es further : List Int) (ask : Int) : ∀ k, (tellsTo g es further ask k).length = k
  | 0 => rfl
  | k + 1 => by rw [tellsTo_succ, List.length_append, tellsTo_len g es further ask k]; rfl
theorem tellsTo_nth (g : Int) (es further : List Int) (ask : Int) : ∀ n k, k < n → nth (tellsTo g es further ask n) k = (nth further k + ask * nth es k) % ord g
  | 0, k, h => by omega
  | n + 1, k, h => by
    rw [tellsTo_succ, nth_app, tellsTo_len]
    by_cases e : k < n
    · rw [if_pos e]; exact tellsTo_nth g es further ask n k e
    · obtain rfl : k = n := by omega
      rw [if_neg e, if_pos rfl]
def tellsAll (g : Int) (es further : List Int) (ask : Int) : List Int := tellsTo g es further ask es.length

def fromTo (g : Int) (t1 t2 : List Int) (a1 a2 : Int) : Nat → List Int
  | 0 => []
  | k + 1 => fromTo g t1 t2 a1 a2 k ++ [secretOf g a1 (nth t1 k) a2 (nth t2 k)]
theorem fromTo_succ (g : Int) (t1 t2 : List Int) (a1 a2 : Int) (k : Nat) : fromTo g t1 t2 a1 a2 (k + 1) = fromTo g t1 t2 a1 a2 k ++ [secretOf g a1 (nth t1 k) a2 (nth t2 k)] := rfl
theorem fromTo_len (g : Int) (t1 t2 : List Int) (a1 a2 : Int) : ∀ k, (fromTo g t1 t2 a1 a2 k).length = k
  | 0 => rfl
  | k + 1 => by rw [fromTo_succ, List.length_append, fromTo_len g t1 t2 a1 a2 k]; rfl
theorem fromTo_nth (g : Int) (t1 t2 : List Int) (a1 a2 : Int) : ∀ n k, k < n → nth (fromTo g t1 t2 a1 a2 n) k = secretOf g a1 (nth t1 k) a2 (nth t2 k)
  | 0, k, h => by omega
  | n + 1, k, h => by
    rw [fromTo_succ, nth_app, fromTo_len]
    by_cases e : k < n
    · rw [if_pos e]; exact fromTo_nth g t1 t2 a1 a2 n k e
    · obtain rfl : k = n := by omega
      rw [if_neg e, if_pos rfl]

/-- A list made longer by each of the first n numbers. -/
def extTo (xs : List Int) : Nat → List (List Int)
  | 0 => []
  | n + 1 => extTo xs n ++ [xs ++ [(n : Int)]]
def longTo (q : Nat) (xss : List (List Int)) : Nat → List (List Int)
  | 0 => []
  | j + 1 => longTo q xss j ++ extTo (row xss j) q
def lots (q : Nat) : Nat → List (List Int)
  | 0 => [[]]
  | m + 1 => longTo q (lots q m) (lots q m).length
theorem extTo_len (xs : List Int) : ∀ n, (extTo xs n).length = n
  | 0 => rfl
  | n + 1 => by unfold extTo; rw [List.length_append, extTo_len xs n]; rfl
theorem longTo_len (q : Nat) (xss : List (List Int)) : ∀ j, (longTo q xss j).length = j * q
  | 0 => by unfold longTo; simp
  | j + 1 => by unfold longTo; rw [List.length_append, longTo_len q xss j, extTo_len, Nat.succ_mul]
theorem lots_len (q : Nat) : ∀ m, (lots q m).length = q ^ m
  | 0 => rfl
  | m + 1 => by unfold lots; rw [longTo_len, lots_len q m, Nat.pow_succ]
theorem ext_mem {xs ys : List Int} {n : Nat} : ys ∈ extTo xs n ↔ ∃ k : Nat, k < n ∧ ys = xs ++ [(k : Int)] := by
  induction n with
  | zero => simp [extTo]
  | succ n ih =>
    unfold extTo
    rw [List.mem_append, ih, List.mem_singleton]
    constructor
    · rintro (⟨k, hk, e⟩ | e)
      · exact ⟨k, by omega, e⟩
      · exact ⟨n, by omega, e⟩
    · rintro ⟨k, hk, e⟩
      by_cases h : k < n
      · exact .inl ⟨k, h, e⟩
      · obtain rfl : k = n := by omega
        exact .inr e
theorem long_mem {q : Nat} {xss : List (List Int)} {ys : List Int} {n : Nat} : ys ∈ longTo q xss n ↔ ∃ j k : Nat, j < n ∧ k < q ∧ ys = row xss j ++ [(k : Int)] := by
  induction n with
  | zero => simp [longTo]
  | succ n ih =>
    unfold longTo
    rw [List.mem_append, ih, ext_mem]
    constructor
    · rintro (⟨j, k, hj, hk, e⟩ | ⟨k, hk, e⟩)
      · exact ⟨j, k, by omega, hk, e⟩
      · exact ⟨n, k, by omega, hk, e⟩
    · rintro ⟨j, k, hj, hk, e⟩
      by_cases h : j < n
      · exact .inl ⟨j, k, h, hk, e⟩
      · obtain rfl : j = n := by omega
        exact .inr ⟨k, hk, e⟩
theorem lots_mem {q : Nat} : ∀ {m : Nat} {ys : List Int}, ys ∈ lots q m ↔ ys.length = m ∧ ∀ y ∈ ys, 0 ≤ y ∧ y < q
  | 0, ys => by
    unfold lots
    rw [List.mem_singleton]
    constructor
    · rintro rfl; exact ⟨rfl, by simp⟩
    · rintro ⟨h, _⟩; exact List.length_eq_zero_iff.1 h
  | m + 1, ys => by
    unfold lots
    rw [long_mem]
    constructor
    · rintro ⟨j, k, hj, hk, rfl⟩
      obtain ⟨h1, h2⟩ := lots_mem.1 (row_mem hj)
      refine ⟨by simp [h1], fun y hy => ?_⟩
      rw [List.mem_append, List.mem_singleton] at hy
      rcases hy with hy | rfl
      · exact h2 y hy
      · omega
    · rintro ⟨h1, h2⟩
      have hne : ys ≠ [] := by rintro rfl; simp at h1
      have hx : ys.dropLast ∈ lots q m := lots_mem.2 ⟨by simp [h1], fun y hy => h2 y (List.dropLast_subset _ hy)⟩
      obtain ⟨j, hj, e⟩ := row_of hx
      obtain ⟨y0, y1⟩ := h2 _ (List.getLast_mem hne)
      refine ⟨j, (ys.getLast hne).toNat, hj, by omega, ?_⟩
      rw [e, Int.toNat_of_nonneg y0, List.dropLast_concat_getLast]

/-- The rows of a list that meet a condition. -/
def solTo (c : List Int → Bool) (xss : List (List Int)) : Nat → List (List Int)
  | 0 => []
  | k + 1 => if c (row xss k) then solTo c xss k ++ [row xss k] else solTo c xss k
theorem solTo_yes {c : List Int → Bool} {xss : List (List Int)} {k : Nat} (h : c (row xss k) = true) : solTo c xss (k + 1) = solTo c xss k ++ [row xss k] := by simp [solTo, h]
theorem solTo_no {c : List Int → Bool} {xss : List (List Int)} {k : Nat} (h : c (row xss k) = false) : solTo c xss (k + 1) = solTo c xss k := by simp [solTo, h]
theorem solTo_len (c : List Int → Bool) (xss : List (List Int)) : ∀ k, (solTo c xss k).length ≤ k
  | 0 => Nat.le_refl _
  | k + 1 => by
    have := solTo_len c xss k
    cases h : c (row xss k)
    · rw [solTo_no h]; omega
    · rw [solTo_yes h, List.length_append]; simp; omega
def sols (g : Int) (rows : List (List Int)) (makes : List Int) : List (List Int) :=
  if clB g rows makes then solTo (solvB g rows makes) (lots (ord g).toNat (unk rows)) ((ord g).toNat ^ unk rows) else []
theorem ex_lots {g : Int} {rows : List (List Int)} {makes es : List Int} (h : Cl g rows makes) : es ∈ lots (ord g).toNat (unk rows) ↔ Lot g rows makes es := by
  have ho := ord_bd h.g0 h.g4
  rw [lots_mem]
  constructor
  · rintro ⟨h1, h2⟩
    refine ⟨h, h1, allEx_yes fun j hj => ?_⟩
    have := h2 _ (nth_mem hj)
    exact exB_true.2 ⟨⟨h.g0, h.g4⟩, by omega, by omega⟩
  · intro hl
    refine ⟨hl.len, fun y hy => ?_⟩
    obtain ⟨j, hj, rfl⟩ := nth_of hy
    obtain ⟨_, a, b⟩ := exB_true.1 (allEx_at hl.ex hj)
    omega

end Go.Proofs.YtopjlbihhbjhnaaDoor
