/- Plain mathematics of chapter 8: colours of graphs, edges that fail, boxes, the best cheaters: no program. -/
import Derived.Test.YtimkmdedoacpfabDoorBGr
namespace Go.Proofs.YtimkmdedoacpfabDoor

/-- Colours for each point of a graph. -/
structure Fit (p : Int) (es cs : List Int) : Prop where
  gk : Gk p es
  len : (cs.length : Int) = p
  bd : ∀ j, j < cs.length → 0 ≤ nth cs j ∧ nth cs j ≤ 2
def c3B (cs : List Int) : Bool := cs.all fun x => decide (0 ≤ x) && decide (x ≤ 2)
def fitB (p : Int) (es cs : List Int) : Bool := gkB p es && (decide ((cs.length : Int) = p) && c3B cs)
theorem c3B_true {cs : List Int} : c3B cs = true ↔ ∀ j, j < cs.length → 0 ≤ nth cs j ∧ nth cs j ≤ 2 := by
  unfold c3B
  simp only [List.all_eq_true, Bool.and_eq_true, decide_eq_true_eq]
  constructor
  · intro h j hj; exact h _ (nth_mem hj)
  · intro h x hx
    obtain ⟨j, hj, rfl⟩ := nth_of hx; exact h j hj
theorem fitB_true {p : Int} {es cs : List Int} : fitB p es cs = true ↔ Fit p es cs := by
  unfold fitB
  simp only [Bool.and_eq_true, decide_eq_true_eq, gkB_true, c3B_true]
  exact ⟨fun ⟨a, b, c⟩ => ⟨a, b, c⟩, fun h => ⟨h.gk, h.len, h.bd⟩⟩
theorem fitB_false {p : Int} {es cs : List Int} (h : ¬ Fit p es cs) : fitB p es cs = false := by
  cases hb : fitB p es cs
  · rfl
  · exact absurd (fitB_true.1 hb) h
theorem Fit.app {p : Int} {es cs : List Int} (h : Fit p es cs) {x : Int} (h0 : 0 ≤ x) (h1 : x < p) : 0 ≤ app cs x ∧ app cs x ≤ 2 := h.bd _ (by have := h.len; omega)

/-- Whether both ends of an edge have the same colour. -/
def clash (cs : List Int) (e : Int) : Bool := decide (app cs (e.tdiv 10) = app cs (e.tmod 10))
def flsTo (cs es : List Int) : Nat → List Int
  | 0 => []
  | k + 1 => if clash cs (nth es k) then flsTo cs es k ++ [nth es k] else flsTo cs es k
def fls (cs es : List Int) : List Int := flsTo cs es es.length
theorem flsTo_yes {cs es : List Int} {k : Nat} (h : clash cs (nth es k) = true) : flsTo cs es (k + 1) = flsTo cs es k ++ [nth es k] := by simp [flsTo, h]
theorem flsTo_no {cs es : List Int} {k : Nat} (h : clash cs (nth es k) = false) : flsTo cs es (k + 1) = flsTo cs es k := by simp [flsTo, h]
theorem flsTo_len (cs es : List Int) : ∀ k, (flsTo cs es k).length ≤ k
  | 0 => Nat.le_refl _
  | k + 1 => by
    have := flsTo_len cs es k
    cases h : clash cs (nth es k)
    · rw [flsTo_no h]; omega
    · rw [flsTo_yes h, List.length_append]; simp; omega
theorem fls_len (cs es : List Int) : (fls cs es).length ≤ es.length := flsTo_len _ _ _
theorem flsTo_take {cs es : List Int} : ∀ {k : Nat}, k ≤ es.length → flsTo cs es k = (es.take k).filter (clash cs)
  | 0, _ => by simp [flsTo]
  | k + 1, h => by
    rw [List.take_succ_eq_append_getElem (by omega), List.filter_append, ← flsTo_take (by omega), flsTo, ← nth_get (by omega)]
    cases e : clash cs (nth es k) <;> simp [e]
theorem fls_filter (cs es : List Int) : fls cs es = es.filter (clash cs) := by
  unfold fls; rw [flsTo_take (Nat.le_refl _), List.take_length]
theorem fls_mem {cs es : List Int} {e : Int} (h : e ∈ fls cs es) : e ∈ es := by rw [fls_filter] at h; exact (List.mem_filter.1 h).1
theorem fls_has {cs es : List Int} {e : Int} : e ∈ fls cs es ↔ e ∈ es ∧ clash cs e = true := by rw [fls_filter]; exact List.mem_filter
theorem nth_repl {n j : Nat} : nth (List.replicate n (0 : Int)) j = 0 := by
  unfold nth
  rw [List.getD_eq_getElem?_getD, List.getElem?_replicate]
  split <;> rfl
/-- With all colours the same all edges fail. -/
theorem fls_same (n : Nat) (es : List Int) : fls (List.replicate n 0) es = es := by
  rw [fls_filter, List.filter_eq_self]
  intro e _
  simp [clash, app, nth_repl]
theorem repl_fit {p : Int} {es : List Int} (h : Gk p es) : Fit p es (List.replicate p.toNat 0) := ⟨h, by have := h.p1; simp; omega, fun j _ => by rw [nth_repl]; omega⟩
/-- The same edges fail where the same ends are alike. -/
theorem fls_alike {p : Int} {es cs ds : List Int} (hg : Gk p es) (h : ∀ a b : Nat, (a : Int) < p → (b : Int) < p → (nth cs a = nth cs b ↔ nth ds a = nth ds b)) : fls cs es = fls ds es := by
  rw [fls_filter, fls_filter]
  refine List.filter_congr fun e he => ?_
  have k := hg.mem he
  have := k.a0
  have := k.ab
  have := k.bp
  have := h (e.tdiv 10).toNat (e.tmod 10).toNat (by omega) (by omega)
  unfold clash app
  rw [decide_eq_decide]; exact this
theorem pnt_nth {cs o : List Int} {k : Nat} (h : k < cs.length) : nth (thn cs o) k = app o (nth cs k) := thenTo_nth _ _ _ _ h
theorem Fit.paint {p : Int} {es cs o : List Int} (h : Fit p es cs) (ho : Od o 3) : Fit p es (thn cs o) := by
  refine ⟨h.gk, by rw [thn_len]; exact h.len, fun j hj => ?_⟩
  rw [thn_len] at hj
  rw [pnt_nth hj]
  have := h.bd j hj
  have := ho.at_ (x := nth cs j) (by omega) (by omega)
  omega
theorem Fit.paint_fls {p : Int} {es cs o : List Int} (h : Fit p es cs) (ho : Od o 3) : fls (thn cs o) es = fls cs es := fls_alike h.gk fun a b ha hb => by
  have hl := h.len
  rw [pnt_nth (by omega), pnt_nth (by omega)]
  have x := h.bd a (by omega)
  have y := h.bd b (by omega)
  exact ⟨fun e => ho.at_inj (by omega) (by omega) (by omega) (by omega) e, fun e => by rw [e]⟩
theorem Fit.paint_back {p : Int} {es cs o : List Int} (h : Fit p es cs) (ho : Od o 3) : thn (thn cs o) (bck o) = cs := by
  refine list_eq (by rw [thn_len, thn_len]) fun j hj => ?_
  rw [thn_len, thn_len] at hj
  have x := h.bd j hj
  rw [pnt_nth (by rw [thn_len]; exact hj), pnt_nth hj, bck_at ho (by omega) (by omega)]

/-- The edges that fail, as FailsOf gives them. -/
def foL (p : Int) (es cs : List Int) : List Int := if fitB p es cs then fls cs es else []
theorem foL_yes {p : Int} {es cs : List Int} (h : fitB p es cs = true) : foL p es cs = fls cs es := by simp [foL, h]
theorem foL_no {p : Int} {es cs : List Int} (h : fitB p es cs = false) : foL p es cs = [] := by simp [foL, h]
theorem foL_few {p : Int} {es cs : List Int} : (foL p es cs).length ≤ 50 := by
  cases h : fitB p es cs
  · rw [foL_no h]; simp
  · rw [foL_yes h]
    have := fls_len cs es
    have := (fitB_true.1 h).gk.few
    omega
def cdB (p : Int) (es cs : List Int) : Bool := fitB p es cs && decide ((fls cs es).length = 0)
def pnB (p : Int) (es cs o : List Int) : Bool := fitB p es cs && odB o 3
def pnL (p : Int) (es cs o : List Int) : List Int := if pnB p es cs o then thn cs o else []
theorem pnL_yes {p : Int} {es cs o : List Int} (h : pnB p es cs o = true) : pnL p es cs o = thn cs o := by simp [pnL, h]
theorem pnL_no {p : Int} {es cs o : List Int} (h : pnB p es cs o = false) : pnL p es cs o = [] := by simp [pnL, h]
theorem pnB_true {p : Int} {es cs o : List Int} : pnB p es cs o = true ↔ Fit p es cs ∧ Od o 3 := by
  unfold pnB; rw [Bool.and_eq_true, fitB_true, odB_true]
theorem pnL_few {p : Int} {es cs o : List Int} : (pnL p es cs o).length ≤ 5 := by
  cases h : pnB p es cs o
  · rw [pnL_no h]; simp
  · obtain ⟨a, _⟩ := pnB_true.1 h
    rw [pnL_yes h, thn_len]
    have := a.len
    have := a.gk.p5
    omega


/-! ### all colours -/
def okC (es cs : List Int) : Bool := decide ((fls cs es).length = 0)
def cols (p : Int) (es : List Int) : List (List Int) := solTo (okC es) (lots 3 p.toNat) (3 ^ p.toNat)
def colsB (p : Int) (es : List Int) : List (List Int) := if gkB p es then cols p es else []
theorem colsB_yes {p : Int} {es : List Int} (h : gkB p es = true) : colsB p es = cols p es := by simp [colsB, h]
theorem colsB_no {p : Int} {es : List Int} (h : gkB p es = false) : colsB p es = [] := by simp [colsB, h]
theorem solTo_filter8 {c : List Int → Bool} {xss : List (List Int)} : ∀ {k : Nat}, k ≤ xss.length → solTo c xss k = (xss.take k).filter c
  | 0, _ => by simp [solTo]
  | k + 1, h => by
    rw [List.take_succ_eq_append_getElem (by omega), List.filter_append, ← solTo_filter8 (by omega), solTo, ← row_get (by omega)]
    cases e : c (row xss k) <;> simp [e]
theorem cols_filter (p : Int) (es : List Int) : cols p es = (lots 3 p.toNat).filter (okC es) := by
  unfold cols
  rw [solTo_filter8 (by rw [lots_len]; exact Nat.le_refl _), List.take_of_length_le (by rw [lots_len]; exact Nat.le_refl _)]
theorem lots_fit {p : Int} {es cs : List Int} (h : Gk p es) : cs ∈ lots 3 p.toNat ↔ Fit p es cs := by
  have := h.p1
  rw [lots_mem]
  constructor
  · rintro ⟨a, b⟩
    exact ⟨h, by omega, fun j hj => by have := b _ (nth_mem hj); omega⟩
  · intro k
    refine ⟨by have := k.len; omega, fun y hy => ?_⟩
    obtain ⟨j, hj, rfl⟩ := nth_of hy
    have := k.bd j hj; omega
theorem cols_mem {p : Int} {es cs : List Int} (h : Gk p es) : cs ∈ cols p es ↔ Fit p es cs ∧ fls cs es = [] := by
  rw [cols_filter, List.mem_filter, lots_fit h]
  unfold okC
  rw [decide_eq_true_eq, List.length_eq_zero_iff]
theorem ext_nodup (xs : List Int) : ∀ n, (extTo xs n).Pairwise RowLt
  | 0 => by simp [extTo]
  | n + 1 => by
    rw [extTo, List.pairwise_append]
    refine ⟨ext_nodup xs n, by simp, fun a ha b hb => ?_⟩
    obtain ⟨k, hk, rfl⟩ := ext_mem.1 ha
    rw [List.mem_singleton] at hb
    subst hb
    exact rowLt_last (by omega)
theorem long_asc {q : Nat} {xss : List (List Int)} {k : Nat} (hx : xss.Pairwise RowLt) (hl : ∀ j, j < xss.length → (row xss j).length = k) : ∀ n, n ≤ xss.length → (longTo q xss n).Pairwise RowLt
  | 0, _ => by simp [longTo]
  | n + 1, h => by
    rw [longTo, List.pairwise_append]
    refine ⟨long_asc hx hl n (by omega), ext_nodup _ _, fun a ha b hb => ?_⟩
    obtain ⟨j, i, hj, hi, rfl⟩ := long_mem.1 ha
    obtain ⟨i', hi', rfl⟩ := ext_mem.1 hb
    exact RowLt.more (by rw [hl j (by omega), hl n (by omega)]) (row_pair.1 hx j n hj (by omega))
theorem lots_asc (q : Nat) : ∀ m, (lots q m).Pairwise RowLt
  | 0 => by simp [lots]
  | m + 1 => long_asc (lots_asc q m) (fun j hj => (lots_mem.1 (row_mem hj)).1) _ (Nat.le_refl _)
theorem cols_nodup (p : Int) (es : List Int) : (cols p es).Nodup := by
  rw [cols_filter]
  exact ((lots_asc 3 _).imp fun h => h.ne).filter _

/-! ### P38: all colours come in sixes -/
/-- Colours of which the ends of an edge have these two. -/
def atE (e x y : Int) (cs : List Int) : Bool := decide (app cs (e.tdiv 10) = x) && decide (app cs (e.tmod 10) = y)
theorem at_le {p : Int} {es : List Int} (h : Gk p es) {e : Int} (he : Ed p e) {o : List Int} (ho : Od o 3) (x y : Int) :
    ((cols p es).filter (atE e x y)).length ≤ ((cols p es).filter (atE e (app o x) (app o y))).length := by
  refine map_le (fun c => thn c o) (fun c => thn c (bck o)) ((cols_nodup p es).filter _) fun c hc => ?_
  obtain ⟨hc, ha⟩ := List.mem_filter.1 hc
  obtain ⟨hf, h0⟩ := (cols_mem h).1 hc
  simp only [atE, Bool.and_eq_true, decide_eq_true_eq] at ha
  have hl := hf.len
  have := he.a0
  have := he.ab
  have := he.bp
  refine ⟨List.mem_filter.2 ⟨(cols_mem h).2 ⟨hf.paint ho, by rw [hf.paint_fls ho]; exact h0⟩, ?_⟩, hf.paint_back ho⟩
  simp only [atE, Bool.and_eq_true, decide_eq_true_eq]
  unfold app at ha ⊢
  rw [pnt_nth (by omega), pnt_nth (by omega), ha.1, ha.2]
  exact ⟨rfl, rfl⟩
theorem od3 : Od [0, 2, 1] 3 ∧ Od [1, 0, 2] 3 ∧ Od [1, 2, 0] 3 ∧ Od [2, 0, 1] 3 ∧ Od [2, 1, 0] 3 := by
  refine ⟨?_, ?_, ?_, ?_, ?_⟩ <;> exact odB_true.1 (by decide)
theorem at_same {p : Int} {es : List Int} (h : Gk p es) {e : Int} (he : Ed p e) {o : List Int} (ho : Od o 3) (x y : Int) (x0 : 0 ≤ x) (x2 : x ≤ 2) (y0 : 0 ≤ y) (y2 : y ≤ 2) :
    ((cols p es).filter (atE e (app o x) (app o y))).length = ((cols p es).filter (atE e x y)).length := by
  refine Nat.le_antisymm ?_ (at_le h he ho x y)
  have := at_le h he (bck_od ho) (app o x) (app o y)
  rwa [bck_at ho x0 (by omega), bck_at ho y0 (by omega)] at this
theorem six_sum {l : List (List Int)} {e : Int} : (∀ c, c ∈ l → (0 ≤ app c (e.tdiv 10) ∧ app c (e.tdiv 10) ≤ 2) ∧ (0 ≤ app c (e.tmod 10) ∧ app c (e.tmod 10) ≤ 2) ∧ app c (e.tdiv 10) ≠ app c (e.tmod 10)) →
    l.length = (l.filter (atE e 0 1)).length + (l.filter (atE e 0 2)).length + (l.filter (atE e 1 0)).length + (l.filter (atE e 1 2)).length + (l.filter (atE e 2 0)).length + (l.filter (atE e 2 1)).length := by
  induction l with
  | nil => intro _; rfl
  | cons c l ih =>
    intro h
    have ih := ih fun c hc => h c (List.mem_cons_of_mem _ hc)
    obtain ⟨⟨a0, a2⟩, ⟨b0, b2⟩, hne⟩ := h c List.mem_cons_self
    obtain ⟨a, ha⟩ : ∃ a, app c (e.tdiv 10) = a := ⟨_, rfl⟩
    obtain ⟨b, hb⟩ : ∃ b, app c (e.tmod 10) = b := ⟨_, rfl⟩
    rw [ha] at a0 a2 hne
    rw [hb] at b0 b2 hne
    have k : ∀ x y : Int, ((c :: l).filter (atE e x y)).length = (l.filter (atE e x y)).length + if a = x ∧ b = y then 1 else 0 := fun x y => by
      rw [List.filter_cons]
      have : atE e x y c = decide (a = x ∧ b = y) := by unfold atE; rw [ha, hb]; simp
      rw [this]
      by_cases h : a = x ∧ b = y <;> simp [h]
    rw [k, k, k, k, k, k, List.length_cons, ih]
    have hab : a = 0 ∨ a = 1 ∨ a = 2 := by omega
    have hbb : b = 0 ∨ b = 1 ∨ b = 2 := by omega
    clear k ih ha hb a0 a2 b0 b2 h
    rcases hab with rfl | rfl | rfl <;> rcases hbb with rfl | rfl | rfl <;> first | exact absurd rfl hne | (simp; omega)
theorem cols_six {p : Int} {es : List Int} (h : Gk p es) (hn : 0 < es.length) : (cols p es).length % 6 = 0 := by
  have he := h.ed 0 hn
  have hs := six_sum (l := cols p es) (e := nth es 0) fun c hc => by
    obtain ⟨hf, h0⟩ := (cols_mem h).1 hc
    have := he.a0
    have := he.ab
    have := he.bp
    refine ⟨hf.app (by omega) (by omega), hf.app (by omega) (by omega), fun hc' => ?_⟩
    have : nth es 0 ∈ fls c es := fls_has.2 ⟨nth_mem hn, by simp [clash, hc']⟩
    rw [h0] at this; cases this
  obtain ⟨o1, o2, o3, o4, o5⟩ := od3
  have e1 : ((cols p es).filter (atE (nth es 0) 0 2)).length = ((cols p es).filter (atE (nth es 0) 0 1)).length := at_same h he o1 0 1 (by omega) (by omega) (by omega) (by omega)
  have e2 : ((cols p es).filter (atE (nth es 0) 1 0)).length = ((cols p es).filter (atE (nth es 0) 0 1)).length := at_same h he o2 0 1 (by omega) (by omega) (by omega) (by omega)
  have e3 : ((cols p es).filter (atE (nth es 0) 1 2)).length = ((cols p es).filter (atE (nth es 0) 0 1)).length := at_same h he o3 0 1 (by omega) (by omega) (by omega) (by omega)
  have e4 : ((cols p es).filter (atE (nth es 0) 2 0)).length = ((cols p es).filter (atE (nth es 0) 0 1)).length := at_same h he o4 0 1 (by omega) (by omega) (by omega) (by omega)
  have e5 : ((cols p es).filter (atE (nth es 0) 2 1)).length = ((cols p es).filter (atE (nth es 0) 0 1)).length := at_same h he o5 0 1 (by omega) (by omega) (by omega) (by omega)
  omega
theorem fls_sub {c e : _} {es : List Int} (h : fls c (e :: es) = []) : fls c es = [] := by
  rw [fls_filter, List.filter_eq_nil_iff] at h ⊢
  exact fun x hx => h x (List.mem_cons_of_mem _ hx)
/-- With an edge less there are no fewer. -/
theorem cols_less {p e : Int} {es : List Int} (h : Gk p (e :: es)) : (cols p (e :: es)).length ≤ (cols p es).length := nodup_le (cols_nodup _ _) fun c hc => by
  obtain ⟨hf, h0⟩ := (cols_mem h).1 hc
  exact (cols_mem h.tail).2 ⟨⟨h.tail, hf.len, hf.bd⟩, fls_sub h0⟩
theorem cols_none {p : Int} (h : Gk p []) : 0 < (cols p []).length := by
  have : List.replicate p.toNat 0 ∈ cols p [] := (cols_mem h).2 ⟨repl_fit h, by rw [fls_filter]; rfl⟩
  exact List.length_pos_of_mem this

/-! ### P39, P80: boxes -/
def vwTo (L : List (List Int)) (a b : Int) : Nat → List Int
  | 0 => List.replicate 9 0
  | k + 1 => (vwTo L a b k).set (3 * app (row L k) a + app (row L k) b).toNat (nth (vwTo L a b k) (3 * app (row L k) a + app (row L k) b).toNat + 1)
def vws (a b : Int) : List Int := vwTo (ords 3) a b 6
def madV (t : Int) : List Int := [0, t, t, t, 0, t, t, t, 0]
theorem vws_diff {a b : Int} (a0 : 0 ≤ a) (a2 : a ≤ 2) (b0 : 0 ≤ b) (b2 : b ≤ 2) (h : a ≠ b) : vws a b = madV 1 := by
  have : a = 0 ∨ a = 1 ∨ a = 2 := by omega
  have : b = 0 ∨ b = 1 ∨ b = 2 := by omega
  rcases ‹a = 0 ∨ a = 1 ∨ a = 2› with rfl | rfl | rfl <;> rcases ‹b = 0 ∨ b = 1 ∨ b = 2› with rfl | rfl | rfl <;> first | exact absurd rfl h | decide +kernel
theorem vws_same {a : Int} (a0 : 0 ≤ a) (a2 : a ≤ 2) : vws a a = [2, 0, 0, 0, 2, 0, 0, 0, 2] := by
  have : a = 0 ∨ a = 1 ∨ a = 2 := by omega
  rcases this with rfl | rfl | rfl <;> decide +kernel
theorem vwTo_len (L : List (List Int)) (a b : Int) : ∀ k, (vwTo L a b k).length = 9
  | 0 => by simp [vwTo]
  | k + 1 => by rw [vwTo, List.length_set]; exact vwTo_len L a b k

/-! ### P40: the best cheaters -/
def bstTo (f : List Int → Nat) (L : List (List Int)) : Nat → List Int × Int
  | 0 => ([], -1)
  | k + 1 => if (bstTo f L k).2 < 0 ∨ (f (row L k) : Int) < (bstTo f L k).2 then (row L k, (f (row L k) : Int)) else bstTo f L k
structure Bst (f : List Int → Nat) (L : List (List Int)) (k : Nat) (b : List Int × Int) : Prop where
  ge : 0 ≤ b.2
  le : ∀ j, j < k → b.2 ≤ (f (row L j) : Int)
  is : ∃ j, j < k ∧ b.1 = row L j ∧ b.2 = (f (row L j) : Int)
theorem bstTo_bst (f : List Int → Nat) (L : List (List Int)) : ∀ k, 0 < k → Bst f L k (bstTo f L k)
  | 0, h => by omega
  | 1, _ => by
    refine ⟨by simp [bstTo], fun j hj => ?_, 0, by omega, by simp [bstTo], by simp [bstTo]⟩
    obtain rfl : j = 0 := by omega
    simp [bstTo]
  | k + 2, _ => by
    have h := bstTo_bst f L (k + 1) (by omega)
    rw [bstTo]
    split
    · rename_i c
      refine ⟨by simp, fun j hj => ?_, k + 1, by omega, rfl, rfl⟩
      by_cases e : j = k + 1
      · subst e; exact Int.le_refl _
      · have := h.le j (by omega)
        have := h.ge
        simp only; omega
    · rename_i c
      refine ⟨h.ge, fun j hj => ?_, ?_⟩
      · by_cases e : j = k + 1
        · subst e; omega
        · exact h.le j (by omega)
      · obtain ⟨j, hj, e⟩ := h.is
        exact ⟨j, by omega, e⟩
theorem bstTo_skip {f : List Int → Nat} {L : List (List Int)} {k j : Nat} (hj : j < k) (e : f (row L j) = f (row L k)) : bstTo f L (k + 1) = bstTo f L k := by
  have h := bstTo_bst f L k (by omega)
  have := h.le j hj
  have := h.ge
  rw [bstTo, if_neg (by omega)]
theorem bstTo_take {f : List Int → Nat} {L : List (List Int)} {k : Nat} (h : (bstTo f L k).2 < 0 ∨ (f (row L k) : Int) < (bstTo f L k).2) : bstTo f L (k + 1) = (row L k, (f (row L k) : Int)) := by rw [bstTo, if_pos h]
theorem bstTo_keep {f : List Int → Nat} {L : List (List Int)} {k : Nat} (h : ¬ ((bstTo f L k).2 < 0 ∨ (f (row L k) : Int) < (bstTo f L k).2)) : bstTo f L (k + 1) = bstTo f L k := by rw [bstTo, if_neg h]
def nfl (es cs : List Int) : Nat := (fls cs es).length
def bst (p : Int) (es : List Int) : List Int × Int := bstTo (nfl es) (lots 3 p.toNat) (3 ^ p.toNat)
def bstB (p : Int) (es : List Int) : List Int × Int := if gkB p es then bst p es else ([], -1)
theorem bstB_yes {p : Int} {es : List Int} (h : gkB p es = true) : bstB p es = bst p es := by simp [bstB, h]
theorem bstB_no {p : Int} {es : List Int} (h : gkB p es = false) : bstB p es = ([], -1) := by simp [bstB, h]
theorem pow3 (n : Nat) : 0 < 3 ^ n := Nat.pow_pos (by omega)
/-- How many edges fail in all colourings together. -/
def sumF (es : List Int) : List (List Int) → Nat
  | [] => 0
  | c :: l => nfl es c + sumF es l
theorem sumF_nil (l : List (List Int)) : sumF [] l = 0 := by
  induction l with
  | nil => rfl
  | cons c l ih => rw [sumF, ih]; rfl
theorem sumF_cons (e : Int) (es : List Int) (l : List (List Int)) : sumF (e :: es) l = (l.filter fun c => clash c e).length + sumF es l := by
  induction l with
  | nil => rfl
  | cons c l ih =>
    rw [sumF, sumF, ih, List.filter_cons]
    unfold nfl
    rw [fls_filter, fls_filter, List.filter_cons]
    cases clash c e <;> simp <;> omega
theorem sumF_ge {es : List Int} {n : Nat} : ∀ {l : List (List Int)}, (∀ c, c ∈ l → n ≤ nfl es c) → n * l.length ≤ sumF es l
  | [], _ => by simp [sumF]
  | c :: l, h => by
    have := h c List.mem_cons_self
    have := sumF_ge (l := l) fun c hc => h c (List.mem_cons_of_mem _ hc)
    rw [sumF, List.length_cons, Nat.mul_add]; omega
set_option maxRecDepth 100000 in
theorem one_third : ∀ p : Nat, p ≤ 5 → ∀ e : Nat, e < 50 → edB p e = true → 3 * ((lots 3 p).filter fun c => clash c e).length = 3 ^ p := by
  intro p hp
  have : p = 0 ∨ p = 1 ∨ p = 2 ∨ p = 3 ∨ p = 4 ∨ p = 5 := by omega
  rcases this with rfl | rfl | rfl | rfl | rfl | rfl <;> decide +kernel
theorem third_ed {p e : Int} (h1 : 1 ≤ p) (h5 : p ≤ 5) (he : Ed p e) : 3 * ((lots 3 p.toNat).filter fun c => clash c e).length = 3 ^ p.toNat := by
  have a := he.pos
  have b := he.lt h5
  have := one_third p.toNat (by omega) e.toNat (by omega) (by rw [Int.toNat_of_nonneg (by omega), Int.toNat_of_nonneg (by omega)]; exact edB_true.2 he)
  rwa [Int.toNat_of_nonneg (by omega)] at this
theorem sumF_all {p : Int} : ∀ {es : List Int}, Gk p es → 3 * sumF es (lots 3 p.toNat) = es.length * 3 ^ p.toNat
  | [], _ => by rw [sumF_nil]; simp
  | e :: es, h => by
    have := sumF_all h.tail
    have := third_ed h.p1 h.p5 (h.mem List.mem_cons_self)
    rw [sumF_cons, List.length_cons, Nat.add_mul]; omega
structure BstF (p : Int) (es cs : List Int) (n : Int) : Prop where
  fit : Fit p es cs
  is : ((fls cs es).length : Int) = n
  ge : 0 ≤ n
  zero : n = 0 ↔ 0 < (cols p es).length
  third : 3 * n ≤ (es.length : Int)
theorem bst_facts {p : Int} {es : List Int} (h : Gk p es) : BstF p es (bst p es).1 (bst p es).2 := by
  have b : Bst (nfl es) (lots 3 p.toNat) (3 ^ p.toNat) (bst p es) := bstTo_bst (nfl es) (lots 3 p.toNat) (3 ^ p.toNat) (pow3 _)
  obtain ⟨j, hj, e1, e2⟩ := b.is
  have hm : row (lots 3 p.toNat) j ∈ lots 3 p.toNat := row_mem (by rw [lots_len]; exact hj)
  have hf := (lots_fit h).1 hm
  refine ⟨by rw [e1]; exact hf, by rw [e1, e2]; rfl, b.ge, ⟨fun h0 => ?_, fun h0 => ?_⟩, ?_⟩
  · refine List.length_pos_of_mem ((cols_mem h).2 ⟨hf, List.length_eq_zero_iff.1 ?_⟩)
    have : ((fls (row (lots 3 p.toNat) j) es).length : Int) = 0 := by rw [← h0, e2]; rfl
    omega
  · obtain ⟨c, hc⟩ := List.exists_mem_of_length_pos h0
    obtain ⟨hcf, hc0⟩ := (cols_mem h).1 hc
    obtain ⟨i, hi, e⟩ := row_of ((lots_fit h).2 hcf)
    rw [lots_len] at hi
    have hle := b.le i hi
    have := b.ge
    rw [e] at hle
    unfold nfl at hle
    rw [hc0] at hle
    simp at hle; omega
  · have hs := sumF_ge (es := es) (n := (bst p es).2.toNat) (l := lots 3 p.toNat) fun c hc => by
      obtain ⟨i, hi, e⟩ := row_of hc
      rw [lots_len] at hi
      have hle := b.le i hi
      rw [e] at hle; have := b.ge; omega
    rw [lots_len] at hs
    have ha := sumF_all h
    have hp := pow3 p.toNat
    have h3 : 3 * (bst p es).2.toNat * 3 ^ p.toNat ≤ es.length * 3 ^ p.toNat := by rw [Nat.mul_assoc]; omega
    have := Nat.le_of_mul_le_mul_right h3 hp
    have := b.ge
    omega

theorem bstB_few {p : Int} {es : List Int} : (bstB p es).1.length ≤ 5 := by
  cases h : gkB p es
  · rw [bstB_no h]; simp
  · have hg := gkB_true.1 h
    have := (bst_facts hg).fit.len
    have := hg.p5
    rw [bstB_yes h]; omega

/-! ### the names of colours as they come -/
def renTo (cs : List Int) : Nat → List Int × Nat
  | 0 => ([-1, -1, -1], 0)
  | k + 1 => if app (renTo cs k).1 (nth cs k) < 0 then ((renTo cs k).1.set (nth cs k).toNat (renTo cs k).2, (renTo cs k).2 + 1) else renTo cs k
def ren (cs : List Int) : List Int := thn cs (renTo cs cs.length).1
def pairsB (n : Nat) (c d : List Int) : Bool := (List.range n).all fun a => (List.range n).all fun b => decide (nth c a = nth c b) == decide (nth d a = nth d b)
def leB (a b : List Int) : Bool := match a, b with
  | x :: xs, y :: ys => decide (x < y) || (decide (x = y) && leB xs ys)
  | [], _ => true
  | _, [] => false
def idxOf (q : Nat) (c : List Int) : Nat := c.foldl (fun s x => q * s + x.toNat) 0
set_option maxRecDepth 100000 in
theorem ren_all : ∀ p : Nat, 1 ≤ p → p ≤ 5 → ((List.range (3 ^ p)).all fun k => decide (idxOf 3 (ren (row (lots 3 p) k)) ≤ k) && (decide (row (lots 3 p) (idxOf 3 (ren (row (lots 3 p) k))) = ren (row (lots 3 p) k)) && pairsB p (row (lots 3 p) k) (ren (row (lots 3 p) k)))) = true := by
  intro p h1 hp
  have : p = 1 ∨ p = 2 ∨ p = 3 ∨ p = 4 ∨ p = 5 := by omega
  rcases this with rfl | rfl | rfl | rfl | rfl <;> decide +kernel
/-- Colours whose names are not as they come: as many edges fail for ones before. -/
theorem ren_before {p : Int} {es : List Int} (h : Gk p es) {k : Nat} (hk : k < 3 ^ p.toNat) (hne : row (lots 3 p.toNat) k ≠ ren (row (lots 3 p.toNat) k)) : ∃ j, j < k ∧ nfl es (row (lots 3 p.toNat) j) = nfl es (row (lots 3 p.toNat) k) := by
  have := h.p1
  have := h.p5
  have ha := List.all_eq_true.1 (ren_all p.toNat (by omega) (by omega)) k (List.mem_range.2 hk)
  simp only [Bool.and_eq_true, decide_eq_true_eq] at ha
  obtain ⟨a, b, c⟩ := ha
  refine ⟨_, Nat.lt_of_le_of_ne a fun e => hne ?_, ?_⟩
  · rw [e] at b; exact b
  · rw [b]
    unfold nfl
    rw [← fls_alike h (cs := row (lots 3 p.toNat) k) (ds := ren (row (lots 3 p.toNat) k)) fun x y hx hy => ?_]
    unfold pairsB at c
    have := List.all_eq_true.1 (List.all_eq_true.1 c x (List.mem_range.2 (by omega))) y (List.mem_range.2 (by omega))
    rw [beq_iff_eq, decide_eq_decide] at this
    exact this
end Go.Proofs.YtimkmdedoacpfabDoor
