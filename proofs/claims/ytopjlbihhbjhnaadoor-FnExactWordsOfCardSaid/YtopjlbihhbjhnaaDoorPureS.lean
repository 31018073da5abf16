/- The promises on relations, as plain mathematics: by logarithms all of them are sums by the order. -/
import Derived.Test.YtopjlbihhbjhnaaDoorPureR
namespace Go.Proofs.YtopjlbihhbjhnaaDoor

def Cg (q a b : Int) : Prop := ∃ k, a = b + q * k
theorem cg_mod {q a b : Int} : a % q = b % q ↔ Cg q a b := by
  constructor
  · intro h
    refine ⟨a / q - b / q, ?_⟩
    have h1 := Int.emod_add_mul_ediv a q
    have h2 := Int.emod_add_mul_ediv b q
    grind
  · rintro ⟨k, rfl⟩
    exact Int.add_mul_emod_self_left b q k
theorem Cg.refl (q a : Int) : Cg q a a := ⟨0, by grind⟩
theorem Cg.symm {q a b : Int} (h : Cg q a b) : Cg q b a := cg_mod.1 (cg_mod.2 h).symm
theorem Cg.trans {q a b c : Int} (h : Cg q a b) (k : Cg q b c) : Cg q a c := cg_mod.1 ((cg_mod.2 h).trans (cg_mod.2 k))
theorem Cg.rem (q a : Int) : Cg q (a % q) a := cg_mod.1 (Int.emod_emod_of_dvd _ (Int.dvd_refl _))
theorem Cg.add {q a b c d : Int} (h : Cg q a b) (k : Cg q c d) : Cg q (a + c) (b + d) := by
  obtain ⟨x, rfl⟩ := h; obtain ⟨y, rfl⟩ := k; exact ⟨x + y, by grind⟩
theorem Cg.mul {q a b : Int} (c : Int) (h : Cg q a b) : Cg q (c * a) (c * b) := by
  obtain ⟨x, rfl⟩ := h; exact ⟨c * x, by grind⟩
theorem gp_cg {g : Int} (h0 : 0 ≤ g) (h4 : g < 4) {m n : Int} : gp g (bas g) m = gp g (bas g) n ↔ Cg (ord g) m n := (gp_inj h0 h4).trans cg_mod

/-- The logarithm of an element. -/
def lg (g a : Int) : Int := glog g (bas g) a
def dotTo (g : Int) (xs es : List Int) : Nat → Int
  | 0 => 0
  | j + 1 => dotTo g xs es j + lg g (nth xs j) * nth es j
theorem dotTo_succ (g : Int) (xs es : List Int) (j : Nat) : dotTo g xs es (j + 1) = dotTo g xs es j + lg g (nth xs j) * nth es j := rfl
theorem gp_lg {g a : Int} (ha : elB g a = true) (n : Int) : gp g a n = gp g (bas g) (lg g a * n) := by
  obtain ⟨h0, h4⟩ := elB_group ha
  rw [← gp_gp (bas_el h0 h4), show gp g (bas g) (lg g a) = a from el_gp ha]
theorem el_lg {g a : Int} (ha : elB g a = true) : a = gp g (bas g) (lg g a) := (el_gp ha).symm
theorem tim_gp {g : Int} (h0 : 0 ≤ g) (h4 : g < 4) (m n : Int) : tim g (gp g (bas g) m) (gp g (bas g) n) = gp g (bas g) (m + n) := by
  rw [tim_yes (gp_el (bas_el h0 h4) _) (gp_el (bas_el h0 h4) _), ← gp_add (bas_el h0 h4)]
theorem prod_log {g : Int} {xs es : List Int} (h0 : 0 ≤ g) (h4 : g < 4) (hx : allEl g xs = true) (he : allEx g es = true) : ∀ j, j ≤ xs.length → j ≤ es.length → prodTo g xs es j = gp g (bas g) (dotTo g xs es j)
  | 0, _, _ => by rw [show dotTo g xs es 0 = 0 from rfl, gp_zero]; rfl
  | j + 1, h1, h2 => by
    have hxj := allEl_at hx (show j < xs.length by omega)
    rw [prodTo_succ, prod_log h0 h4 hx he j (by omega) (by omega), gpow_ex hxj (allEx_at he (by omega)), gp_lg hxj, tim_gp h0 h4, dotTo_succ]
theorem dot_lin {g q c : Int} {xs es fs hs : List Int} : ∀ n, (∀ j, j < n → Cg q (nth hs j) (nth es j + c * nth fs j)) → Cg q (dotTo g xs hs n) (dotTo g xs es n + c * dotTo g xs fs n)
  | 0, _ => ⟨0, by simp [dotTo]⟩
  | n + 1, h => by
    obtain ⟨k, hk⟩ := dot_lin n (fun j hj => h j (by omega))
    obtain ⟨m, hm⟩ := h n (by omega)
    refine ⟨k + lg g (nth xs n) * m, ?_⟩
    rw [dotTo_succ, dotTo_succ, dotTo_succ, hk, hm]
    grind

/-- What row k makes, by its logarithm. -/
def dotR (g : Int) (rows : List (List Int)) (k : Nat) (es : List Int) : Int := dotTo g (row rows k) es es.length
theorem Lot.prod {g : Int} {rows : List (List Int)} {makes es : List Int} (h : Lot g rows makes es) {k : Nat} (hk : k < rows.length) : prodTo g (row rows k) es es.length = gp g (bas g) (dotR g rows k es) :=
  prod_log h.cl.g0 h.cl.g4 (h.cl.row k hk).2 h.ex _ (by have := (h.cl.row k hk).1; have := h.len; omega) (Nat.le_refl _)
theorem Lot.mk_nth {g : Int} {rows : List (List Int)} {makes es : List Int} (h : Lot g rows makes es) {k : Nat} (hk : k < rows.length) : nth (mkAll g rows es) k = gp g (bas g) (dotR g rows k es) := by
  rw [← h.prod hk]; exact mkTo_nth g rows es _ k hk
theorem dotR_lin {g q c : Int} {rows : List (List Int)} {k : Nat} {es fs hs : List Int} (h1 : es.length = hs.length) (h2 : fs.length = hs.length) (h : ∀ j, j < hs.length → Cg q (nth hs j) (nth es j + c * nth fs j)) : Cg q (dotR g rows k hs) (dotR g rows k es + c * dotR g rows k fs) := by
  unfold dotR; rw [h1, h2]; exact dot_lin _ h
theorem list_ext {xs ys : List Int} (hl : xs.length = ys.length) (h : ∀ j, j < xs.length → nth xs j = nth ys j) : xs = ys := by
  refine List.ext_getElem hl fun j h1 h2 => ?_
  rw [← nth_get h1, ← nth_get h2]; exact h j h1

/-- A relation is solved exactly if all sums are the logarithms. -/
theorem Lot.solved {g : Int} {rows : List (List Int)} {makes es : List Int} (h : Lot g rows makes es) : mkAll g rows es = makes ↔ ∀ k, k < rows.length → Cg (ord g) (dotR g rows k es) (lg g (nth makes k)) := by
  have hm : ∀ k, k < rows.length → elB g (nth makes k) = true := fun k hk => allEl_at h.cl.makes (by rw [h.cl.m]; exact hk)
  constructor
  · intro e k hk
    have := h.mk_nth hk
    rw [e, el_lg (hm k hk)] at this
    exact ((gp_cg h.cl.g0 h.cl.g4).1 this).symm
  · intro hc
    refine list_ext (by rw [mkAll_len, h.cl.m]) fun k hk => ?_
    rw [mkAll_len] at hk
    rw [h.mk_nth hk, el_lg (hm k hk)]
    exact (gp_cg h.cl.g0 h.cl.g4).2 (hc k hk)
theorem solv_true {g : Int} {rows : List (List Int)} {makes es : List Int} : solvB g rows makes es = true ↔ Lot g rows makes es ∧ mkAll g rows es = makes := by
  unfold solvB sameB; simp only [Bool.and_eq_true, lotB_true, decide_eq_true_eq]

/-- Right talks: for each row the sum of the answers is the logarithm of what was said and the question times that of what the row makes. -/
theorem wok_log {g : Int} {rows : List (List Int)} {makes says : List Int} {ask : Int} {tells : List Int} (hl : Lot g rows makes tells) (hs : says.length = rows.length) (he : allEl g says = true) (ha : exB g ask = true) :
    mkAll g rows tells = timesAll g says makes ask ↔ ∀ k, k < rows.length → Cg (ord g) (dotR g rows k tells) (lg g (nth says k) + ask * lg g (nth makes k)) := by
  have g0 := hl.cl.g0
  have g4 := hl.cl.g4
  have hm : ∀ k, k < rows.length → elB g (nth makes k) = true := fun k hk => allEl_at hl.cl.makes (by rw [hl.cl.m]; exact hk)
  have hn : ∀ k, k < rows.length → nth (timesAll g says makes ask) k = gp g (bas g) (lg g (nth says k) + ask * lg g (nth makes k)) := fun k hk => by
    have hsk := allEl_at he (show k < says.length by omega)
    rw [show nth (timesAll g says makes ask) k = _ from timesTo_nth g says makes ask _ k (by omega), gpow_ex (hm k hk) ha, gp_lg (hm k hk)]
    rw [show tim g (nth says k) (gp g (bas g) (lg g (nth makes k) * ask)) = tim g (gp g (bas g) (lg g (nth says k))) (gp g (bas g) (lg g (nth makes k) * ask)) by rw [← el_lg hsk], tim_gp g0 g4, Int.mul_comm ask]
  constructor
  · intro e k hk
    have := hl.mk_nth hk
    rw [e, hn k hk] at this
    exact ((gp_cg g0 g4).1 this).symm
  · intro hc
    refine list_ext (by rw [mkAll_len, timesAll_len, hs]) fun k hk => ?_
    rw [mkAll_len] at hk
    rw [hl.mk_nth hk, hn k hk]
    exact (gp_cg g0 g4).2 (hc k hk)

theorem tellsAll_lot {g : Int} {rows : List (List Int)} {makes es further : List Int} (h1 : Lot g rows makes es) (ask : Int) : Lot g rows makes (tellsAll g es further ask) :=
  ⟨h1.cl, by unfold tellsAll; rw [tellsTo_len]; exact h1.len, allEx_yes fun j hj => by
    unfold tellsAll at hj; rw [tellsTo_len] at hj
    rw [show nth (tellsAll g es further ask) j = _ from tellsTo_nth g es further ask _ j hj]
    exact ex_of_mod h1.cl.g0 h1.cl.g4 _⟩
/-- True talks are right. -/
theorem words_ok {g : Int} {rows : List (List Int)} {makes es further : List Int} {ask : Int} (h1 : Lot g rows makes es) (hs : mkAll g rows es = makes) (h2 : Lot g rows makes further) (ha : exB g ask = true) :
    wokB g rows makes (mkAll g rows further) ask (tellsAll g es further ask) = true := by
  have hl := tellsAll_lot (further := further) h1 ask
  refine wok_true.2 ⟨hl, mkAll_len _ _ _, h2.mk_el, ha, (wok_log hl (mkAll_len _ _ _) h2.mk_el ha).2 fun k hk => ?_⟩
  have hlen : (tellsAll g es further ask).length = es.length := tellsTo_len _ _ _ _ _
  have d1 := dotR_lin (g := g) (rows := rows) (k := k) (q := ord g) (c := ask) (es := further) (fs := es) (hs := tellsAll g es further ask) (by rw [hlen, h1.len, h2.len]) hlen.symm (fun j hj => by
    rw [hlen] at hj
    rw [show nth (tellsAll g es further ask) j = _ from tellsTo_nth g es further ask _ j hj]; exact Cg.rem _ _)
  have d2 := (h1.solved.1 hs) k hk
  have d3 : Cg (ord g) (lg g (nth (mkAll g rows further) k)) (dotR g rows k further) := by
    have e := el_lg (allEl_at h2.mk_el (show k < (mkAll g rows further).length by rw [mkAll_len]; exact hk))
    rw [h2.mk_nth hk] at e
    have := ((gp_cg h1.cl.g0 h1.cl.g4).1 e).symm
    rwa [h2.mk_nth hk]
  exact d1.trans (Cg.add d3.symm (d2.mul ask))

/-- What is said, made up. -/
def saysUp (g : Int) (rows : List (List Int)) (makes : List Int) (ask : Int) (tells : List Int) : List Int := timesAll g (mkAll g rows tells) makes (-ask)
theorem saysUp_len (g : Int) (rows : List (List Int)) (makes : List Int) (ask : Int) (tells : List Int) : (saysUp g rows makes ask tells).length = rows.length := by unfold saysUp; rw [timesAll_len, mkAll_len]
theorem saysUp_nth {g : Int} {rows : List (List Int)} {makes : List Int} {ask : Int} {tells : List Int} (hl : Lot g rows makes tells) (ha : exB g ask = true) {k : Nat} (hk : k < rows.length) :
    nth (saysUp g rows makes ask tells) k = gp g (bas g) (dotR g rows k tells + (-ask) * lg g (nth makes k)) := by
  have hm : elB g (nth makes k) = true := allEl_at hl.cl.makes (by rw [hl.cl.m]; exact hk)
  have hp := ex_pow ha
  rw [show nth (saysUp g rows makes ask tells) k = _ from timesTo_nth g _ makes (-ask) _ k (by rw [mkAll_len]; exact hk), hl.mk_nth hk, gpow_gp hm (by omega) (by omega), gp_lg hm, tim_gp hl.cl.g0 hl.cl.g4, Int.mul_comm (-ask)]
theorem saysUp_el {g : Int} {rows : List (List Int)} {makes : List Int} {ask : Int} {tells : List Int} (hl : Lot g rows makes tells) (ha : exB g ask = true) : allEl g (saysUp g rows makes ask tells) = true := allEl_yes fun k hk => by
  rw [saysUp_len] at hk
  rw [saysUp_nth hl ha hk]; exact gp_el (bas_el hl.cl.g0 hl.cl.g4) _
/-- Right talks are those that are made up. -/
theorem wok_made {g : Int} {rows : List (List Int)} {makes says : List Int} {ask : Int} {tells : List Int} (hl : Lot g rows makes tells) (ha : exB g ask = true) : wokB g rows makes says ask tells = sameB (saysUp g rows makes ask tells) says := by
  have g0 := hl.cl.g0
  have g4 := hl.cl.g4
  rw [Bool.eq_iff_iff, wok_true]
  unfold sameB
  rw [decide_eq_true_iff]
  constructor
  · intro h
    refine list_ext (by rw [saysUp_len, h.len]) fun k hk => ?_
    rw [saysUp_len] at hk
    have d := (wok_log hl h.len h.el ha).1 h.same k hk
    rw [saysUp_nth hl ha hk, el_lg (allEl_at h.el (show k < says.length by rw [h.len]; exact hk))]
    refine (gp_cg g0 g4).2 ?_
    obtain ⟨m, hm⟩ := d
    exact ⟨m, by rw [hm]; grind⟩
  · rintro rfl
    refine ⟨hl, saysUp_len _ _ _ _ _, saysUp_el hl ha, ha, (wok_log hl (saysUp_len _ _ _ _ _) (saysUp_el hl ha) ha).2 fun k hk => ?_⟩
    have e := el_lg (allEl_at (saysUp_el hl ha) (show k < (saysUp g rows makes ask tells).length by rw [saysUp_len]; exact hk))
    rw [saysUp_nth hl ha hk] at e
    obtain ⟨m, hm⟩ := (gp_cg g0 g4).1 e
    rw [← saysUp_nth hl ha hk] at hm
    exact ⟨m, by grind⟩

/-- The further exponents with which a talk that is made up is a true one. -/
def furthTo (g : Int) (tells es : List Int) (ask : Int) : Nat → List Int
  | 0 => []
  | k + 1 => furthTo g tells es ask k ++ [(nth tells k - ask * nth es k) % ord g]
theorem furthTo_succ (g : Int) (tells es : List Int) (ask : Int) (k : Nat) : furthTo g tells es ask (k + 1) = furthTo g tells es ask k ++ [(nth tells k - ask * nth es k) % ord g] := rfl
theorem furthTo_len (g : Int) (tells es : List Int) (ask : Int) : ∀ k, (furthTo g tells es ask k).length = k
  | 0 => rfl
  | k + 1 => by rw [furthTo_succ, List.length_append, furthTo_len g tells es ask k]; rfl
theorem furthTo_nth (g : Int) (tells es : List Int) (ask : Int) : ∀ n k, k < n → nth (furthTo g tells es ask n) k = (nth tells k - ask * nth es k) % ord g
  | 0, k, h => by omega
  | n + 1, k, h => by
    rw [furthTo_succ, nth_app, furthTo_len]
    by_cases e : k < n
    · rw [if_pos e]; exact furthTo_nth g tells es ask n k e
    · obtain rfl : k = n := by omega
      rw [if_neg e, if_pos rfl]
def furthAll (g : Int) (tells es : List Int) (ask : Int) : List Int := furthTo g tells es ask tells.length
theorem furth_lot {g : Int} {rows : List (List Int)} {makes tells es : List Int} (hl : Lot g rows makes tells) (ask : Int) : Lot g rows makes (furthAll g tells es ask) :=
  ⟨hl.cl, by unfold furthAll; rw [furthTo_len]; exact hl.len, allEx_yes fun j hj => by
    unfold furthAll at hj; rw [furthTo_len] at hj
    rw [show nth (furthAll g tells es ask) j = _ from furthTo_nth g tells es ask _ j hj]
    exact ex_of_mod hl.cl.g0 hl.cl.g4 _⟩
theorem made_true {g : Int} {rows : List (List Int)} {makes tells es : List Int} {ask : Int} (hl : Lot g rows makes tells) (ha : exB g ask = true) (he : Lot g rows makes es) (hs : mkAll g rows es = makes) :
    mkAll g rows (furthAll g tells es ask) = saysUp g rows makes ask tells ∧ tellsAll g es (furthAll g tells es ask) ask = tells := by
  have g0 := hl.cl.g0
  have g4 := hl.cl.g4
  have hf := furth_lot (es := es) hl ask
  have hfl : (furthAll g tells es ask).length = tells.length := furthTo_len _ _ _ _ _
  refine ⟨list_ext (by rw [mkAll_len, saysUp_len]) fun k hk => ?_, list_ext (by unfold tellsAll; rw [tellsTo_len, he.len, hl.len]) fun j hj => ?_⟩
  · rw [mkAll_len] at hk
    rw [hf.mk_nth hk, saysUp_nth hl ha hk]
    refine (gp_cg g0 g4).2 ?_
    have d1 := dotR_lin (g := g) (rows := rows) (k := k) (q := ord g) (c := -ask) (es := tells) (fs := es) (hs := furthAll g tells es ask) hfl.symm (by rw [hfl, he.len, hl.len]) (fun j hj => by
      rw [hfl] at hj
      rw [show nth (furthAll g tells es ask) j = _ from furthTo_nth g tells es ask _ j hj]
      refine (Cg.rem _ _).trans ⟨0, by grind⟩)
    exact d1.trans (Cg.add (Cg.refl _ _) ((he.solved.1 hs k hk).mul (-ask)))
  · unfold tellsAll at hj; rw [tellsTo_len, he.len] at hj
    rw [show nth (tellsAll g es (furthAll g tells es ask) ask) j = _ from tellsTo_nth g es _ ask _ j (by rw [he.len]; exact hj),
      show nth (furthAll g tells es ask) j = _ from furthTo_nth g tells es ask _ j (by rw [hl.len]; exact hj)]
    have hx := allEx_at hl.ex (show j < tells.length by rw [hl.len]; exact hj)
    have hm := ex_mod hx
    rw [← hm]
    refine cg_mod.2 ?_
    obtain ⟨m, hm'⟩ := Cg.rem (ord g) (nth tells j - ask * nth es j)
    rw [hm]
    exact ⟨m, by rw [hm']; grind⟩

/-- Two answers solve it. -/
def fromAll (g : Int) (t1 t2 : List Int) (a1 a2 : Int) : List Int := fromTo g t1 t2 a1 a2 t1.length
theorem from_solves {g : Int} {rows : List (List Int)} {makes says t1 t2 : List Int} {a1 a2 : Int} (h1 : Wok g rows makes says a1 t1) (h2 : Wok g rows makes says a2 t2) (hne : a1 ≠ a2) :
    Lot g rows makes (fromAll g t1 t2 a1 a2) ∧ mkAll g rows (fromAll g t1 t2 a1 a2) = makes := by
  have g0 := h1.lot.cl.g0
  have g4 := h1.lot.cl.g4
  have hlen : (fromAll g t1 t2 a1 a2).length = t1.length := fromTo_len _ _ _ _ _ _
  obtain ⟨_, a10, a11⟩ := exB_true.1 h1.ex
  obtain ⟨_, a20, a21⟩ := exB_true.1 h2.ex
  have hd : exB g ((a1 - a2) % ord g) = true := ex_of_mod g0 g4 _
  have hd0 : (a1 - a2) % ord g ≠ 0 := by
    intro h
    obtain ⟨k, hk⟩ := cg_mod.1 (show (a1 - a2) % ord g = 0 % ord g by rw [h]; simp)
    have : k = 0 := by
      rcases Int.lt_trichotomy k 0 with hk' | hk' | hk'
      · have : ord g * k ≤ ord g * (-1) := Int.mul_le_mul_of_nonneg_left (by omega) (by have := ord_bd g0 g4; omega)
        omega
      · exact hk'
      · have : ord g * 1 ≤ ord g * k := Int.mul_le_mul_of_nonneg_left (by omega) (by have := ord_bd g0 g4; omega)
        omega
    subst this
    simp at hk
    omega
  have hb := (back_prod hd).resolve_left (fun h => hd0 h.2)
  obtain ⟨b, hbb⟩ : ∃ b, gback g ((a1 - a2) % ord g) = b := ⟨_, rfl⟩
  rw [hbb] at hb
  have hb1 : Cg (ord g) ((a1 - a2) * b) 1 := by
    have ho := ord_bd g0 g4
    refine Cg.trans ?_ (cg_mod.1 (show (a1 - a2) % ord g * b % ord g = 1 % ord g by rw [hb.2.2, Int.emod_eq_of_lt (by omega) (by omega)]))
    exact cg_mod.1 (modmul _ _ _).symm
  have hn : ∀ j, j < t1.length → Cg (ord g) (nth (fromAll g t1 t2 a1 a2) j) (b * nth t1 j + (-b) * nth t2 j) := fun j hj => by
    rw [show nth (fromAll g t1 t2 a1 a2) j = _ from fromTo_nth g t1 t2 a1 a2 _ j hj]
    unfold secretOf
    rw [hbb]
    refine (Cg.rem _ _).trans ?_
    obtain ⟨m, hm⟩ := Cg.rem (ord g) (nth t1 j - nth t2 j)
    exact ⟨m * b, by rw [hm]; grind⟩
  have hl : Lot g rows makes (fromAll g t1 t2 a1 a2) := ⟨h1.lot.cl, by rw [hlen]; exact h1.lot.len, allEx_yes fun j hj => by
    rw [hlen] at hj
    rw [show nth (fromAll g t1 t2 a1 a2) j = _ from fromTo_nth g t1 t2 a1 a2 _ j hj]
    exact ex_of_mod g0 g4 _⟩
  refine ⟨hl, hl.solved.2 fun k hk => ?_⟩
  have d1 := (wok_log h1.lot h1.len h1.el h1.ex).1 h1.same k hk
  have d2 := (wok_log h2.lot h2.len h2.el h2.ex).1 h2.same k hk
  -- the sum of the quotients is the quotient of the sums
  have scale : ∀ {xs : List Int} {n : Nat}, n ≤ t1.length → Cg (ord g) (dotTo g xs (fromAll g t1 t2 a1 a2) n) (b * dotTo g xs t1 n + (-b) * dotTo g xs t2 n) := by
    intro xs n
    induction n with
    | zero => intro _; exact ⟨0, by simp [dotTo]⟩
    | succ n ih =>
      intro hh
      obtain ⟨m, hm⟩ := ih (by omega)
      obtain ⟨m', hm'⟩ := hn n (by omega)
      refine ⟨m + lg g (nth xs n) * m', ?_⟩
      rw [dotTo_succ, dotTo_succ, dotTo_succ, hm, hm']
      grind
  have d3 : Cg (ord g) (dotR g rows k (fromAll g t1 t2 a1 a2)) (b * dotR g rows k t1 + (-b) * dotR g rows k t2) := by
    unfold dotR
    rw [hlen, show t2.length = t1.length by rw [h1.lot.len, h2.lot.len]]
    exact scale (Nat.le_refl _)
  obtain ⟨m1, e1⟩ := d1
  obtain ⟨m2, e2⟩ := d2
  obtain ⟨m3, e3⟩ := hb1
  refine d3.trans ⟨b * m1 - b * m2 + lg g (nth makes k) * m3, ?_⟩
  rw [e1, e2]
  have e3' : a1 * b - a2 * b = 1 + ord g * m3 := by rw [← e3]; grind
  grind
end Go.Proofs.YtopjlbihhbjhnaaDoor
