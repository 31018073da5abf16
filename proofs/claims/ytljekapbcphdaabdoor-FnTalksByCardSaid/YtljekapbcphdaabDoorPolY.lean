/- Plain mathematics of some of many: a polynomial through other places; more to be known; two talks. -/
import Derived.Test.YtljekapbcphdaabDoorSofP
import Derived.Test.YtljekapbcphdaabDoorScfI
namespace Go.Proofs.YtljekapbcphdaabDoor

theorem nth_map {f : Int → Int} {xs : List Int} {k : Nat} (hk : k < xs.length) : nth (xs.map f) k = f (nth xs k) := by
  unfold nth
  rw [List.getD_eq_getElem?_getD, List.getD_eq_getElem?_getD, List.getElem?_map, List.getElem?_eq_getElem hk]; rfl
theorem fin4 {g : Int} (h0 : 0 ≤ g) (h4 : g < 4) : ((⟨g.toNat, by omega⟩ : Fin 4).val : Int) = g := by show ((g.toNat : Nat) : Int) = g; omega
theorem chUp : ∀ g : Fin 4, ∀ m : Fin 4, ∀ t : Fin 5, m.val ≤ t.val → (t.val : Int) < ord g.val → ∀ x : Fin 5, chB g.val (nodes m.val) (nodes t.val) x.val = true := by decide +kernel
theorem ch_up {g : Int} (h0 : 0 ≤ g) (h4 : g < 4) {m t x : Nat} (hm : m ≤ 3) (ht : t ≤ 4) (hmt : m ≤ t) (hl : (t : Int) < ord g) (hx : x ≤ 4) : chB g (nodes m) (nodes t) x = true := by
  have e := fin4 h0 h4
  have := chUp ⟨g.toNat, by omega⟩ ⟨m, by omega⟩ ⟨t, by omega⟩ hmt (by rw [e]; exact hl) ⟨x, by omega⟩
  rwa [e] at this
theorem chOf : ∀ g : Fin 4, ∀ n : Fin 5, (n.val : Int) < ord g.val → ∀ c : Fin 16, ∀ x : Fin 5, chB g.val (plB (Nat.testBit c.val) n.val) (nodes ((plB (Nat.testBit c.val) n.val).length - 1)) x.val = true := by decide +kernel
theorem ch_of {g : Int} (h0 : 0 ≤ g) (h4 : g < 4) {n x : Nat} (hn : n ≤ 4) (hl : (n : Int) < ord g) (f : Nat → Bool) (hx : x ≤ 4) : chB g (plB f n) (nodes ((plB f n).length - 1)) x = true := by
  obtain ⟨c, hc⟩ := bits_of f
  have e := fin4 h0 h4
  have := chOf ⟨g.toNat, by omega⟩ ⟨n, by omega⟩ (by rw [e]; exact hl) c ⟨x, by omega⟩
  rw [e] at this
  rwa [plB_congr (f := f) (h := Nat.testBit c.val) fun k hk => hc k (by omega)]
theorem ndOf : ∀ g : Fin 4, ∀ n : Fin 5, (n.val : Int) < ord g.val → ∀ c : Fin 16, ndB g.val (plB (Nat.testBit c.val) n.val) = true := by decide +kernel
theorem nd_of {g : Int} (h0 : 0 ≤ g) (h4 : g < 4) {n : Nat} (hn : n ≤ 4) (hl : (n : Int) < ord g) (f : Nat → Bool) : ndB g (plB f n) = true := by
  obtain ⟨c, hc⟩ := bits_of f
  have e := fin4 h0 h4
  have := ndOf ⟨g.toNat, by omega⟩ ⟨n, by omega⟩ (by rw [e]; exact hl) c
  rw [e] at this
  rwa [plB_congr (f := f) (h := Nat.testBit c.val) fun k hk => hc k (by omega)]
/-- The places of the numbers below n that f names. -/
def plT (f : Nat → Bool) : Nat → List Int
  | 0 => []
  | k + 1 => if f k then plT f k ++ [((k : Int) + 1)] else plT f k
theorem plT_yes {f : Nat → Bool} {k : Nat} (h : f k = true) : plT f (k + 1) = plT f k ++ [((k : Int) + 1)] := by simp [plT, h]
theorem plT_no {f : Nat → Bool} {k : Nat} (h : f k = false) : plT f (k + 1) = plT f k := by simp [plT, h]
theorem plT_congr {f h : Nat → Bool} : ∀ {n : Nat}, (∀ k, k < n → f k = h k) → plT f n = plT h n
  | 0, _ => rfl
  | n + 1, e => by
    have ih := plT_congr (n := n) fun k hk => e k (by omega)
    unfold plT
    rw [ih, e n (by omega)]
theorem plT_at (f : Nat → Bool) : ∀ n j, j < (plT f n).length → ∃ k, k < n ∧ f k = true ∧ nth (plT f n) j = (k : Int) + 1
  | 0, j, h => by simp [plT] at h
  | n + 1, j, h => by
    cases hf : f n
    · rw [plT_no hf] at h ⊢
      obtain ⟨k, a, b, c⟩ := plT_at f n j h
      exact ⟨k, by omega, b, c⟩
    · rw [plT_yes hf] at h ⊢
      rw [nth_app]
      by_cases e : j < (plT f n).length
      · obtain ⟨k, a, b, c⟩ := plT_at f n j e
        exact ⟨k, by omega, b, by rw [if_pos e]; exact c⟩
      · obtain rfl : j = (plT f n).length := by simp at h; omega
        exact ⟨n, by omega, hf, by rw [if_neg e, if_pos rfl]⟩
theorem chTwo : ∀ g : Fin 4, ∀ n : Fin 5, (n.val : Int) < ord g.val → ∀ c : Fin 16, ∀ m : Fin 4, m.val < (plT (Nat.testBit c.val) n.val).length → chB g.val (nodes m.val) (plT (Nat.testBit c.val) n.val) 0 = true := by decide +kernel
theorem ch_two {g : Int} (h0 : 0 ≤ g) (h4 : g < 4) {n m : Nat} (hn : n ≤ 4) (hl : (n : Int) < ord g) (f : Nat → Bool) (hm : m ≤ 3) (h : m < (plT f n).length) : chB g (nodes m) (plT f n) 0 = true := by
  obtain ⟨c, hc⟩ := bits_of f
  have e := fin4 h0 h4
  have ee := plT_congr (f := f) (h := Nat.testBit c.val) (n := n) fun k hk => hc k (by omega)
  rw [ee] at h
  have := chTwo ⟨g.toNat, by omega⟩ ⟨n, by omega⟩ (by rw [e]; exact hl) c ⟨m, by omega⟩ h
  rw [e] at this
  rwa [ee]
theorem lag_small {g : Int} (h0 : 0 ≤ g) (h4 : g < 4) {ps vs : List Int} {x v : Int} (h : Cg (ord g) (lag g ps vs x) v) (hv : exB g v = true) : lag g ps vs x = v := by
  obtain ⟨_, e0, e1⟩ := exB_true.1 hv
  obtain ⟨_, l0, l1⟩ := exB_true.1 (lag_ex h0 h4 ps vs x)
  exact cg_small h l0 l1 e0 e1
/-- The whole question lies at 0. -/
theorem lag_zero {g ask : Int} {asks : List Int} (h0 : 0 ≤ g) (h4 : g < 4) {m : Nat} (hm : m ≤ 4) (hl : (m : Int) < ord g) (hx : exB g ask = true) : lag g (nodes m) (frees ask asks m) 0 = ask := by
  have h := lag_node (vs := frees ask asks m) (k := 0) (by rw [nodes_len]; omega) (nodes_nd h0 h4 hm hl)
  rw [nodes_nth m 0 (by omega), frees_nth ask asks m 0 (by omega), if_pos rfl] at h
  exact lag_small h0 h4 h hx
/-- Questions that lie on the polynomial through some places line up. -/
theorem up_of {g ask : Int} {asks ps vs : List Int} {t n : Nat} (h0 : 0 ≤ g) (h4 : g < 4) (hn : n ≤ 4) (htn : t ≤ n) (hc : ∀ x : Nat, x ≤ 4 → chB g ps (nodes t) x = true)
    (hz : Cg (ord g) ask (lag g ps vs 0)) (hk : ∀ k, k < n → nth asks k = lag g ps vs ((k : Int) + 1)) : upB g t n ask asks = true := by
  refine upB_true.2 fun k hkn => ?_
  rw [hk k hkn]
  have e : ((k + 1 : Nat) : Int) = (k : Int) + 1 := by omega
  rw [← e]
  refine lag_small h0 h4 (lag_change (fun j hj => ?_) (hc (k + 1) (by omega))) (lag_ex h0 h4 _ _ _)
  rw [nodes_len] at hj
  rw [frees_nth ask asks t j (by omega), nodes_nth t j (by omega)]
  by_cases hj0 : j = 0
  · rw [if_pos hj0, hj0]; exact hz
  · rw [if_neg hj0, hk (j - 1) (by omega)]
    have e2 : ((j - 1 : Nat) : Int) + 1 = (j : Int) := by omega
    rw [e2]; exact Cg.refl _ _
theorem Mny.less {g : Int} {n : Nat} {need need' : Int} (h : Mny g n need) (h1 : 1 ≤ need') (h2 : need' ≤ need) : Mny g n need' := ⟨h.g0, h.g4, h.n1, h.n4, h.lt, h1, Int.le_trans h2 h.dn⟩
theorem Lin.at {g need ask : Int} {asks : List Int} (h : Lin g need ask asks) : ∀ k, k < asks.length → nth asks k = lag g (nodes (leadN asks.length need)) (frees ask asks (leadN asks.length need)) ((k : Int) + 1) := fun k hk => (upB_true.1 h.up k hk).symm
theorem Lin.zero {g need ask : Int} {asks : List Int} (h : Lin g need ask asks) : lag g (nodes (leadN asks.length need)) (frees ask asks (leadN asks.length need)) 0 = ask := by
  obtain ⟨_, l3, _, lo⟩ := h.m.ldN
  exact lag_zero h.m.g0 h.m.g4 (by omega) lo h.a
/-- More to be known is more in line. -/
theorem Lin.less {g need need' ask : Int} {asks : List Int} (h : Lin g need ask asks) (h1 : 1 ≤ need') (h2 : need' ≤ need) : Lin g need' ask asks := by
  have hm := h.m.less h1 h2
  obtain ⟨a1, a2, a3, a4⟩ := h.m.ldN
  obtain ⟨b1, b2, b3, b4⟩ := hm.ldN
  refine ⟨hm, h.a, h.ex, up_of hm.g0 hm.g4 hm.n4 (by omega) (fun x hx => ch_up hm.g0 hm.g4 a2 (by omega) (by omega) b4 hx) ?_ h.at⟩
  rw [h.zero]; exact Cg.refl _ _
theorem oneAll : ∀ g : Fin 4, ∀ x : Fin 5, ∀ v : Fin 23, (v.val : Int) < ord g.val → lag g.val [0] [v.val] x.val = v.val := by decide +kernel
theorem Lin.all {g need ask : Int} {asks : List Int} (h : Lin g need ask asks) (hn : need = asks.length) : ∀ k, k < asks.length → nth asks k = ask := fun k hk => by
  have e := h.at k hk
  have hz : leadN asks.length need = 0 := by unfold leadN; omega
  rw [hz] at e
  obtain ⟨_, a0, a1⟩ := exB_true.1 h.a
  have ho := ord_bd h.m.g0 h.m.g4
  have h4 := h.m.n4
  have e4 := fin4 h.m.g0 h.m.g4
  have := oneAll ⟨g.toNat, by omega⟩ ⟨k + 1, by omega⟩ ⟨ask.toNat, by omega⟩ (by rw [e4]; show ((ask.toNat : Nat) : Int) < _; omega)
  rw [e4] at this
  have c1 : ((ask.toNat : Nat) : Int) = ask := by omega
  have c2 : ((k + 1 : Nat) : Int) = (k : Int) + 1 := by omega
  have t : lag g [0] [((ask.toNat : Nat) : Int)] ((k + 1 : Nat) : Int) = ((ask.toNat : Nat) : Int) := this
  rw [c1, c2] at t
  exact e.trans t
/-- A talk that is right is right for fewer, too. -/
theorem Som.less {g : Int} {keys : List Int} {need need' : Int} {ss : List Int} {q : Int} {xs ts : List Int} (h : Som g keys need ss q xs ts) (h1 : 1 ≤ need') (h2 : need' ≤ need) : Som g keys need' ss q xs ts :=
  ⟨⟨h.k.m.less h1 h2, h.k.el⟩, h.l1, h.l2, h.l3, h.tok, linB_true.2 ((linB_true.1 h.lin).less h1 h2)⟩
/-- Where two questions are the same. -/
def eqF (xs ys : List Int) (k : Nat) : Bool := decide (nth xs k = nth ys k)
/-- Two polynomials that meet at more places than their degree are the same. -/
theorem meet_few {g need q q2 : Int} {xs ys : List Int} (h : Lin g need q xs) (h2 : Lin g need q2 ys) (hl : ys.length = xs.length) (hne : q ≠ q2) : (plT (eqF xs ys) xs.length).length ≤ leadN xs.length need := by
  by_cases hc : (plT (eqF xs ys) xs.length).length ≤ leadN xs.length need
  · exact hc
  · exfalso
    obtain ⟨a1, a2, a3, a4⟩ := h.m.ldN
    have g0 := h.m.g0; have g4 := h.m.g4
    have ch := ch_two g0 g4 h.m.n4 h.m.lt (eqF xs ys) a2 (by omega : leadN xs.length need < _)
    have l1 := lag_change (g := g) (S := nodes (leadN xs.length need)) (vs := frees q xs (leadN xs.length need)) (us := (plT (eqF xs ys) xs.length).map fun p => lag g (nodes (leadN xs.length need)) (frees q xs (leadN xs.length need)) p) (fun k hk => by rw [nth_map hk]; exact Cg.refl _ _) ch
    have l2 := lag_change (g := g) (S := nodes (leadN xs.length need)) (vs := frees q2 ys (leadN xs.length need)) (us := (plT (eqF xs ys) xs.length).map fun p => lag g (nodes (leadN xs.length need)) (frees q xs (leadN xs.length need)) p) (fun k hk => by
      rw [nth_map hk]
      obtain ⟨j, hj, hf, e⟩ := plT_at _ _ k hk
      rw [e, ← h.at j hj]
      have e2 := h2.at j (by omega)
      rw [hl] at e2
      rw [← e2, of_decide_eq_true hf]; exact Cg.refl _ _) ch
    have z2 := h2.zero
    rw [hl] at z2
    rw [h.zero] at l1; rw [z2] at l2
    obtain ⟨_, e0, e1⟩ := exB_true.1 h.a
    obtain ⟨_, f0, f1⟩ := exB_true.1 h2.a
    exact hne (cg_small (l1.symm.trans l2) e0 e1 f0 f1)
/-- How many of the first k are told. -/
def toldN (L : List Int) : Nat → Nat
  | 0 => 0
  | k + 1 => if nth L k < 0 then toldN L k else toldN L k + 1
theorem toldN_no {L : List Int} {k : Nat} (h : nth L k < 0) : toldN L (k + 1) = toldN L k := by simp [toldN, h]
theorem toldN_yes {L : List Int} {k : Nat} (h : ¬ nth L k < 0) : toldN L (k + 1) = toldN L k + 1 := by simp [toldN, h]
theorem toldN_le (L : List Int) : ∀ k, toldN L k ≤ k
  | 0 => Nat.le_refl _
  | k + 1 => by
    have := toldN_le L k
    by_cases h : nth L k < 0
    · rw [toldN_no h]; omega
    · rw [toldN_yes h]; omega
theorem told_count {L : List Int} {f : Nat → Bool} : ∀ n, (∀ k, k < n → f k = false → ¬ nth L k < 0) → n ≤ toldN L n + (plT f n).length
  | 0, _ => by simp
  | n + 1, h => by
    have ih := told_count n fun k hk => h k (by omega)
    cases hf : f n
    · rw [plT_no hf, toldN_yes (h n (by omega) hf)]; omega
    · rw [plT_yes hf, List.length_append]
      have : toldN L n ≤ toldN L (n + 1) := by
        by_cases e : nth L n < 0
        · rw [toldN_no e]; omega
        · rw [toldN_yes e]; omega
      simp; omega
theorem scfTo_nth (g : Int) (keys ss xs ts ss2 xs2 ts2 : List Int) : ∀ n k, k < n → nth (scfTo g keys ss xs ts ss2 xs2 ts2 n) k = sctR g (nth keys k) (nth ss k) (nth xs k) (nth ts k) (nth ss2 k) (nth xs2 k) (nth ts2 k)
  | n + 1, k, h => by
    rw [scfTo_succ, nth_app, scfTo_len]
    by_cases e : k < n
    · rw [if_pos e]; exact scfTo_nth g keys ss xs ts ss2 xs2 ts2 n k e
    · obtain rfl : k = n := by omega
      rw [if_neg e, if_pos rfl]
theorem scfB_true {g : Int} {keys : List Int} {need : Int} {ss : List Int} {q : Int} {xs ts ss2 : List Int} {q2 : Int} {xs2 ts2 : List Int} (h : scfB g keys need ss q xs ts ss2 q2 xs2 ts2 = true) : Som g keys need ss q xs ts ∧ Som g keys need ss2 q2 xs2 ts2 ∧ ss = ss2 ∧ q ≠ q2 := by
  unfold scfB sameB at h
  simp only [Bool.and_eq_true, decide_eq_true_eq] at h
  exact ⟨someB_true.1 h.1, someB_true.1 h.2.1, h.2.2.1, h.2.2.2⟩
/-- Two answers tell as many exponents as are to be known, and each is that of its element. -/
theorem scf_told {g : Int} {keys : List Int} {need : Int} {ss : List Int} {q : Int} {xs ts ss2 : List Int} {q2 : Int} {xs2 ts2 : List Int} (h : scfB g keys need ss q xs ts ss2 q2 xs2 ts2 = true) :
    (∀ k, k < keys.length → ¬ nth (scfTo g keys ss xs ts ss2 xs2 ts2 keys.length) k < 0 → keyOf g (nth (scfTo g keys ss xs ts ss2 xs2 ts2 keys.length) k) = nth keys k)
    ∧ need ≤ (toldN (scfTo g keys ss xs ts ss2 xs2 ts2 keys.length) keys.length : Nat) := by
  obtain ⟨a, b, rfl, hne⟩ := scfB_true h
  have la := linB_true.1 a.lin
  have lb := linB_true.1 b.lin
  have ta := toksB_true.1 a.tok
  have tb := toksB_true.1 b.tok
  constructor
  · intro k hk h0
    rw [scfTo_nth _ _ _ _ _ _ _ _ _ k hk] at h0 ⊢
    cases hs : secB g (nth keys k) (nth ss k) (nth xs k) (nth ts k) (nth ss k) (nth xs2 k) (nth ts2 k)
    · rw [sctR_no hs] at h0; omega
    · rw [sctR_yes hs]
      obtain ⟨_, _, _, hx⟩ := secB_true.1 hs
      exact (secret_key (ta k hk) (tb k hk) hx).2
  · have hc := told_count (L := scfTo g keys ss xs ts ss xs2 ts2 keys.length) (f := eqF xs xs2) keys.length (fun k hk hf => by
      have hx := of_decide_eq_false hf
      rw [scfTo_nth _ _ _ _ _ _ _ _ _ k hk, sctR_yes (secB_true.2 ⟨ta k hk, tb k hk, rfl, hx⟩)]
      have := (exB_true.1 (secret_key (ta k hk) (tb k hk) hx).1).2.1
      omega)
    have hm := meet_few la lb (by rw [a.l2, b.l2]) hne
    obtain ⟨_, _, c3, _⟩ := la.m.ldN
    rw [a.l2] at hm c3
    omega
theorem cnt_unk (secrets : List Int) : ∀ n, (plB (unkF secrets) n).length + cntK secrets n = n + 1
  | 0 => rfl
  | n + 1 => by
    have ih := cnt_unk secrets n
    by_cases h : nth secrets n = -1
    · rw [plB_yes (decide_eq_true h), cntK_no h, List.length_append]; simp; omega
    · rw [plB_no (decide_eq_false h), cntK_yes h]; omega
theorem plB_zero (f : Nat → Bool) : ∀ n, nth (plB f n) 0 = 0
  | 0 => rfl
  | n + 1 => by
    have ih := plB_zero f n
    have hl := (plB_len_pos f n).1
    cases h : f n
    · rw [plB_no h]; exact ih
    · rw [plB_yes h, nth_app, if_pos (by omega)]; exact ih
theorem plB_find (f : Nat → Bool) : ∀ n k, k < n → f k = true → ∃ j, j < (plB f n).length ∧ nth (plB f n) j = (k : Int) + 1
  | n + 1, k, hk, hf => by
    by_cases e : k < n
    · obtain ⟨j, hj, hv⟩ := plB_find f n k e hf
      cases h : f n
      · rw [plB_no h]; exact ⟨j, hj, hv⟩
      · rw [plB_yes h]; exact ⟨j, by rw [List.length_append]; simp; omega, by rw [nth_app, if_pos hj]; exact hv⟩
    · obtain rfl : k = n := by omega
      rw [plB_yes hf]
      exact ⟨(plB f k).length, by simp, by rw [nth_app, if_neg (by omega), if_pos rfl]⟩
theorem unk_zero (secrets first : List Int) (ask : Int) : ∀ n, nth (vlD (unkP secrets first ask n)) 0 = ask
  | 0 => rfl
  | n + 1 => by
    have ih := unk_zero secrets first ask n
    have hl := (unkP_len secrets first ask n).1
    by_cases h : nth secrets n = -1
    · rw [unkP_yes h]
      unfold vlD at ih ⊢
      rw [List.map_append]
      show nth (_ ++ [_]) 0 = ask
      rw [nth_app, if_pos (by rw [List.length_map]; omega)]; exact ih
    · rw [unkP_no h]; exact ih
theorem vlD_len (d : List (Int × Int)) : (vlD d).length = d.length := by unfold vlD; simp
theorem unk_val {secrets first : List Int} {ask : Int} : ∀ n k, k < n → nth secrets k = -1 → ∃ j, j < (unkP secrets first ask n).length ∧ nth (plD (unkP secrets first ask n)) j = (k : Int) + 1 ∧ nth (vlD (unkP secrets first ask n)) j = nth first k
  | n + 1, k, hk, hu => by
    by_cases e : k < n
    · obtain ⟨j, hj, h1, h2⟩ := unk_val (secrets := secrets) (first := first) (ask := ask) n k e hu
      by_cases h : nth secrets n = -1
      · rw [unkP_yes h]
        refine ⟨j, by rw [List.length_append]; simp; omega, ?_, ?_⟩
        · unfold plD at h1 ⊢
          rw [List.map_append]
          show nth (_ ++ [_]) j = _
          rw [nth_app, if_pos (by rw [List.length_map]; omega)]; exact h1
        · unfold vlD at h2 ⊢
          rw [List.map_append]
          show nth (_ ++ [_]) j = _
          rw [nth_app, if_pos (by rw [List.length_map]; omega)]; exact h2
      · rw [unkP_no h]; exact ⟨j, hj, h1, h2⟩
    · obtain rfl : k = n := by omega
      rw [unkP_yes hu]
      refine ⟨(unkP secrets first ask k).length, by rw [List.length_append]; simp, ?_, ?_⟩
      · unfold plD
        rw [List.map_append]
        show nth (_ ++ [_]) _ = _
        rw [nth_app, if_neg (by rw [List.length_map]; omega), if_pos (by rw [List.length_map])]
      · unfold vlD
        rw [List.map_append]
        show nth (_ ++ [_]) _ = _
        rw [nth_app, if_neg (by rw [List.length_map]; omega), if_pos (by rw [List.length_map])]
section
variable {g : Int} {keys : List Int} {need : Int} {secrets first second : List Int} {ask : Int}
/-- The question of each element lies on the polynomial. -/
theorem Sof.quest (h : Sof g keys need secrets first second ask) : ∀ k, k < keys.length → sofX g secrets first ask keys.length k = sofQ g secrets first ask keys.length k := fun k hk => by
  by_cases hu : nth secrets k = -1
  · unfold sofX; rw [if_pos hu]
    obtain ⟨j, hj, h1, h2⟩ := unk_val (first := first) (ask := ask) keys.length k hk hu
    have nd := lag_node (vs := vlD (unkP secrets first ask keys.length)) (k := j) (by rw [← plD_unk secrets first ask, plD_len]; exact hj) (nd_of h.k.m.g0 h.k.m.g4 h.k.m.n4 h.k.m.lt (unkF secrets))
    rw [← plD_unk secrets first ask, h1, h2] at nd
    exact (lag_small h.k.m.g0 h.k.m.g4 nd (allEx_at h.e1 (by rw [h.l2]; exact hk))).symm
  · unfold sofX; rw [if_neg hu]
theorem Sof.lin (h : Sof g keys need secrets first second ask) : linB g need ask (mapTo (sofX g secrets first ask keys.length) keys.length) = true := by
  have hm := h.k.m
  obtain ⟨b1, b2, b3, b4⟩ := hm.ldN
  have hc := cnt_unk secrets keys.length
  have hct := h.ct
  have hN : (plB (unkF secrets) keys.length).length - 1 = leadN keys.length need := by omega
  refine linB_true.2 ⟨by rw [mapTo_len]; exact hm, h.a, allEx_yes fun k hk => ?_, ?_⟩
  · rw [mapTo_len] at hk
    rw [mapTo_nth _ _ _ hk, h.quest k hk]; exact lag_ex hm.g0 hm.g4 _ _ _
  · rw [mapTo_len]
    refine up_of (ps := plD (unkP secrets first ask keys.length)) (vs := vlD (unkP secrets first ask keys.length)) hm.g0 hm.g4 hm.n4 (by omega) (fun x hx => ?_) ?_ fun k hk => ?_
    · rw [plD_unk, ← hN]; exact ch_of hm.g0 hm.g4 hm.n4 hm.lt _ hx
    · have nd := lag_node (vs := vlD (unkP secrets first ask keys.length)) (k := 0) (by have := (plB_len_pos (unkF secrets) keys.length).1; omega) (nd_of hm.g0 hm.g4 hm.n4 hm.lt (unkF secrets))
      rw [plB_zero, unk_zero] at nd
      rw [plD_unk]; exact nd.symm
    · rw [mapTo_nth _ _ _ hk, h.quest k hk]; rfl
/-- True talks are right. -/
theorem Sof.some (h : Sof g keys need secrets first second ask) : someB g keys need (mapTo (sofS g keys secrets first second) keys.length) ask (mapTo (sofX g secrets first ask keys.length) keys.length) (mapTo (sofT g secrets first second ask keys.length) keys.length) = true := by
  have hm := h.k.m
  refine someB_true.2 ⟨h.k, mapTo_len _ _, mapTo_len _ _, mapTo_len _ _, toksB_true.2 fun k hk => ?_, h.lin⟩
  rw [mapTo_nth _ _ _ hk, mapTo_nth _ _ _ hk, mapTo_nth _ _ _ hk]
  have hel := allEl_at h.k.el hk
  have hf := allEx_at h.e1 (by rw [h.l2]; exact hk : k < first.length)
  have hs := allEx_at h.e2 (by rw [h.l3]; exact hk : k < second.length)
  by_cases hu : nth secrets k = -1
  · unfold sofS sofX sofT; rw [if_pos hu, if_pos hu, if_pos hu]
    exact made_ok hel hf hs
  · unfold sofS sofX sofT; rw [if_neg hu, if_neg hu, if_neg hu]
    have hk2 := (h.kn k hk).resolve_left hu
    have hq : exB g (sofQ g secrets first ask keys.length k) = true := lag_ex hm.g0 hm.g4 _ _ _
    rw [← hk2]
    exact talkOf_ok (key_ex hk2 hel) hf hq
end
end Go.Proofs.YtljekapbcphdaabDoor
