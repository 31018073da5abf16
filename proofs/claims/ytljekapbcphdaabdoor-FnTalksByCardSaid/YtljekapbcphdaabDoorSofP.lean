/- Plain mathematics and states of SomeOf. -/
import Derived.Test.YtljekapbcphdaabDoorSomI
import Derived.Test.YtljekapbcphdaabDoorMark
import Derived.Test.YtljekapbcphdaabDoorSomC
import Derived.Deep.Cut
namespace Go.Proofs.YtljekapbcphdaabDoor
open Go.RowKit

/-- A list by its elements. -/
def mapTo (f : Nat → Int) : Nat → List Int
  | 0 => []
  | k + 1 => mapTo f k ++ [f k]
theorem mapTo_succ (f : Nat → Int) (k : Nat) : mapTo f (k + 1) = mapTo f k ++ [f k] := rfl
theorem mapTo_len (f : Nat → Int) : ∀ k, (mapTo f k).length = k
  | 0 => rfl
  | k + 1 => by rw [mapTo_succ, List.length_append, mapTo_len f k]; rfl
theorem mapTo_nth (f : Nat → Int) : ∀ n k, k < n → nth (mapTo f n) k = f k
  | n + 1, k, h => by
    rw [mapTo_succ, nth_app, mapTo_len]
    by_cases e : k < n
    · rw [if_pos e]; exact mapTo_nth f n k e
    · obtain rfl : k = n := by omega
      rw [if_neg e, if_pos rfl]
/-- How many of the first k exponents are known. -/
def cntK (secrets : List Int) : Nat → Nat
  | 0 => 0
  | k + 1 => if nth secrets k = -1 then cntK secrets k else cntK secrets k + 1
theorem cntK_no {secrets : List Int} {k : Nat} (h : nth secrets k = -1) : cntK secrets (k + 1) = cntK secrets k := by simp [cntK, h]
theorem cntK_yes {secrets : List Int} {k : Nat} (h : nth secrets k ≠ -1) : cntK secrets (k + 1) = cntK secrets k + 1 := by simp [cntK, h]
theorem cntK_le (secrets : List Int) : ∀ k, cntK secrets k ≤ k
  | 0 => Nat.le_refl _
  | k + 1 => by
    have := cntK_le secrets k
    by_cases h : nth secrets k = -1
    · rw [cntK_no h]; omega
    · rw [cntK_yes h]; omega
/-- The whole question, and the first exponents of those that are not known, at their places. -/
def unkP (secrets first : List Int) (ask : Int) : Nat → List (Int × Int)
  | 0 => [(0, ask)]
  | k + 1 => if nth secrets k = -1 then unkP secrets first ask k ++ [((k : Int) + 1, nth first k)] else unkP secrets first ask k
theorem unkP_yes {secrets first : List Int} {ask : Int} {k : Nat} (h : nth secrets k = -1) : unkP secrets first ask (k + 1) = unkP secrets first ask k ++ [((k : Int) + 1, nth first k)] := by simp [unkP, h]
theorem unkP_no {secrets first : List Int} {ask : Int} {k : Nat} (h : nth secrets k ≠ -1) : unkP secrets first ask (k + 1) = unkP secrets first ask k := by simp [unkP, h]
def unkF (secrets : List Int) (k : Nat) : Bool := decide (nth secrets k = -1)
theorem plD_unk (secrets first : List Int) (ask : Int) : ∀ n, plD (unkP secrets first ask n) = plB (unkF secrets) n
  | 0 => rfl
  | n + 1 => by
    have ih := plD_unk secrets first ask n
    by_cases h : nth secrets n = -1
    · rw [unkP_yes h, plB_yes (decide_eq_true h), ← ih]; unfold plD; rw [List.map_append]; rfl
    · rw [unkP_no h, plB_no (decide_eq_false h)]; exact ih
theorem unkP_len (secrets first : List Int) (ask : Int) (n : Nat) : 1 ≤ (unkP secrets first ask n).length ∧ (unkP secrets first ask n).length ≤ n + 1 := by
  rw [← plD_len, plD_unk]; exact plB_len_pos _ n
theorem unkP_vals {g : Int} {secrets first : List Int} {ask : Int} (ha : exB g ask = true) : ∀ n, (∀ k, k < n → exB g (nth first k) = true) → ∀ p ∈ unkP secrets first ask n, exB g p.2 = true
  | 0, _, p, hp => by obtain rfl : p = (0, ask) := by simpa [unkP] using hp
                      exact ha
  | n + 1, hx, p, hp => by
    have ih := unkP_vals ha n (secrets := secrets) (first := first) (fun k hk => hx k (by omega))
    by_cases h : nth secrets n = -1
    · rw [unkP_yes h] at hp
      rcases List.mem_append.1 hp with hp | hp
      · exact ih p hp
      · obtain rfl : p = ((n : Int) + 1, nth first n) := by simpa using hp
        exact hx n (by omega)
    · rw [unkP_no h] at hp; exact ih p hp
theorem unkP_ok {g : Int} {secrets first : List Int} {ask : Int} {n : Nat} (h0 : 0 ≤ g) (h4 : g < 4) (hn : n ≤ 4) (hl : (n : Int) < ord g) (ha : exB g ask = true) (hx : ∀ k, k < n → exB g (nth first k) = true) : AtOk g (unkP secrets first ask n) := by
  obtain ⟨l1, l2⟩ := unkP_len secrets first ask n
  have hlen : (plB (unkF secrets) n).length = (unkP secrets first ask n).length := by rw [← plD_unk secrets first ask, plD_len]
  have hp : ∀ k, k < (unkP secrets first ask n).length → ((unkP secrets first ask n)[k]!).1 = nth (plB (unkF secrets) n) k := fun k hk => by rw [← plD_nth _ hk, plD_unk]
  have hmem : ∀ k, k < (unkP secrets first ask n).length → (unkP secrets first ask n)[k]! ∈ unkP secrets first ask n := fun k hk => by rw [getElem!_pos _ k hk]; exact List.getElem_mem hk
  refine ⟨by omega, by omega, fun k hk => ?_, fun k hk => unkP_vals ha n hx _ (hmem k hk), fun i j hi hj hne => ?_⟩
  · rw [hp k hk]
    have := plB_bd (unkF secrets) n k (by omega)
    exact exB_true.2 ⟨⟨h0, h4⟩, by omega, by omega⟩
  · rw [hp i hi, hp j hj]
    exact apart_ne (plB_apart h0 h4 hn hl _) (by omega) (by omega) hne
/-- The question at a place. -/
def sofQ (g : Int) (secrets first : List Int) (ask : Int) (n k : Nat) : Int := lag g (plD (unkP secrets first ask n)) (vlD (unkP secrets first ask n)) ((k : Int) + 1)
/-- What is said, asked and answered for element k. -/
def sofS (g : Int) (keys secrets first second : List Int) (k : Nat) : Int := if nth secrets k = -1 then sayUp g (nth keys k) (nth first k) (nth second k) else gp g (bas g) (nth first k)
def sofX (g : Int) (secrets first : List Int) (ask : Int) (n k : Nat) : Int := if nth secrets k = -1 then nth first k else sofQ g secrets first ask n k
def sofT (g : Int) (secrets first second : List Int) (ask : Int) (n k : Nat) : Int := if nth secrets k = -1 then nth second k else tellOf g (nth secrets k) (nth first k) (sofQ g secrets first ask n k)
def knwB (g : Int) (keys secrets : List Int) (n : Nat) : Bool := (List.range n).all fun k => decide (nth secrets k = -1) || decide (keyOf g (nth secrets k) = nth keys k)
theorem knwB_true {g : Int} {keys secrets : List Int} {n : Nat} : knwB g keys secrets n = true ↔ ∀ k, k < n → nth secrets k = -1 ∨ keyOf g (nth secrets k) = nth keys k := by
  unfold knwB
  rw [List.all_eq_true]
  exact ⟨fun h k hk => by simpa using h k (List.mem_range.2 hk), fun h k hk => by simpa using h k (List.mem_range.1 hk)⟩
theorem knwB_false {g : Int} {keys secrets : List Int} {n k : Nat} (hk : k < n) (h1 : nth secrets k ≠ -1) (h2 : keyOf g (nth secrets k) ≠ nth keys k) : knwB g keys secrets n = false := by
  cases hb : knwB g keys secrets n
  · rfl
  · rcases knwB_true.1 hb k hk with h | h
    · exact absurd h h1
    · exact absurd h h2
def frzB (secrets second : List Int) (n : Nat) : Bool := (List.range n).all fun k => decide (nth secrets k = -1) || decide (nth second k = 0)
theorem frzB_true {secrets second : List Int} {n : Nat} : frzB secrets second n = true ↔ ∀ k, k < n → nth secrets k = -1 ∨ nth second k = 0 := by
  unfold frzB
  rw [List.all_eq_true]
  exact ⟨fun h k hk => by simpa using h k (List.mem_range.2 hk), fun h k hk => by simpa using h k (List.mem_range.1 hk)⟩
theorem frzB_false {secrets second : List Int} {n k : Nat} (hk : k < n) (h1 : nth secrets k ≠ -1) (h2 : nth second k ≠ 0) : frzB secrets second n = false := by
  cases hb : frzB secrets second n
  · rfl
  · rcases frzB_true.1 hb k hk with h | h
    · exact absurd h h1
    · exact absurd h h2
def knoB (g : Int) (keys : List Int) (need : Int) (secrets : List Int) : Bool := kysB g keys need && (decide (secrets.length = keys.length) && (knwB g keys secrets keys.length && decide ((cntK secrets keys.length : Int) = need)))
def freB (g : Int) (secrets first second : List Int) : Bool := decide (first.length = secrets.length) && (decide (second.length = secrets.length) && (frzB secrets second secrets.length && (allEx g first && allEx g second)))
def sofB (g : Int) (keys : List Int) (need : Int) (secrets first second : List Int) (ask : Int) : Bool := knoB g keys need secrets && (freB g secrets first second && exB g ask)
/-- All that SomeOf asks of its arguments. -/
structure Sof (g : Int) (keys : List Int) (need : Int) (secrets first second : List Int) (ask : Int) : Prop where
  k : Kys g keys need
  l1 : secrets.length = keys.length
  l2 : first.length = keys.length
  l3 : second.length = keys.length
  kn : ∀ k, k < keys.length → nth secrets k = -1 ∨ keyOf g (nth secrets k) = nth keys k
  ct : (cntK secrets keys.length : Int) = need
  fz : ∀ k, k < keys.length → nth secrets k = -1 ∨ nth second k = 0
  e1 : allEx g first = true
  e2 : allEx g second = true
  a : exB g ask = true
theorem sofB_true {g : Int} {keys : List Int} {need : Int} {secrets first second : List Int} {ask : Int} : sofB g keys need secrets first second ask = true ↔ Sof g keys need secrets first second ask := by
  unfold sofB knoB freB
  simp only [Bool.and_eq_true, kysB_true, decide_eq_true_eq, knwB_true, frzB_true]
  constructor
  · rintro ⟨⟨a, b, c, d⟩, ⟨e, f, h, i, j⟩, k⟩
    rw [b] at e f h
    exact ⟨a, b, e, f, c, d, h, i, j, k⟩
  · intro h
    exact ⟨⟨h.k, h.l1, h.kn, h.ct⟩, ⟨by rw [h.l2, h.l1], by rw [h.l3, h.l1], by rw [h.l1]; exact h.fz, h.e1, h.e2⟩, h.a⟩
theorem sofB_false {g : Int} {keys : List Int} {need : Int} {secrets first second : List Int} {ask : Int} (h : ¬ Sof g keys need secrets first second ask) : sofB g keys need secrets first second ask = false := by
  cases hb : sofB g keys need secrets first second ask
  · rfl
  · exact absurd (sofB_true.1 hb) h
theorem key_ex {g s a : Int} (h : keyOf g s = a) (ha : elB g a = true) : exB g s = true := by
  cases hx : exB g s
  · have e : keyOf g s = -1 := by unfold keyOf; rw [hx]; rfl
    have := (elB_bound ha).1
    rw [e] at h; omega
  · rfl
def sL (b : Bool) (xs : List Int) : List Int := if b then xs else []
def sQ (b : Bool) (q : Int) : Int := if b then q else 0

/-- A talk while it is written: its box, and its three lists, apart from each other. -/
structure S3 (W : World) (N : Nat) (q : Int) (sv xv tv : Value) (ss xs ts : List Int) (wr : World) : Prop where
  bl : Below W.heap.size W wr
  n0 : W.heap.size ≤ N
  box : Box wr N [sv, .int .i64 q, xv, tv]
  s : Own wr (N + 1) sv ss
  x : Own wr (N + 1) xv xs
  t : Own wr (N + 1) tv ts
  a1 : ∀ k, sv.ownBlock = some k → xv.ownBlock = some k → False
  a2 : ∀ k, sv.ownBlock = some k → tv.ownBlock = some k → False
  a3 : ∀ k, xv.ownBlock = some k → tv.ownBlock = some k → False
section
variable {W : World} {N : Nat} {q : Int} {sv xv tv : Value} {ss xs ts : List Int} {wr w8 : World}
theorem S3.on {w' : World} (h : S3 W N q sv xv tv ss xs ts wr) (hb : Below wr.heap.size wr w') : S3 W N q sv xv tv ss xs ts w' := ⟨Below.on h.bl hb, h.n0, h.box.on hb, own_below h.s hb, own_below h.x hb, own_below h.t hb, h.a1, h.a2, h.a3⟩
theorem own_off {w : World} {B N j : Nat} {v u : Value} {xs : List Int} (h : Own w B v xs) (hN : N < B) : Own (w.setCell ⟨N, j, none⟩ u) B v xs := own_heap h fun k hk => Below.heap_setCell _ _ _ _ (by have := (h.lt k hk).1; show k ≠ N; omega)
theorem own_stay {w w' : World} {B : Nat} {v u : Value} {xs : List Int} (h : Own w B v xs) (hg : w.grownBy w' u.ownBlock) (ha : ∀ k, v.ownBlock = some k → u.ownBlock = some k → False) : Own w' B v xs := own_heap h fun k hk => hg.block k (h.lt k hk).2 fun e => ha k hk e.symm
theorem apart_app {w : World} {B : Nat} {v u v' : Value} {xs : List Int} (hu : Own w B u xs) (ha : ∀ k, v.ownBlock = some k → u.ownBlock = some k → False) (hk : v'.ownBlock = v.ownBlock ∨ ∃ b, v'.ownBlock = some b ∧ w.heap.size ≤ b) : ∀ k, v'.ownBlock = some k → u.ownBlock = some k → False := fun k h1 h2 => by
  rcases hk with hk | ⟨b, hb, hl⟩
  · exact ha k (hk ▸ h1) h2
  · rw [hb] at h1; cases h1; have := (hu.lt _ h2).2; omega
theorem box_app {w w' : World} {B N : Nat} {v : Value} {xs : List Int} {P : List Value} (hb : Box w N P) (hg : w.grownBy w' v.ownBlock) (hv : Own w B v xs) (hN : N < B) : Box w' N P :=
  box_same hb (hg.block N hb.lt fun e => by have := (hv.lt N e.symm).1; omega)
theorem S3.bl_app {v : Value} {B : Nat} {ys : List Int} (h : S3 W N q sv xv tv ss xs ts wr) (hv : Own wr B v ys) (hB : W.heap.size ≤ B) (hg : wr.grownBy w8 v.ownBlock) : Below W.heap.size W w8 := h.bl.grown hg h.bl.size fun _ he => Nat.le_trans hB (hv.lt _ he).1
theorem S3.say {sv' : Value} {y : Int} (h : S3 W N q sv xv tv ss xs ts wr) (ho : Own w8 (N + 1) sv' (ss ++ [y])) (hg : wr.grownBy w8 sv.ownBlock) (hk : sv'.ownBlock = sv.ownBlock ∨ ∃ b, sv'.ownBlock = some b ∧ wr.heap.size ≤ b) : S3 W N q sv' xv tv (ss ++ [y]) xs ts (w8.setCell ⟨N, 0, none⟩ sv') := by
  have n0 := h.n0
  exact ⟨(h.bl_app h.s (by omega) hg).setCell n0 _, n0, (box_app h.box hg h.s (by omega)).set 0 sv', own_off ho (by omega), own_off (own_stay h.x hg fun k a b => h.a1 k b a) (by omega), own_off (own_stay h.t hg fun k a b => h.a2 k b a) (by omega), apart_app h.x h.a1 hk, apart_app h.t h.a2 hk, h.a3⟩
theorem S3.ask {xv' : Value} {y : Int} (h : S3 W N q sv xv tv ss xs ts wr) (ho : Own w8 (N + 1) xv' (xs ++ [y])) (hg : wr.grownBy w8 xv.ownBlock) (hk : xv'.ownBlock = xv.ownBlock ∨ ∃ b, xv'.ownBlock = some b ∧ wr.heap.size ≤ b) : S3 W N q sv xv' tv ss (xs ++ [y]) ts (w8.setCell ⟨N, 2, none⟩ xv') := by
  have n0 := h.n0
  exact ⟨(h.bl_app h.x (by omega) hg).setCell n0 _, n0, (box_app h.box hg h.x (by omega)).set 2 xv', own_off (own_stay h.s hg h.a1) (by omega), own_off ho (by omega), own_off (own_stay h.t hg fun k a b => h.a3 k b a) (by omega), fun k a b => apart_app h.s (fun k a b => h.a1 k b a) hk k b a, h.a2, apart_app h.t h.a3 hk⟩
theorem S3.tell {tv' : Value} {y : Int} (h : S3 W N q sv xv tv ss xs ts wr) (ho : Own w8 (N + 1) tv' (ts ++ [y])) (hg : wr.grownBy w8 tv.ownBlock) (hk : tv'.ownBlock = tv.ownBlock ∨ ∃ b, tv'.ownBlock = some b ∧ wr.heap.size ≤ b) : S3 W N q sv xv tv' ss xs (ts ++ [y]) (w8.setCell ⟨N, 3, none⟩ tv') := by
  have n0 := h.n0
  exact ⟨(h.bl_app h.t (by omega) hg).setCell n0 _, n0, (box_app h.box hg h.t (by omega)).set 3 tv', own_off (own_stay h.s hg h.a2) (by omega), own_off (own_stay h.x hg h.a3) (by omega), own_off ho (by omega), h.a1, fun k a b => apart_app h.s (fun k a b => h.a2 k b a) hk k b a, fun k a b => apart_app h.x (fun k a b => h.a3 k b a) hk k b a⟩
/-- The single talk's box is kept. -/
theorem keep_talk {M : Nat} {P : List Value} {v v' : Value} {j : Nat} (hb : Box wr M P) (hg : wr.grownBy w8 v.ownBlock) (hv : ∀ k, v.ownBlock = some k → k < M) (hN : N < M) : Box (w8.setCell ⟨N, j, none⟩ v') M P :=
  box_same hb ((Below.heap_setCell _ _ _ _ (by show M ≠ N; omega)).trans (hg.block M hb.lt fun e => by have := hv M e.symm; omega))
end
theorem S3.fin {W wr : World} {N M : Nat} {q : Int} {sv xv tv : Value} {ss xs ts : List Int} (h : S3 W N q sv xv tv ss xs ts wr) (hM : M < N) (a b c d : Value) :
    OwnS ((((wr.setCell ⟨M, 0, none⟩ a).setCell ⟨M, 1, none⟩ b).setCell ⟨M, 2, none⟩ c).setCell ⟨M, 3, none⟩ d) M ((((wr.setCell ⟨M, 0, none⟩ a).setCell ⟨M, 1, none⟩ b).setCell ⟨M, 2, none⟩ c).setCell ⟨M, 3, none⟩ d).heap.size sv xv tv ss xs ts := by
  have s := own_off (u := d) (j := 3) (own_off (u := c) (j := 2) (own_off (u := b) (j := 1) (own_off (u := a) (j := 0) h.s (show M < N + 1 by omega)) (show M < N + 1 by omega)) (show M < N + 1 by omega)) (show M < N + 1 by omega)
  have x := own_off (u := d) (j := 3) (own_off (u := c) (j := 2) (own_off (u := b) (j := 1) (own_off (u := a) (j := 0) h.x (show M < N + 1 by omega)) (show M < N + 1 by omega)) (show M < N + 1 by omega)) (show M < N + 1 by omega)
  have t := own_off (u := d) (j := 3) (own_off (u := c) (j := 2) (own_off (u := b) (j := 1) (own_off (u := a) (j := 0) h.t (show M < N + 1 by omega)) (show M < N + 1 by omega)) (show M < N + 1 by omega)) (show M < N + 1 by omega)
  exact ⟨own_mono s (by omega), own_mono x (by omega), own_mono t (by omega), h.a1, h.a2, h.a3, fun k hk => (s.lt k hk).2, fun k hk => (x.lt k hk).2, fun k hk => (t.lt k hk).2⟩
/-- While a single talk is made: whether it is stored. -/
structure Tq (wk : World) (M : Nat) (P0 P : List Value) (z : Bool) (w' : World) : Prop where
  bl : Below wk.heap.size wk w'
  m : wk.heap.size ≤ M
  box : Box w' M (if z then P else P0)
theorem Tq.on {wk : World} {M : Nat} {P0 P : List Value} {z : Bool} {w1 w2 : World} (h : Tq wk M P0 P z w1) (hb : Below w1.heap.size w1 w2) : Tq wk M P0 P z w2 := ⟨Below.on h.bl hb, h.m, h.box.on hb⟩
theorem Tq.put {wk : World} {M : Nat} {a b c x y z : Value} {w1 : World} (h : Tq wk M [a, b, c] [x, y, z] false w1) : Tq wk M [a, b, c] [x, y, z] true (st3 w1 M x y z) := ⟨below_st3 h.bl h.m, h.m, st3_box h.box⟩
end Go.Proofs.YtljekapbcphdaabDoor
