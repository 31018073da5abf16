/- TuL, TuM, TuH, in one text. -/
import Derived.Test.YtlcegpmhlnilfaaBRd
import Derived.Test.YtlcegpmhlnilfaaGrC
import Derived.Test.YtlcegpmhlnilfaaBGr
/- Lists of talks on graphs: rows of four cells, each talk with two lists in blocks of their own. -/
namespace Go.Proofs.Ytlcegpmhlnilfaa
open Go.RowKit

/-- A talk on graphs as it lies in a list: points, the slice of edges, question, the slice of what is told; and what both slices hold. -/
structure Tu where
  p : Int
  u : Value
  a : Int
  v : Value
  es : List Int
  t : List Int
instance : Inhabited Tu := ⟨⟨0, .slice none 0 0, 0, .slice none 0 0, [], []⟩⟩
def encU (x : Tu) : List Value := [.int .i64 x.p, x.u, .int .i64 x.a, x.v]
abbrev OutU (w : World) (B : Nat) (v : Value) (d : List Tu) : Prop := w.ownsRow B 60 4 v d.length (d.flatMap encU)
def lstU (d : List Tu) : List (Value × List Int) := d.flatMap fun x => [(x.u, x.es), (x.v, x.t)]
def Apart (x y : Value × List Int) : Prop := ∀ k, x.1.ownBlock = some k → y.1.ownBlock = some k → False
theorem Apart.symm {x y : Value × List Int} (h : Apart x y) : Apart y x := fun k h1 h2 => h k h2 h1
theorem infoTurn : (Try.prog.info? 60).map (fun i => (i.zero, i.size, i.bytes)) = some (some (.agg #[.int .i64 0, .slice none 0 0, .int .i64 0, .slice none 0 0]), 4, 64) := by kernel_rfl
theorem row4_heap {w w' : World} {B n s : Nat} {T : TypeId} {v : Value} {us : List Value} (h : w.ownsRow B T s v n us) (hh : ∀ k, v.ownBlock = some k → w'.heap[k]? = w.heap[k]?) : w'.ownsRow B T s v n us := by
  refine ⟨h.1, ?_⟩
  rcases h.2 with h2 | ⟨g, cap, cur, rfl, hg, hb, r⟩
  · exact .inl h2
  · exact .inr ⟨g, cap, cur, rfl, hg, by rw [hh g rfl]; exact hb, r⟩
theorem row4_lower {w : World} {B B' n s : Nat} {T : TypeId} {v : Value} {us : List Value} (h : w.ownsRow B T s v n us) (hB : B' ≤ B) : w.ownsRow B' T s v n us := by
  obtain ⟨h1, h2⟩ := h
  refine ⟨h1, ?_⟩
  rcases h2 with h2 | ⟨g, cap, cur, hv, hg, r⟩
  · exact .inl h2
  · exact .inr ⟨g, cap, cur, hv, by omega, r⟩

/-- A list of talks, all its lists in blocks of their own, from block lo on and below hi. -/
structure OwnU (w : World) (lo hi : Nat) (v : Value) (d : List Tu) : Prop where
  outer : OutU w lo v d
  hi0 : ∀ k, v.ownBlock = some k → k < hi
  rows : ∀ z, z ∈ lstU d → Own w lo z.1 z.2
  his : ∀ z, z ∈ lstU d → ∀ k, z.1.ownBlock = some k → k < hi
  apart : (lstU d).Pairwise Apart
  apart0 : ∀ z, z ∈ lstU d → ∀ k, z.1.ownBlock = some k → v.ownBlock = some k → False
theorem OwnU.nil (w : World) (lo hi : Nat) : OwnU w lo hi (.slice none 0 0) [] :=
  ⟨World.ownsRow_nil _ _ _ _, fun k hk => by simp [Value.ownBlock] at hk, fun z hz => (by cases hz), fun z hz => (by cases hz), List.Pairwise.nil, fun z hz => (by cases hz)⟩
theorem OwnU.made (w : World) : OwnU (w.alloc (.cells #[] 60)) w.heap.size (w.heap.size + 1) (.slice (some ⟨w.heap.size, 0, none⟩) 0 0) [] :=
  ⟨World.ownsRow_made w #[] 0 (Nat.le_refl _) (Nat.zero_le _) rfl, fun k hk => by simp [Value.ownBlock] at hk; omega, fun z hz => (by cases hz), fun z hz => (by cases hz), List.Pairwise.nil, fun z hz => (by cases hz)⟩
section
variable {w w' : World} {lo lo' hi hi' : Nat} {v : Value} {d : List Tu}
theorem OwnU.heap (h : OwnU w lo hi v d) (hh : ∀ k, lo ≤ k → k < hi → w'.heap[k]? = w.heap[k]?) : OwnU w' lo hi v d :=
  ⟨row4_heap h.outer fun k hk => hh k (h.outer.lt k hk).1 (h.hi0 k hk), h.hi0, fun z hz => own_heap (h.rows z hz) fun k hk => hh k ((h.rows z hz).lt k hk).1 (h.his z hz k hk), h.his, h.apart, h.apart0⟩
theorem OwnU.on (h : OwnU w lo hi v d) (hb : Below w.heap.size w w') : OwnU w' lo hi v d :=
  ⟨row4_heap h.outer fun k hk => hb.block k (h.outer.lt k hk).2, h.hi0, fun z hz => own_heap (h.rows z hz) fun k hk => hb.block k ((h.rows z hz).lt k hk).2, h.his, h.apart, h.apart0⟩
theorem OwnU.wider (h : OwnU w lo hi v d) (hl : hi ≤ hi') : OwnU w lo hi' v d :=
  ⟨h.outer, fun k hk => Nat.lt_of_lt_of_le (h.hi0 k hk) hl, h.rows, fun z hz k hk => Nat.lt_of_lt_of_le (h.his z hz k hk) hl, h.apart, h.apart0⟩
theorem OwnU.lower (h : OwnU w lo hi v d) (hl : lo' ≤ lo) : OwnU w lo' hi v d :=
  ⟨row4_lower h.outer hl, h.hi0, fun z hz => own_mono (h.rows z hz) hl, h.his, h.apart, h.apart0⟩
theorem OwnU.full (h : OwnU w lo hi v d) : OwnU w lo w.heap.size v d :=
  ⟨h.outer, fun k hk => (h.outer.lt k hk).2, h.rows, fun z hz k hk => ((h.rows z hz).lt k hk).2, h.apart, h.apart0⟩
theorem lstU_mem {x : Tu} (hx : x ∈ d) : (x.u, x.es) ∈ lstU d ∧ (x.v, x.t) ∈ lstU d := ⟨List.mem_flatMap.2 ⟨x, hx, by simp⟩, List.mem_flatMap.2 ⟨x, hx, by simp⟩⟩
theorem lstU_app (d e : List Tu) : lstU (d ++ e) = lstU d ++ lstU e := List.flatMap_append
theorem lstU_one (x : Tu) : lstU [x] = [(x.u, x.es), (x.v, x.t)] := rfl
theorem lstU_of {z : Value × List Int} (hz : z ∈ lstU d) : ∃ x, x ∈ d ∧ (z = (x.u, x.es) ∨ z = (x.v, x.t)) := by
  obtain ⟨x, hx, h⟩ := List.mem_flatMap.1 hz
  exact ⟨x, hx, by simpa using h⟩
end
/-- The same talks in another order. -/
theorem OwnU.perm {w w' : World} {lo hi : Nat} {v : Value} {d d' : List Tu} (h : OwnU w lo hi v d) (hp : d'.Perm d) (ho : OutU w' lo v d') (hg : w.grownBy w' v.ownBlock) : OwnU w' lo hi v d' := by
  have hl : (lstU d').Perm (lstU d) := hp.flatMap_right _
  have hm : ∀ z, z ∈ lstU d' → z ∈ lstU d := fun z hz => hl.mem_iff.1 hz
  refine ⟨ho, h.hi0, fun z hz => (h.rows z (hm z hz)).kept hg ?_, fun z hz => h.his z (hm z hz), (hl.pairwise_iff fun hxy => Apart.symm hxy).2 h.apart, fun z hz => h.apart0 z (hm z hz)⟩
  cases hv : z.1.ownBlock with
  | none => exact .inl rfl
  | some k => exact .inr fun e => h.apart0 z (hm z hz) k hv e.symm
/-- A talk more. -/
theorem OwnU.app {w3 w4 : World} {lo hi hi' : Nat} {v v' : Value} {d : List Tu} {x : Tu} (h : OwnU w3 lo hi v d) (hh : hi ≤ hi') (h3 : w3.heap.size ≤ w4.heap.size) (h4 : w4.heap.size ≤ hi')
    (hu : Own w3 lo x.u x.es) (hv : Own w3 lo x.v x.t) (huv : ∀ k, x.u.ownBlock = some k → x.v.ownBlock = some k → False)
    (hd : ∀ z, z ∈ lstU d → ∀ k, z.1.ownBlock = some k → (x.u.ownBlock = some k → False) ∧ (x.v.ownBlock = some k → False)) (h0 : ∀ k, v.ownBlock = some k → (x.u.ownBlock = some k → False) ∧ (x.v.ownBlock = some k → False))
    (ho : OutU w4 lo v' (d ++ [x])) (hg : w3.grownBy w4 v.ownBlock) (hk : v'.ownBlock = v.ownBlock ∨ ∃ k, v'.ownBlock = some k ∧ w3.heap.size ≤ k) : OwnU w4 lo hi' v' (d ++ [x]) := by
  have keep : ∀ {y : Value} {zs : List Int}, Own w3 lo y zs → (∀ k, y.ownBlock = some k → v.ownBlock = some k → False) → Own w4 lo y zs := fun {y zs} hx hn =>
    hx.kept hg (by
      cases hv : y.ownBlock with
      | none => exact .inl rfl
      | some k => exact .inr fun e => hn k hv e.symm)
  have new0 : ∀ {y : Value} {zs : List Int}, Own w3 lo y zs → (∀ k, y.ownBlock = some k → v.ownBlock = some k → False) → ∀ k, y.ownBlock = some k → v'.ownBlock = some k → False := fun {y zs} hx hn k h1 h2 => by
    rcases hk with hk | ⟨m, hm, hl⟩
    · exact hn k h1 (by rw [← hk]; exact h2)
    · have := (hx.lt k h1).2
      rw [hm] at h2; cases h2; omega
  have nu : ∀ k, x.u.ownBlock = some k → v.ownBlock = some k → False := fun k h1 h2 => (h0 k h2).1 h1
  have nv : ∀ k, x.v.ownBlock = some k → v.ownBlock = some k → False := fun k h1 h2 => (h0 k h2).2 h1
  have cs : ∀ z, z ∈ lstU (d ++ [x]) → z ∈ lstU d ∨ z = (x.u, x.es) ∨ z = (x.v, x.t) := fun z hz => by
    rw [lstU_app, lstU_one, List.mem_append] at hz
    rcases hz with hz | hz
    · exact .inl hz
    · exact .inr (by simpa using hz)
  refine ⟨ho, fun k hk' => Nat.lt_of_lt_of_le (ho.lt k hk').2 h4, fun z hz => ?_, fun z hz k hk' => ?_, ?_, fun z hz k h1 h2 => ?_⟩
  · rcases cs z hz with hz | rfl | rfl
    · exact keep (h.rows z hz) (h.apart0 z hz)
    · exact keep hu nu
    · exact keep hv nv
  · rcases cs z hz with hz | rfl | rfl
    · exact Nat.lt_of_lt_of_le (h.his z hz k hk') hh
    · exact Nat.lt_of_lt_of_le (hu.lt k hk').2 (Nat.le_trans h3 h4)
    · exact Nat.lt_of_lt_of_le (hv.lt k hk').2 (Nat.le_trans h3 h4)
  · rw [lstU_app, lstU_one, List.pairwise_append]
    refine ⟨h.apart, ?_, fun z hz y hy => ?_⟩
    · simp only [List.pairwise_cons, List.mem_singleton, forall_eq, List.not_mem_nil, false_implies, implies_true, List.Pairwise.nil, and_true]
      exact huv
    · simp only [List.mem_cons, List.not_mem_nil, or_false] at hy
      rcases hy with rfl | rfl
      · exact fun k h1 h2 => (hd z hz k h1).1 h2
      · exact fun k h1 h2 => (hd z hz k h1).2 h2
  · rcases cs z hz with hz | rfl | rfl
    · exact new0 (h.rows z hz) (h.apart0 z hz) k h1 h2
    · exact new0 hu nu k h1 h2
    · exact new0 hv nv k h1 h2
/-- A talk whose lists are new goes behind those that are old. -/
theorem OwnU.appNew {w2 w3 w4 : World} {lo hi : Nat} {v v' : Value} {d : List Tu} {x : Tu} (h : OwnU w2 lo hi v d) (hb : Below w2.heap.size w2 w3) (hlo : lo ≤ w2.heap.size) (h3 : w3.heap.size ≤ w4.heap.size)
    (hu : Own w3 w2.heap.size x.u x.es) (hv : Own w3 w2.heap.size x.v x.t) (huv : ∀ k, x.u.ownBlock = some k → x.v.ownBlock = some k → False)
    (ho : OutU w4 lo v' (d ++ [x])) (hg : w3.grownBy w4 v.ownBlock) (hk : v'.ownBlock = v.ownBlock ∨ ∃ k, v'.ownBlock = some k ∧ w3.heap.size ≤ k) : OwnU w4 lo w4.heap.size v' (d ++ [x]) := by
  have hs := hb.size
  have h2 := h.on hb
  refine OwnU.app h2.full (by omega) h3 (Nat.le_refl _) (own_mono hu hlo) (own_mono hv hlo) huv (fun z hz k hk' => ?_) (fun k hk' => ?_) ho hg hk
  · have hz2 := ((h.rows z hz).lt k hk').2
    exact ⟨fun e => by have := (hu.lt k e).1; omega, fun e => by have := (hv.lt k e).1; omega⟩
  · have hz2 := (h.outer.lt k hk').2
    exact ⟨fun e => by have := (hu.lt k e).1; omega, fun e => by have := (hv.lt k e).1; omega⟩
theorem flatU_len : ∀ d : List Tu, (d.flatMap encU).length = d.length * 4
  | [] => rfl
  | x :: d => by rw [List.flatMap_cons, List.length_append, flatU_len d, List.length_cons]; simp [encU]; omega
theorem flatU_get : ∀ (d : List Tu) (t : Nat), t < d.length * 4 → (d.flatMap encU)[t]? = some ((encU (d[t / 4]!))[t % 4]!)
  | [], t, h => by simp at h
  | x :: d, t, h => by
    rw [List.flatMap_cons]
    by_cases h3 : t < 4
    · match t, h3 with
      | 0, _ => rfl
      | 1, _ => rfl
      | 2, _ => rfl
      | 3, _ => rfl
    · obtain ⟨s, rfl⟩ : ∃ s, t = s + 4 := ⟨t - 4, by omega⟩
      rw [List.getElem?_append_right (by simp [encU])]
      have e : s + 4 - (encU x).length = s := by simp [encU]
      rw [e, flatU_get d s (by simp at h; omega), show (s + 4) / 4 = s / 4 + 1 by omega, show (s + 4) % 4 = s % 4 by omega]
      simp
theorem OwnU.form {w : World} {lo hi : Nat} {v : Value} {d : List Tu} (h : OwnU w lo hi v d) : (∃ a c, v = .slice a d.length c) ∧ (0 < d.length → ∃ g cap, v = .slice (some ⟨g, 0, none⟩) d.length cap) := by
  rcases id h.outer.2 with ⟨rfl, h0⟩ | ⟨g, cap, cur, rfl, _⟩
  · exact ⟨⟨none, 0, by rw [h0]⟩, fun hp => by omega⟩
  · exact ⟨⟨_, _, rfl⟩, fun _ => ⟨_, _, rfl⟩⟩
/-- Talk i of the list, as its four cells. -/
theorem outU_at {w : World} {B g n cap : Nat} {d : List Tu} (h : OutU w B (.slice (some ⟨g, 0, none⟩) n cap) d) (hn : d.length = n) {i : Nat} (hi : i < n) :
    w.cell? ⟨g, i * 4, none⟩ = some (.int .i64 (d[i]!).p) ∧ w.cell? ⟨g, i * 4 + 1, none⟩ = some (d[i]!).u ∧ w.cell? ⟨g, i * 4 + 2, none⟩ = some (.int .i64 (d[i]!).a) ∧ w.cell? ⟨g, i * 4 + 3, none⟩ = some (d[i]!).v := by
  subst hn
  have c : ∀ j, j < 4 → w.cell? ⟨g, i * 4 + j, none⟩ = some ((encU (d[i]!))[j]!) := fun j hj => by
    rw [h.cellAt (i * 4 + j) (by omega), flatU_get d (i * 4 + j) (by omega), show (i * 4 + j) / 4 = i by omega, show (i * 4 + j) % 4 = j by omega]
  exact ⟨c 0 (by omega), c 1 (by omega), c 2 (by omega), c 3 (by omega)⟩
theorem setU_flat (x : Tu) : ∀ (d : List Tu) (i : Nat), i < d.length →
    ((((d.flatMap encU).set (i * 4) (.int .i64 x.p)).set (i * 4 + 1) x.u).set (i * 4 + 2) (.int .i64 x.a)).set (i * 4 + 3) x.v = (d.set i x).flatMap encU
  | [], _, h => by simp at h
  | y :: d, 0, _ => by simp [encU]
  | y :: d, i + 1, h => by
    have ih := setU_flat x d i (by simpa using h)
    rw [List.set_cons_succ, List.flatMap_cons, List.flatMap_cons, ← ih]
    have e : ∀ (m : Nat) (l : List Value) (v : Value), (encU y ++ l).set (m + 4) v = encU y ++ l.set m v := fun m l v => by
      rw [List.set_append_right _ _ (by simp [encU])]; simp [encU]
    rw [show (i + 1) * 4 = i * 4 + 4 by omega, show i * 4 + 4 + 1 = i * 4 + 1 + 4 by omega, show i * 4 + 4 + 2 = i * 4 + 2 + 4 by omega, show i * 4 + 4 + 3 = i * 4 + 3 + 4 by omega, e, e, e, e]
/-- A talk stored into the list. -/
theorem outU_set {w : World} {B g n cap : Nat} {d : List Tu} (h : OutU w B (.slice (some ⟨g, 0, none⟩) n cap) d) (hn : d.length = n) {i : Nat} (hi : i < n) (x : Tu) :
    OutU ((((w.setCell ⟨g, i * 4, none⟩ (.int .i64 x.p)).setCell ⟨g, i * 4 + 1, none⟩ x.u).setCell ⟨g, i * 4 + 2, none⟩ (.int .i64 x.a)).setCell ⟨g, i * 4 + 3, none⟩ x.v) B (.slice (some ⟨g, 0, none⟩) n cap) (d.set i x) := by
  subst hn
  unfold OutU
  rw [List.length_set, ← setU_flat x d i hi]
  exact ((((h.stored (i * 4) (.int .i64 x.p)).1.stored (i * 4 + 1) x.u).1.stored (i * 4 + 2) (.int .i64 x.a)).1.stored (i * 4 + 3) x.v).1
theorem OwnU.ints {w : World} {lo hi : Nat} {v : Value} {d : List Tu} (h : OwnU w lo hi v d) {i : Nat} (hi' : i < d.length) (h1 : (d[i]!).es.length ≤ maxLen) (h2 : (d[i]!).t.length ≤ maxLen) : Ints w (d[i]!).u (d[i]!).es ∧ Ints w (d[i]!).v (d[i]!).t := by
  have hm : d[i]! ∈ d := by rw [getElem!_pos d i hi']; exact List.getElem_mem _
  exact ⟨Ints.of_own (h.rows _ (lstU_mem hm).1) h1, Ints.of_own (h.rows _ (lstU_mem hm).2) h2⟩

/-- append of one talk to an owned list of talks. -/
theorem wpAppTurn {ops : Array Oper} {rest : List Oper} {o : Oper} {a : Act} {Q : Exit → Act → World → Prop} {w3 : World} {B : Nat} {v : Value} {d : List Tu} {x : Tu} {T : TypeId} (hgd : o.guard = none) (s y : Operand)
    (ho : o.op = .call { callee := .builtin .append, args := #[s, y], argTypes := #[34, 34] }) (hs : a.eval s = v) (hown : OutU w3 B v d) (hl : d.length < 1000000) (hB : B ≤ w3.heap.size) (hu : x.u.oneCell' = true) (hv : x.v.oneCell' = true) (hx : a.eval y = .slice (some ⟨w3.heap.size, 0, none⟩) 1 1)
    (h : ∀ v' w4, OutU w4 B v' (d ++ [x]) → w3.grownBy w4 v.ownBlock → (v'.ownBlock = v.ownBlock ∨ ∃ k, v'.ownBlock = some k ∧ w3.heap.size ≤ k) → wpList Try.prog ops Q rest (a.put o.dst v') w4) :
    wpList Try.prog ops Q (o :: rest) a (w3.alloc (.cells #[.int .i64 x.p, x.u, .int .i64 x.a, x.v] T)) := by
  obtain ⟨i0, hi, hz0, hz1, hz2⟩ := info_parts infoTurn
  refine wpList_append_own_at (w3.alloc (.cells #[.int .i64 x.p, x.u, .int .i64 x.a, x.v] T)) hgd s y 34 ho B 60 i0 (.agg #[.int .i64 0, .slice none 0 0, .int .i64 0, .slice none 0 0]) 4 64 Try.underlying34 hi hz0 hz1 hz2 rfl (by decide) v d.length _ hs (hown.alloc _) ⟨w3.heap.size, 0, none⟩ 1 1 (encU x) hx rfl ?_ ?_ ?_ ?_ ?_ ?_
  · intro j u hj
    have hb := (Box.made w3 [.int .i64 x.p, x.u, .int .i64 x.a, x.v] T).cell j
    rw [show (⟨w3.heap.size, 0, none⟩ : Addr).add j = ⟨w3.heap.size, j, none⟩ by unfold Addr.add; split <;> simp_all]
    exact hb.trans hj
  · intro u' hu'
    simp [encU] at hu'
    rcases hu' with rfl | rfl | rfl | rfl
    · rfl
    · exact hu
    · rfl
    · exact hv
  · unfold maxLen; omega
  · omega
  · simp; omega
  · intro v' w4 h1 h2 _ h4
    refine h v' w4 ?_ ?_ ?_
    · unfold OutU; rw [List.length_append, List.flatMap_append]; simpa [encU] using h1
    · exact ⟨h2.os, h2.tape, h2.output, Nat.le_trans (by simp) h2.size, fun k hk hne => (h2.block k (by simp; omega) hne).trans (Below.heap_alloc w3 _ k hk)⟩
    · rcases h4 with h4 | h4
      · exact .inl h4
      · exact .inr ⟨_, h4, by simp⟩
/-! ### talks written anew in place -/
def valU (x : Tu) : Int × List Int × Int × List Int := (x.p, x.es, x.a, x.t)
def twoU (x : Tu) : List (Value × List Int) := [(x.u, x.es), (x.v, x.t)]
theorem flat_set_same {β : Type} (f : Tu → List β) {d : List Tu} {k : Nat} {x : Tu} (hk : k < d.length) (e : f x = f (d[k]!)) : (d.set k x).flatMap f = d.flatMap f := by
  rw [List.flatMap_def, List.flatMap_def, List.map_set, e]
  congr 1
  rw [getElem!_pos d k hk, ← List.getElem_map f (h := by simpa using hk)]
  exact List.set_getElem_self _
theorem lstU_set {d : List Tu} {k : Nat} {x : Tu} {z : Value × List Int} (hz : z ∈ lstU (d.set k x)) : z ∈ twoU x ∨ ∃ i, i ≠ k ∧ i < d.length ∧ z ∈ twoU (d[i]!) := by
  obtain ⟨y, hy, hzy⟩ := List.mem_flatMap.1 hz
  obtain ⟨i, hi, e⟩ := List.getElem_of_mem hy
  rw [List.length_set] at hi
  rw [List.getElem_set] at e
  by_cases hik : k = i
  · rw [if_pos hik] at e; subst e; exact .inl hzy
  · rw [if_neg hik] at e
    refine .inr ⟨i, fun h => hik h.symm, hi, ?_⟩
    rw [getElem!_pos d i hi, e]; exact hzy
theorem twoU_mem {d : List Tu} {i : Nat} (hi : i < d.length) {z : Value × List Int} (hz : z ∈ twoU (d[i]!)) : z ∈ lstU d :=
  List.mem_flatMap.2 ⟨d[i]!, by rw [getElem!_pos d i hi]; exact List.getElem_mem _, hz⟩
theorem OwnU.sep {w : World} {lo hi : Nat} {v : Value} {d : List Tu} (h : OwnU w lo hi v d) {i k : Nat} (hik : i ≠ k) (hi' : i < d.length) (hk : k < d.length) {z y : Value × List Int} (hz : z ∈ twoU (d[i]!)) (hy : y ∈ twoU (d[k]!)) : Apart z y := by
  have hp := h.apart
  unfold lstU at hp
  rw [List.pairwise_flatMap] at hp
  have h2 := List.pairwise_iff_getElem.1 hp.2
  rw [getElem!_pos d i hi'] at hz
  rw [getElem!_pos d k hk] at hy
  rcases Nat.lt_or_gt_of_ne hik with c | c
  · exact h2 i k hi' hk c z hz y hy
  · exact (h2 k i hk hi' c y hy z hz).symm
theorem OwnU.own_sep {w : World} {lo hi : Nat} {v : Value} {d : List Tu} (h : OwnU w lo hi v d) {k : Nat} (hk : k < d.length) : ∀ b, (d[k]!).u.ownBlock = some b → (d[k]!).v.ownBlock = some b → False := by
  have hp := h.apart
  unfold lstU at hp
  rw [List.pairwise_flatMap] at hp
  have h1 := hp.1 (d[k]!) (by rw [getElem!_pos d k hk]; exact List.getElem_mem _)
  exact (List.pairwise_cons.1 h1).1 ((d[k]!).v, (d[k]!).t) (by simp)
/-- The order of the blocks says which lists are apart: it does not hang on what they hold. -/
theorem apart_fst {a b : List (Value × List Int)} (e : a.map Prod.fst = b.map Prod.fst) (h : b.Pairwise Apart) : a.Pairwise Apart := by
  have h1 : (b.map Prod.fst).Pairwise (fun x y : Value => ∀ k, x.ownBlock = some k → y.ownBlock = some k → False) := by rw [List.pairwise_map]; exact h
  rw [← e, List.pairwise_map] at h1
  exact h1
theorem lstU_fst {d : List Tu} {k : Nat} {x : Tu} (hk : k < d.length) (eu : x.u = (d[k]!).u) (ev : x.v = (d[k]!).v) : (lstU (d.set k x)).map Prod.fst = (lstU d).map Prod.fst := by
  have e : ∀ l : List Tu, (lstU l).map Prod.fst = l.flatMap fun x => [x.u, x.v] := fun l => by unfold lstU; rw [List.map_flatMap]; rfl
  rw [e, e]
  exact flat_set_same _ hk (by rw [eu, ev])
/-- A list of a talk written to. -/
theorem OwnU.updIn {w w' : World} {lo hi : Nat} {v : Value} {d : List Tu} {r : Option Nat} (h : OwnU w lo hi v d) {k : Nat} (hk : k < d.length) {x : Tu} (ep : x.p = (d[k]!).p) (ea : x.a = (d[k]!).a) (eu : x.u = (d[k]!).u) (ev : x.v = (d[k]!).v)
    (hr : r = x.u.ownBlock ∨ r = x.v.ownBlock) (hu : Own w' lo x.u x.es) (hv : Own w' lo x.v x.t) (hg : w.grownBy w' r) : OwnU w' lo hi v (d.set k x) := by
  have hmk := lstU_mem (d := d) (x := d[k]!) (by rw [getElem!_pos d k hk]; exact List.getElem_mem _)
  have hrb : ∀ b, r = some b → x.u.ownBlock = some b ∨ x.v.ownBlock = some b := fun b hb => by
    rcases hr with e | e
    · exact .inl (e.symm.trans hb)
    · exact .inr (e.symm.trans hb)
  have hv0 : ∀ b, v.ownBlock = some b → r = some b → False := fun b h1 h2 => by
    rcases hrb b h2 with e | e
    · exact h.apart0 _ hmk.1 b (by rw [eu] at e; exact e) h1
    · exact h.apart0 _ hmk.2 b (by rw [ev] at e; exact e) h1
  have hkeep : ∀ {i : Nat}, i ≠ k → i < d.length → ∀ {z : Value × List Int}, z ∈ twoU (d[i]!) → ∀ b, z.1.ownBlock = some b → r = some b → False := fun {i} hik hi' {z} hz b h1 h2 => by
    rcases hrb b h2 with e | e
    · exact h.sep hik hi' hk hz (y := ((d[k]!).u, (d[k]!).es)) (by simp [twoU]) b h1 (by rw [eu] at e; exact e)
    · exact h.sep hik hi' hk hz (y := ((d[k]!).v, (d[k]!).t)) (by simp [twoU]) b h1 (by rw [ev] at e; exact e)
  have cs : ∀ z, z ∈ twoU x → z = (x.u, x.es) ∨ z = (x.v, x.t) := fun z hz => by simpa [twoU] using hz
  refine ⟨?_, h.hi0, fun z hz => ?_, fun z hz b hb => ?_, apart_fst (lstU_fst hk eu ev) h.apart, fun z hz b h1 h2 => ?_⟩
  · unfold OutU
    rw [List.length_set, flat_set_same encU hk (by unfold encU; rw [ep, ea, eu, ev])]
    exact h.outer.kept hg (by
      cases hv' : v.ownBlock with
      | none => exact .inl rfl
      | some b => exact .inr fun e => hv0 b hv' e.symm)
  · rcases lstU_set hz with hz | ⟨i, hik, hi', hz⟩
    · rcases cs z hz with rfl | rfl
      · exact hu
      · exact hv
    · exact (h.rows z (twoU_mem hi' hz)).kept hg (by
        cases hz' : z.1.ownBlock with
        | none => exact .inl rfl
        | some b => exact .inr fun e => hkeep hik hi' hz b hz' e.symm)
  · rcases lstU_set hz with hz | ⟨i, hik, hi', hz⟩
    · rcases cs z hz with rfl | rfl
      · exact h.his _ hmk.1 b (by rw [eu] at hb; exact hb)
      · exact h.his _ hmk.2 b (by rw [ev] at hb; exact hb)
    · exact h.his z (twoU_mem hi' hz) b hb
  · rcases lstU_set hz with hz | ⟨i, hik, hi', hz⟩
    · rcases cs z hz with rfl | rfl
      · exact h.apart0 _ hmk.1 b (by rw [eu] at h1; exact h1) h2
      · exact h.apart0 _ hmk.2 b (by rw [ev] at h1; exact h1) h2
    · exact h.apart0 z (twoU_mem hi' hz) b h1 h2
/-- A number of a talk written to. -/
theorem OwnU.updOut {w w' : World} {lo hi : Nat} {v : Value} {d : List Tu} (h : OwnU w lo hi v d) {k : Nat} (hk : k < d.length) {x : Tu} (e2 : twoU x = twoU (d[k]!)) (ho : OutU w' lo v (d.set k x)) (hg : w.grownBy w' v.ownBlock) : OwnU w' lo hi v (d.set k x) := by
  have hl : lstU (d.set k x) = lstU d := flat_set_same twoU hk e2
  refine ⟨ho, h.hi0, fun z hz => ?_, fun z hz => h.his z (by rw [← hl]; exact hz), by rw [hl]; exact h.apart, fun z hz => h.apart0 z (by rw [← hl]; exact hz)⟩
  rw [hl] at hz
  exact (h.rows z hz).kept hg (by
    cases hz' : z.1.ownBlock with
    | none => exact .inl rfl
    | some b => exact .inr fun e => h.apart0 z hz b hz' e.symm)
theorem setU_p (m : Int) : ∀ (d : List Tu) (i : Nat), i < d.length → (d.flatMap encU).set (i * 4) (.int .i64 m) = (d.set i { d[i]! with p := m }).flatMap encU
  | [], _, h => by simp at h
  | y :: d, 0, _ => by simp [encU]
  | y :: d, i + 1, h => by
    have ih := setU_p m d i (by simpa using h)
    rw [List.set_cons_succ, List.flatMap_cons, List.flatMap_cons, show (y :: d)[i + 1]! = d[i]! by simp, ← ih, show (i + 1) * 4 = i * 4 + 4 by omega, List.set_append_right _ _ (by simp [encU])]
    simp [encU]
theorem setU_a (m : Int) : ∀ (d : List Tu) (i : Nat), i < d.length → (d.flatMap encU).set (i * 4 + 2) (.int .i64 m) = (d.set i { d[i]! with a := m }).flatMap encU
  | [], _, h => by simp at h
  | y :: d, 0, _ => by simp [encU]
  | y :: d, i + 1, h => by
    have ih := setU_a m d i (by simpa using h)
    rw [List.set_cons_succ, List.flatMap_cons, List.flatMap_cons, show (y :: d)[i + 1]! = d[i]! by simp, ← ih, show (i + 1) * 4 + 2 = i * 4 + 2 + 4 by omega, List.set_append_right _ _ (by simp [encU])]
    simp [encU]
theorem OwnU.setP {w : World} {lo hi g n cap : Nat} {d : List Tu} (h : OwnU w lo hi (.slice (some ⟨g, 0, none⟩) n cap) d) (hn : d.length = n) {k : Nat} (hk : k < n) (m : Int) :
    (w.frozen? ⟨g, k * 4, none⟩ = false ∧ ∃ u, w.cell? ⟨g, k * 4, none⟩ = some u) ∧ OwnU (w.setCell ⟨g, k * 4, none⟩ (.int .i64 m)) lo hi (.slice (some ⟨g, 0, none⟩) n cap) (d.set k { d[k]! with p := m }) ∧ w.grownBy (w.setCell ⟨g, k * 4, none⟩ (.int .i64 m)) (some g) := by
  subst hn
  have hst := h.outer.stored (k * 4) (.int .i64 m)
  refine ⟨⟨h.outer.frozenAt _, _, (outU_at h.outer rfl hk).1⟩, h.updOut hk rfl ?_ hst.2, hst.2⟩
  have := hst.1
  rw [setU_p m d k hk] at this
  unfold OutU; rw [List.length_set]; exact this
theorem OwnU.setA {w : World} {lo hi g n cap : Nat} {d : List Tu} (h : OwnU w lo hi (.slice (some ⟨g, 0, none⟩) n cap) d) (hn : d.length = n) {k : Nat} (hk : k < n) (m : Int) :
    (w.frozen? ⟨g, k * 4 + 2, none⟩ = false ∧ ∃ u, w.cell? ⟨g, k * 4 + 2, none⟩ = some u) ∧ OwnU (w.setCell ⟨g, k * 4 + 2, none⟩ (.int .i64 m)) lo hi (.slice (some ⟨g, 0, none⟩) n cap) (d.set k { d[k]! with a := m }) ∧ w.grownBy (w.setCell ⟨g, k * 4 + 2, none⟩ (.int .i64 m)) (some g) := by
  subst hn
  have hst := h.outer.stored (k * 4 + 2) (.int .i64 m)
  refine ⟨⟨h.outer.frozenAt _, _, (outU_at h.outer rfl hk).2.2.1⟩, h.updOut hk rfl ?_ hst.2, hst.2⟩
  have := hst.1
  rw [setU_a m d k hk] at this
  unfold OutU; rw [List.length_set]; exact this
end Go.Proofs.Ytlcegpmhlnilfaa

/- Lists of talks on graphs: marked. -/
namespace Go.Proofs.Ytlcegpmhlnilfaa
open Go.RowKit

/-- How many numbers the first k talks have. -/
def cntU (d : List Tu) : Nat → Nat
  | 0 => 0
  | k + 1 => cntU d k + (2 + (d[k]!).es.length + (d[k]!).t.length)
def markU1 (x : Tu) (m : Int) : Tu := { x with p := m, es := markTo x.es (m + 1) x.es.length, a := m + 1 + x.es.length, t := markTo x.t (m + 1 + x.es.length + 1) x.t.length }
def mkU (d : List Tu) (m : Int) : Nat → List Tu
  | 0 => d
  | k + 1 => (mkU d m k).set k (markU1 (d[k]!) (m + cntU d k))
theorem mkU_len (d : List Tu) (m : Int) : ∀ k, (mkU d m k).length = d.length
  | 0 => rfl
  | k + 1 => by rw [mkU, List.length_set]; exact mkU_len d m k
theorem mkU_at (d : List Tu) (m : Int) : ∀ k j, j < d.length → (mkU d m k)[j]! = if j < k then markU1 (d[j]!) (m + cntU d j) else d[j]!
  | 0, j, _ => by simp [mkU]
  | k + 1, j, hj => by
    have hl := mkU_len d m k
    rw [mkU, getElem!_pos _ j (by rw [List.length_set, hl]; exact hj), List.getElem_set]
    by_cases e : k = j
    · subst e; rw [if_pos rfl, if_pos (Nat.lt_succ_self _)]
    · rw [if_neg e, ← getElem!_pos (mkU d m k) j (by rw [hl]; exact hj), mkU_at d m k j hj]
      by_cases c : j < k
      · rw [if_pos c, if_pos (by omega)]
      · rw [if_neg c, if_neg (by omega)]
structure FewU (d : List Tu) : Prop where
  len : d.length ≤ 1000
  el : ∀ k, k < d.length → (d[k]!).es.length ≤ 1000 ∧ (d[k]!).t.length ≤ 1000
theorem cntU_few {d : List Tu} (h : FewU d) : ∀ k, k ≤ d.length → cntU d k ≤ 2002 * k
  | 0, _ => by simp [cntU]
  | k + 1, hk => by
    have h1 := cntU_few h k (by omega)
    have h2 := h.el k (by omega)
    rw [cntU]; omega
theorem FewU.ints {d : List Tu} {w : World} {lo hi : Nat} {v : Value} (f : FewU d) (h : OwnU w lo hi v d) {k : Nat} (hk : k < d.length) : Ints w (d[k]!).u (d[k]!).es ∧ Ints w (d[k]!).v (d[k]!).t :=
  h.ints hk (by have := (f.el k hk).1; unfold maxLen; omega) (by have := (f.el k hk).2; unfold maxLen; omega)
theorem set_get {D : List Tu} {k : Nat} {y : Tu} (hk : k < D.length) : (D.set k y)[k]! = y := by
  rw [getElem!_pos _ k (by rw [List.length_set]; exact hk)]; simp
section
variable {w w' : World} {lo hi g n cap k : Nat} {v : Value} {D : List Tu} {x y : Tu}
theorem OwnU.p1 (h : OwnU w lo hi (.slice (some ⟨g, 0, none⟩) n cap) D) (hn : D.length = n) (hk : k < n) (hx : D[k]! = x) (m : Int) :
    (w.frozen? ⟨g, k * 4, none⟩ = false ∧ ∃ u, w.cell? ⟨g, k * 4, none⟩ = some u) ∧ OwnU (w.setCell ⟨g, k * 4, none⟩ (.int .i64 m)) lo hi (.slice (some ⟨g, 0, none⟩) n cap) (D.set k { x with p := m }) ∧ Outside lo hi w (w.setCell ⟨g, k * 4, none⟩ (.int .i64 m)) := by
  subst hx
  obtain ⟨a, b, c⟩ := h.setP hn hk m
  exact ⟨a, b, Outside.of_grown c fun q e => by cases e; exact ⟨(h.outer.lt g rfl).1, h.hi0 g rfl⟩⟩
theorem OwnU.a1 (h : OwnU w lo hi (.slice (some ⟨g, 0, none⟩) n cap) (D.set k y)) (hn : D.length = n) (hk : k < n) (m : Int) :
    (w.frozen? ⟨g, k * 4 + 2, none⟩ = false ∧ ∃ u, w.cell? ⟨g, k * 4 + 2, none⟩ = some u) ∧ OwnU (w.setCell ⟨g, k * 4 + 2, none⟩ (.int .i64 m)) lo hi (.slice (some ⟨g, 0, none⟩) n cap) (D.set k { y with a := m }) ∧ Outside lo hi w (w.setCell ⟨g, k * 4 + 2, none⟩ (.int .i64 m)) := by
  obtain ⟨a, b, c⟩ := h.setA (by rw [List.length_set]; exact hn) hk m
  rw [set_get (by omega), List.set_set] at b
  exact ⟨a, b, Outside.of_grown c fun q e => by cases e; exact ⟨(h.outer.lt g rfl).1, h.hi0 g rfl⟩⟩
theorem OwnU.mem1 (h : OwnU w lo hi v (D.set k y)) (hk : k < D.length) : (Own w lo y.u y.es ∧ ∀ q, y.u.ownBlock = some q → lo ≤ q ∧ q < hi) ∧ (Own w lo y.v y.t ∧ ∀ q, y.v.ownBlock = some q → lo ≤ q ∧ q < hi) ∧ ∀ q, y.u.ownBlock = some q → y.v.ownBlock = some q → False := by
  have hm := lstU_mem (d := D.set k y) (x := y) (by
    have := List.getElem_mem (l := D.set k y) (n := k) (by rw [List.length_set]; exact hk)
    simpa using this)
  have hs := h.own_sep (k := k) (by rw [List.length_set]; exact hk)
  rw [set_get hk] at hs
  have h1 := h.rows _ hm.1
  have h2 := h.rows _ hm.2
  exact ⟨⟨h1, fun q hq => ⟨(h1.lt q hq).1, h.his _ hm.1 q hq⟩⟩, ⟨h2, fun q hq => ⟨(h2.lt q hq).1, h.his _ hm.2 q hq⟩⟩, hs⟩
theorem OwnU.l1 (h : OwnU w lo hi v (D.set k y)) (hk : k < D.length) {ys : List Int} (ho : Own w' lo y.u ys) (hg : w.grownBy w' y.u.ownBlock) : OwnU w' lo hi v (D.set k { y with es := ys }) ∧ Outside lo hi w w' := by
  obtain ⟨⟨_, a2⟩, ⟨b1, _⟩, c⟩ := h.mem1 hk
  have e := set_get (y := y) hk
  have := h.updIn (k := k) (w' := w') (x := { y with es := ys }) (r := y.u.ownBlock) (by rw [List.length_set]; exact hk) (by rw [e]) (by rw [e]) (by rw [e]) (by rw [e]) (.inl rfl) ho (b1.kept hg (by
    cases hv' : y.v.ownBlock with
    | none => exact .inl rfl
    | some q => exact .inr fun e => c q e.symm hv')) hg
  rw [List.set_set] at this
  exact ⟨this, Outside.of_grown hg a2⟩
theorem OwnU.l2 (h : OwnU w lo hi v (D.set k y)) (hk : k < D.length) {ys : List Int} (ho : Own w' lo y.v ys) (hg : w.grownBy w' y.v.ownBlock) : OwnU w' lo hi v (D.set k { y with t := ys }) ∧ Outside lo hi w w' := by
  obtain ⟨⟨a1, _⟩, ⟨_, b2⟩, c⟩ := h.mem1 hk
  have e := set_get (y := y) hk
  have := h.updIn (k := k) (w' := w') (x := { y with t := ys }) (r := y.v.ownBlock) (by rw [List.length_set]; exact hk) (by rw [e]) (by rw [e]) (by rw [e]) (by rw [e]) (.inr rfl) (a1.kept hg (by
    cases hv' : y.u.ownBlock with
    | none => exact .inl rfl
    | some q => exact .inr fun e => c q hv' e.symm)) ho hg
  rw [List.set_set] at this
  exact ⟨this, Outside.of_grown hg b2⟩
theorem OwnU.cells (h : OwnU w lo hi (.slice (some ⟨g, 0, none⟩) n cap) (D.set k y)) (hn : D.length = n) (hk : k < n) : w.cell? ⟨g, k * 4 + 1, none⟩ = some y.u ∧ w.cell? ⟨g, k * 4 + 3, none⟩ = some y.v := by
  have := outU_at h.outer (by rw [List.length_set]; exact hn) hk
  rw [set_get (by omega)] at this
  exact ⟨this.2.1, this.2.2.2⟩
end

set_option maxHeartbeats 3200000 in
theorem mkU_any (lo hi : Nat) (v : Value) (d : List Tu) (w : World) (h : OwnU w lo hi v d) (f : FewU d) :
    Calls Try.prog 22 #[v, .int .i64 1] w fun e w' => e = .returned (.int .i64 (1 + (cntU d d.length : Int))) ∧ OwnU w' lo hi v (mkU d 1 d.length) ∧ Outside lo hi w w' := by
  obtain ⟨n, hn⟩ : ∃ n, d.length = n := ⟨_, rfl⟩
  have hl := f.len
  have HE := Lib.hid f.el
  have HCF := Lib.hid (cntU_few f)
  rw [hn] at hl HE HCF
  rcases Nat.eq_zero_or_pos n with hz | hp
  · obtain ⟨a, c, rfl⟩ := h.form.1
    have H := Lib.hid h
    rw [hn, hz] at H ⊢
    clear h hl HE HCF hn hz f
    go_enter Try.func22, Try.ntmps22
    go_wp2
    go_loopw [1, 5] (fun q i wr => q = .int .i64 1 ∧ i = .int .i64 0 ∧ wr = w) (fun _ _ _ => 0)
    case atStart => exact ⟨rfl, rfl, rfl⟩
    case round =>
      obtain ⟨rfl, rfl, rfl⟩ := hrel
      go_wp2
      go_ret
      exact ⟨by simp [cntU], H.out, Outside.refl _ _ _⟩
  obtain ⟨g, cap, rfl⟩ := h.form.2 (by omega)
  rw [hn] at h ⊢
  have HN := Lib.hid hn
  have M0 : Hid (OwnU w lo hi (.slice (some ⟨g, 0, none⟩) n cap) (mkU d 1 0) ∧ Outside lo hi w w) := Lib.hid ⟨h, Outside.refl _ _ _⟩
  clear h hn f
  go_enter Try.func22, Try.ntmps22
  go_wp2
  go_loopw [1, 5] (fun q i wr => ∃ k : Nat, k ≤ n ∧ i = .int .i64 k ∧ q = .int .i64 (1 + (cntU d k : Int)) ∧ Hid (OwnU wr lo hi (.slice (some ⟨g, 0, none⟩) n cap) (mkU d 1 k) ∧ Outside lo hi w wr)) (fun _ i _ => n - (intOf i).toNat)
  case atStart => exact ⟨0, by omega, rfl, by simp [cntU], M0⟩
  case round =>
    obtain ⟨k, hk, rfl, rfl, M⟩ := hrel
    obtain ⟨wo, rfl⟩ : ∃ wo : World, wo = wr := ⟨_, rfl⟩
    clear M0
    by_cases hlt : k < n
    · have hlt1 : (k : Int) < (n : Int) := by omega
      obtain ⟨D, hD⟩ : ∃ D, mkU d 1 k = D := ⟨_, rfl⟩
      obtain ⟨x, hx⟩ : ∃ x, d[k]! = x := ⟨_, rfl⟩
      have HDL : Hid (D.length = n) := Lib.hid (by rw [← hD, mkU_len]; exact HN.out)
      have HDX : Hid (D[k]! = x) := Lib.hid (by rw [← hD, mkU_at d 1 k k (by rw [HN.out]; exact hlt), if_neg (Nat.lt_irrefl k)]; exact hx)
      have HNX := Lib.hid (show mkU d 1 (k + 1) = D.set k (markU1 x (1 + (cntU d k : Int))) by rw [mkU, hD, hx])
      have HCX := Lib.hid (show cntU d (k + 1) = cntU d k + (2 + x.es.length + x.t.length) by rw [cntU, hx])
      have hes := HE.out k hlt
      have hc0 := HCF.out k (by omega)
      rw [hx] at hes
      rw [hD] at M
      obtain ⟨C, hC⟩ : ∃ C, cntU d k = C := ⟨_, rfl⟩
      rw [hC] at HNX HCX hc0 ⊢
      have HC := Lib.hid hC
      clear hD hx hC
      obtain ⟨xp, xu, xa, xv, xe, xt⟩ := x
      simp only [markU1] at HNX HCX hes
      obtain ⟨⟨f0, u0, c0⟩, o1, g1⟩ := M.out.1.p1 HDL.out hlt HDX.out (1 + (C : Int))
      have M1 := Lib.hid o1
      have G1 := Lib.hid (M.out.2.trans g1)
      clear o1 g1 M
      go_upto_region 5 with (fail)
      clear f0 c0
      generalize wo.setCell ⟨g, k * 4, none⟩ (.int .i64 (1 + (C : Int))) = w1 at *
      have c1 := (M1.out.cells HDL.out hlt).1
      simp only at c1
      go_wp2_with fail
      refine (markI_any xu xe (1 + (C : Int) + 1) lo _ (M1.out.mem1 (by rw [HDL.out]; exact hlt)).1.1 (by omega) (by omega) (by omega)).mono ?_
      rintro e w2 ⟨rfl, ho, hg⟩
      obtain ⟨o2, g2⟩ := M1.out.l1 (by rw [HDL.out]; exact hlt) ho hg
      have M2 := Lib.hid o2
      have G2 := Lib.hid (G1.out.trans g2)
      clear ho hg o2 g2 M1 G1 c1
      obtain ⟨⟨f0, u0, c0⟩, o1, g1⟩ := M2.out.a1 HDL.out hlt (1 + (C : Int) + 1 + xe.length)
      have M3 := Lib.hid o1
      have G3 := Lib.hid (G2.out.trans g1)
      clear o1 g1 M2 G2
      go_upto_region 8 with (fail)
      clear f0 c0
      generalize w2.setCell ⟨g, k * 4 + 2, none⟩ (.int .i64 (1 + (C : Int) + 1 + (xe.length : Int))) = w3 at *
      have c1 := (M3.out.cells HDL.out hlt).2
      simp only at c1
      go_wp2_with fail
      refine (markI_any xv xt (1 + (C : Int) + 1 + xe.length + 1) lo _ (M3.out.mem1 (by rw [HDL.out]; exact hlt)).2.1.1 (by omega) (by omega) (by omega)).mono ?_
      rintro e w4 ⟨rfl, ho, hg⟩
      obtain ⟨o2, g2⟩ := M3.out.l2 (by rw [HDL.out]; exact hlt) ho hg
      have M4 : Hid (OwnU w4 lo hi (.slice (some ⟨g, 0, none⟩) n cap) (mkU d 1 (k + 1)) ∧ Outside lo hi w w4) := Lib.hid ⟨by rw [HNX.out]; simpa [markU1, Int.add_assoc, Int.add_comm, Int.add_left_comm] using o2, G3.out.trans g2⟩
      clear ho hg o2 g2 M3 G3 c1
      go_wp2
      go_roundw
      case rel => exact ⟨k + 1, by omega, by go_num, by rw [HCX.out]; go_num, M4⟩
      case measure => simp [intOf]; omega
    · obtain rfl : k = n := by omega
      have hlt1 : ¬ (k : Int) < (k : Int) := by omega
      go_wp2
      go_ret
      exact ⟨rfl, M.out.1, M.out.2⟩
end Go.Proofs.Ytlcegpmhlnilfaa

/- Lists of talks on graphs: looked at, compared. -/
namespace Go.Proofs.Ytlcegpmhlnilfaa
open Go.RowKit

theorem FewU.mkd {d : List Tu} (f : FewU d) (m : Int) : FewU (mkU d m d.length) :=
  ⟨by rw [mkU_len]; exact f.len, fun k hk => by
    rw [mkU_len] at hk
    rw [mkU_at d m _ k hk, if_pos hk]
    simp only [markU1, markTo_len]
    exact f.el k hk⟩

set_option maxHeartbeats 3200000 in
theorem hdU_any (lo hi : Nat) (v : Value) (d : List Tu) (w : World) (h : OwnU w lo hi v (mkU d 1 d.length)) (f : FewU d) :
    Calls Try.prog 23 #[v, .int .i64 1] w fun e w' => e = .returned (.int .i64 (1 + (cntU d d.length : Int))) ∧ w' = w := by
  obtain ⟨n, hn⟩ : ∃ n, d.length = n := ⟨_, rfl⟩
  have hl := f.len
  have HE := Lib.hid f.el
  have HCF := Lib.hid (cntU_few f)
  have hml := mkU_len d 1 d.length
  have HF := Lib.hid (f.mkd 1)
  rw [hn] at hl HE HCF hml h HF
  rcases Nat.eq_zero_or_pos n with hz | hp
  · obtain ⟨a, c, rfl⟩ := h.form.1
    rw [hml, hn, hz]
    clear h hl HE HCF hn hz f HF hml
    go_enter Try.func23, Try.ntmps23
    go_wp2
    go_loop [1, 5] (fun q i => q = .int .i64 1 ∧ i = .int .i64 0) (fun _ _ => 0)
    case atStart => exact ⟨rfl, rfl⟩
    case round =>
      obtain ⟨rfl, rfl⟩ := hrel
      go_wp2
      go_ret
      exact ⟨by simp [cntU], rfl⟩
  obtain ⟨g, cap, rfl⟩ := h.form.2 (by omega)
  rw [hml] at h ⊢
  rw [hn]
  have HN := Lib.hid hn
  have HH := Lib.hid h
  have HML := Lib.hid hml
  clear h hn f hml
  go_enter Try.func23, Try.ntmps23
  go_wp2
  go_loop [1, 5] (fun q i => ∃ k : Nat, k ≤ n ∧ i = .int .i64 k ∧ q = .int .i64 (1 + (cntU d k : Int))) (fun _ i => n - (intOf i).toNat)
  case atStart => exact ⟨0, by omega, rfl, by simp [cntU]⟩
  case round =>
    obtain ⟨k, hk, rfl, rfl⟩ := hrel
    by_cases hlt : k < n
    · have hlt1 : (k : Int) < (n : Int) := by omega
      have hat := outU_at HH.out.outer HML.out hlt
      have hin := HF.out.ints HH.out (k := k) (by rw [HML.out]; exact hlt)
      rw [mkU_at d 1 n k (by rw [HN.out]; exact hlt), if_pos hlt] at hat hin
      obtain ⟨x, hx⟩ : ∃ x, d[k]! = x := ⟨_, rfl⟩
      have HCX := Lib.hid (show cntU d (k + 1) = cntU d k + (2 + x.es.length + x.t.length) by rw [cntU, hx])
      have hes := HE.out k hlt
      have hc0 := HCF.out k (by omega)
      rw [hx] at hes hat hin
      obtain ⟨C, hC⟩ : ∃ C, cntU d k = C := ⟨_, rfl⟩
      rw [hC] at HCX hc0 hat hin ⊢
      clear hx hC
      obtain ⟨xp, xu, xa, xv, xe, xt⟩ := x
      simp only [markU1] at HCX hes hat hin
      obtain ⟨c0, c1, c2, c3⟩ := hat
      have I1 := Lib.hid hin.1
      have I2 := Lib.hid hin.2
      have hq0 : ((1 + (C : Int)) != (1 + (C : Int))) = false := by simp
      have hq1 : ((1 + (C : Int) + 1 + (xe.length : Int)) != (1 + (C : Int) + 1 + (xe.length : Int))) = false := by simp
      have hk1 : ¬ (1 + (C : Int) + 1 + (xe.length : Int) < 0) := by omega
      have hk2 : ¬ (1 + (C : Int) + 1 + (xe.length : Int) + 1 + (xt.length : Int) < 0) := by omega
      clear hin
      go_wp2_with fail
      refine (heldI_any xu (markTo xe (1 + (C : Int) + 1) xe.length) (1 + (C : Int) + 1) _ I1.out (by rw [markTo_len]; omega) (by omega) (by omega) (fun j hj => markTo_nth _ _ _ (Nat.le_refl _) j (by rwa [markTo_len] at hj))).mono ?_
      rintro e w2 ⟨rfl, rfl⟩
      rw [markTo_len]
      go_wp2_with fail
      refine (heldI_any xv (markTo xt (1 + (C : Int) + 1 + xe.length + 1) xt.length) (1 + (C : Int) + 1 + xe.length + 1) _ I2.out (by rw [markTo_len]; omega) (by omega) (by omega) (fun j hj => markTo_nth _ _ _ (Nat.le_refl _) j (by rwa [markTo_len] at hj))).mono ?_
      rintro e w3 ⟨rfl, rfl⟩
      rw [markTo_len]
      go_wp2
      go_round
      case rel => exact ⟨k + 1, by omega, by go_num, by rw [HCX.out]; go_num⟩
      case measure => simp [intOf]; omega
    · obtain rfl : k = n := by omega
      have hlt1 : ¬ (k : Int) < (k : Int) := by omega
      go_wp2
      go_ret
      exact ⟨rfl, rfl⟩

/-- What a later world keeps of two lists. -/
structure Vw (W : World) (lo hi lo' hi' : Nat) (v u : Value) (d d' : List Tu) (w : World) : Prop where
  o1 : OwnU w lo hi v d
  o2 : OwnU w lo' hi' u d'
  below : Below W.heap.size W w
theorem Vw.on {W w w' : World} {lo hi lo' hi' : Nat} {v u : Value} {d d' : List Tu} (h : Hid (Vw W lo hi lo' hi' v u d d' w)) (hb : Below w.heap.size w w') : Hid (Vw W lo hi lo' hi' v u d d' w') :=
  Lib.hid ⟨h.out.o1.on hb, h.out.o2.on hb, Below.on h.out.below hb⟩
theorem val_eq {d d' : List Tu} (hv : d.map valU = d'.map valU) {k : Nat} (hk : k < d.length) : valU (d[k]!) = valU (d'[k]!) := by
  have hl : d.length = d'.length := by simpa using congrArg List.length hv
  have h1 : (d.map valU)[k]? = (d'.map valU)[k]? := by rw [hv]
  rw [List.getElem?_map, List.getElem?_map, List.getElem?_eq_getElem hk, List.getElem?_eq_getElem (by omega)] at h1
  rw [getElem!_pos d k hk, getElem!_pos d' k (by omega)]
  simpa using h1

set_option maxHeartbeats 3200000 in
theorem equ_any (lo hi lo' hi' : Nat) (v u : Value) (d d' : List Tu) (w : World) (h : OwnU w lo hi v d) (h' : OwnU w lo' hi' u d') (f : FewU d) (f' : FewU d') (hv : d.map valU = d'.map valU) :
    Calls Try.prog 19 #[v, u] w fun e w' => e = .returned (.bool true) ∧ Below w.heap.size w w' := by
  obtain ⟨n, hn⟩ : ∃ n, d.length = n := ⟨_, rfl⟩
  have hl' : d'.length = n := by rw [← hn]; simpa using (congrArg List.length hv).symm
  have hl := f.len
  rw [hn] at hl
  have hb : ((n : Int) != (n : Int)) = false := by simp
  rcases Nat.eq_zero_or_pos n with hz | hp
  · obtain ⟨a, c, rfl⟩ := h.form.1
    obtain ⟨a', c', rfl⟩ := h'.form.1
    rw [hn, hl', hz]
    clear h h' hl hn hz f f' hv hl' hb
    go_enter Try.func19, Try.ntmps19
    go_wp2
    go_loop [5] (fun i => i = .int .i64 0) (fun _ => 0)
    case atStart => rfl
    case round =>
      subst hrel
      go_wp2
      go_ret
      exact ⟨rfl, Below.refl _ _⟩
  obtain ⟨g, cap, rfl⟩ := h.form.2 (by omega)
  obtain ⟨g', cap', rfl⟩ := h'.form.2 (by omega)
  rw [hn] at h ⊢
  rw [hl'] at h' ⊢
  have M0 : Hid (Vw w lo hi lo' hi' (.slice (some ⟨g, 0, none⟩) n cap) (.slice (some ⟨g', 0, none⟩) n cap') d d' w) := Lib.hid ⟨h, h', Below.refl _ _⟩
  have HN := Lib.hid hn
  have HN' := Lib.hid hl'
  have HF := Lib.hid f
  have HF' := Lib.hid f'
  have HV := Lib.hid (fun k (hk : k < n) => val_eq hv (k := k) (by rw [hn]; exact hk))
  clear h h' hn hl' f f' hv
  go_enter Try.func19, Try.ntmps19
  go_wp2
  go_loopw [5] (fun i wr => ∃ k : Nat, k ≤ n ∧ i = .int .i64 k ∧ Hid (Vw w lo hi lo' hi' (.slice (some ⟨g, 0, none⟩) n cap) (.slice (some ⟨g', 0, none⟩) n cap') d d' wr)) (fun i _ => n - (intOf i).toNat)
  case atStart => exact ⟨0, by omega, rfl, M0⟩
  case round =>
    obtain ⟨k, hk, rfl, M⟩ := hrel
    obtain ⟨wo, rfl⟩ : ∃ wo : World, wo = wr := ⟨_, rfl⟩
    clear M0
    by_cases hlt : k < n
    · have HAT := Lib.hid (fun w' (h : Vw w lo hi lo' hi' (.slice (some ⟨g, 0, none⟩) n cap) (.slice (some ⟨g', 0, none⟩) n cap') d d' w') => And.intro (outU_at h.o1.outer HN.out hlt) (outU_at h.o2.outer HN'.out hlt))
      have HIN := Lib.hid (fun w' (h : Vw w lo hi lo' hi' (.slice (some ⟨g, 0, none⟩) n cap) (.slice (some ⟨g', 0, none⟩) n cap') d d' w') => And.intro (HF.out.ints h.o1 (k := k) (by rw [HN.out]; exact hlt)) (HF'.out.ints h.o2 (k := k) (by rw [HN'.out]; exact hlt)))
      have hve := HV.out k hlt
      generalize d[k]! = x at HAT HIN hve
      generalize d'[k]! = y at HAT HIN hve
      obtain ⟨xp, xu, xa, xv, xe, xt⟩ := x
      obtain ⟨yp, yu, ya, yv, ye, yt⟩ := y
      simp only [valU, Prod.mk.injEq] at hve
      obtain ⟨rfl, rfl, rfl, rfl⟩ := hve
      dsimp only at HAT HIN
      have hlt1 : (k : Int) < (n : Int) := by omega
      have hge : decide (n ≤ k) = false := decide_eq_false (by omega)
      have HD : Hid (Vw w lo hi lo' hi' (.slice (some ⟨g, 0, none⟩) n cap) (.slice (some ⟨g', 0, none⟩) n cap') d d' wo.drew) := Vw.on M (Below.refl _ _).drew
      go_wp2_with fail
      refine wp_region_cls (C := fun w' => Hid (Vw w lo hi lo' hi' (.slice (some ⟨g, 0, none⟩) n cap) (.slice (some ⟨g', 0, none⟩) n cap') d d' w')) (by kernel_rfl) (by kernel_rfl) HD ?_
      repeat (first | go_big_quiet_skip | (go_big_quiet_want; go_big_quiet_op; first | go_big_quiet_on | (refine ⟨_, fun _ _ => rfl, ?_⟩; go_big_quiet_on)))
      go_big_quiet_want
      go_big_quiet_op
      refine ⟨.agg #[.int .i64 xp, xu, .int .i64 xa, xv], fun w' hw' => ?_, ?_⟩
      · obtain ⟨⟨q, q1, q2, q3⟩, _⟩ := HAT.out _ hw'.out
        simp [go_sem, q, q1, q2, q3]
      go_big_quiet_on
      repeat (first | go_big_quiet_skip | (go_big_quiet_want; go_big_quiet_op; first | go_big_quiet_on | (refine ⟨_, fun _ _ => rfl, ?_⟩; go_big_quiet_on)))
      go_big_quiet_want
      go_big_quiet_op
      refine ⟨.agg #[.int .i64 xp, yu, .int .i64 xa, yv], fun w' hw' => ?_, ?_⟩
      · obtain ⟨_, q, q1, q2, q3⟩ := HAT.out _ hw'.out
        simp [go_sem, q, q1, q2, q3]
      go_big_quiet_on
      repeat (first | go_big_quiet_skip | (go_big_quiet_want; go_big_quiet_op; first | go_big_quiet_on | (refine ⟨_, fun _ _ => rfl, ?_⟩; go_big_quiet_on)))
      go_big_quiet_want
      go_big_quiet_op
      go_big_quiet_call ((intro hw; exact (eqtr_any xp xa xu yu xv yv xe xt _ (HIN.out _ hw.out).1.1 (HIN.out _ hw.out).2.1 (HIN.out _ hw.out).1.2 (HIN.out _ hw.out).2.2).mono fun _ _ ⟨he, hb⟩ => ⟨he, Vw.on hw hb⟩))
      repeat (first | go_big_quiet_skip | (go_big_quiet_want; go_big_quiet_op; first | go_big_quiet_on | (refine ⟨_, fun _ _ => rfl, ?_⟩; go_big_quiet_on)))
      refine wpQuiet_nil ?_
      intro w2 M2
      clear HD M HAT HIN
      go_wp2
      go_roundw
      case rel => exact ⟨k + 1, by omega, by go_num, M2⟩
      case measure => simp [intOf]; omega
    · obtain rfl : k = n := by omega
      have hlt1 : ¬ (k : Int) < (k : Int) := by omega
      go_wp2
      go_ret
      exact ⟨rfl, M.out.below⟩
end Go.Proofs.Ytlcegpmhlnilfaa
