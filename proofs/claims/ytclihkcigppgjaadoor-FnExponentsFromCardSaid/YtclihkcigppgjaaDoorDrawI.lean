/- Two talks drawn behind a relation: what stands where. -/
import Derived.Test.YtclihkcigppgjaaDoorDrawG
import Derived.Test.YtclihkcigppgjaaDoorDrawQ
import Derived.Test.YtclihkcigppgjaaDoorOfS
namespace Go.Proofs.YtclihkcigppgjaaDoor
open Go.RowKit

def wfQ (g : Int) (rows : List (List Int)) (makes es fs : List Int) : Option Int → Int
  | some q => wdQ (ofB g rows makes es fs q) q
  | none => 0
def wfS (g : Int) (rows : List (List Int)) (makes es fs : List Int) : Option Int → List Int
  | some q => wdL (ofB g rows makes es fs q) (mkAll g rows fs)
  | none => []
def wfT (g : Int) (rows : List (List Int)) (makes es fs : List Int) : Option Int → List Int
  | some q => wdL (ofB g rows makes es fs q) (tellsAll g es fs q)
  | none => []
theorem wdL_le {b : Bool} {xs : List Int} {n : Nat} (h : xs.length ≤ n) : (wdL b xs).length ≤ n := by
  cases b
  · exact Nat.zero_le _
  · exact h
theorem wfS_len {g : Int} {rows : List (List Int)} (makes es fs : List Int) (q : Int) {n : Nat} (h : rows.length ≤ n) : (wfS g rows makes es fs (some q)).length ≤ n := wdL_le (by rw [mkAll_len]; exact h)
theorem wfT_len (g : Int) (rows : List (List Int)) (makes : List Int) {es : List Int} (fs : List Int) (q : Int) {n : Nat} (h : es.length ≤ n) : (wfT g rows makes es fs (some q)).length ≤ n := wdL_le (by unfold tellsAll; rw [tellsTo_len]; exact h)
theorem sof_wf (g : Int) (rv mv ev fv : Value) (q : Int) (rows : List (List Int)) (makes es fs : List Int) (w : World) (h : Cw w rv mv rows makes) (he : Ints w ev es) (hf : Ints w fv fs) :
    Calls Tryd.prog 88 #[.agg #[.int .i64 g, rv, mv], ev, fv, .int .i64 q] w fun e w' => ∃ sv tv, e = .returned (.tuple #[.agg #[sv, .int .i64 (wfQ g rows makes es fs (some q)), tv], .bool (ofB g rows makes es fs q)]) ∧ OwnW w' w.heap.size w'.heap.size sv tv (wfS g rows makes es fs (some q)) (wfT g rows makes es fs (some q)) ∧ Below w.heap.size w w' :=
  sof_any g rv mv ev fv q rows makes es fs w h he hf

def TR : World → Prop := fun _ => True
section
variable {lo : Nat} {q : Int} {ss ts : List Int} {sv tv : Value} {N : Nat} {w1 w2 : World}
abbrev Wt (lo : Nat) (q : Int) (ss ts : List Int) (sv tv : Value) (N : Nat) (w : World) : Prop := Wz TR lo q ss ts (some (sv, tv)) (some (N, true)) w
theorem Wt.on (h : Wt lo q ss ts sv tv N w1) (hb : Below w1.heap.size w1 w2) : Wt lo q ss ts sv tv N w2 := Wz.on (fun _ _ _ _ => trivial) h hb
theorem Wt.s (h : Wt lo q ss ts sv tv N w1) : Own w1 lo sv ss := (h.2.2.1 _ rfl).1
theorem Wt.t (h : Wt lo q ss ts sv tv N w1) : Own w1 lo tv ts := (h.2.2.1 _ rfl).2.1
theorem Wt.ap (h : Wt lo q ss ts sv tv N w1) : ∀ k, sv.ownBlock = some k → tv.ownBlock = some k → False := (h.2.2.1 _ rfl).2.2
theorem Wt.n (h : Wt lo q ss ts sv tv N w1) : lo ≤ N := (h.2.2.2 _ rfl).1
theorem Wt.ne (h : Wt lo q ss ts sv tv N w1) : ∀ k, sv.ownBlock = some k ∨ tv.ownBlock = some k → k ≠ N := (h.2.2.2 _ rfl).2.1 _ rfl
theorem Wt.box (h : Wt lo q ss ts sv tv N w1) : Box w1 N [sv, .int .i64 q, tv] := (h.2.2.2 _ rfl).2.2
theorem Wt.mk' (hl : lo ≤ w1.heap.size) (h1 : Own w1 lo sv ss) (h2 : Own w1 lo tv ts) (h3 : ∀ k, sv.ownBlock = some k → tv.ownBlock = some k → False) (h4 : lo ≤ N) (h5 : ∀ k, sv.ownBlock = some k ∨ tv.ownBlock = some k → k ≠ N) (h6 : Box w1 N [sv, .int .i64 q, tv]) : Wt lo q ss ts sv tv N w1 :=
  ⟨trivial, hl, (fun p hp => by cases hp; exact ⟨h1, h2, h3⟩), (fun c hc => by cases hc; exact ⟨h4, (fun p hp => by cases hp; exact h5), h6⟩)⟩
/-- Blocks below lo, or past it but others, may change. -/
theorem Wt.keep (h : Wt lo q ss ts sv tv N w1) (hs : w1.heap.size ≤ w2.heap.size) (hh : ∀ k, lo ≤ k → k < w1.heap.size → w2.heap[k]? = w1.heap[k]?) : Wt lo q ss ts sv tv N w2 :=
  Wt.mk' (Nat.le_trans h.2.1 hs) (own_heap h.s fun k hk => hh k (h.s.lt k hk).1 (h.s.lt k hk).2) (own_heap h.t fun k hk => hh k (h.t.lt k hk).1 (h.t.lt k hk).2) h.ap h.n h.ne (h.box.kept (hh N h.n h.box.lt))
theorem Wt.draw {R : Nat} (h : Wt lo q ss ts sv tv N w1) (hg : w1.grownBy w2 (some R)) (hR : R < lo) : Wt lo q ss ts sv tv N w2 := h.keep hg.size fun k h1 h2 => hg.block k h2 fun e => by have := Option.some.inj e; omega
theorem Wt.off {N' j : Nat} {v : Value} (h : Wt lo q ss ts sv tv N w1) (hN : N' < lo) : Wt lo q ss ts sv tv N (w1.setCell ⟨N', j, none⟩ v) := h.keep (by simp [World.setCell]) fun k h1 _ => Below.heap_setCell _ _ _ _ (by show k ≠ N'; omega)
theorem Wt.past {N' j : Nat} {v : Value} (h : Wt lo q ss ts sv tv N w1) (h1 : ∀ k, sv.ownBlock = some k ∨ tv.ownBlock = some k → k < N') (h2 : N < N') : Wt lo q ss ts sv tv N (w1.setCell ⟨N', j, none⟩ v) :=
  Wt.mk' (by simpa [World.setCell] using h.2.1) (own_heap h.s fun k hk => Below.heap_setCell _ _ _ _ (by have := h1 k (.inl hk); show k ≠ N'; omega)) (own_heap h.t fun k hk => Below.heap_setCell _ _ _ _ (by have := h1 k (.inr hk); show k ≠ N'; omega)) h.ap h.n h.ne (h.box.far (by omega) v)
theorem Wt.tell {T m c : Nat} {x : Int} (h : Wt lo q ss ts sv (.slice (some ⟨T, 0, none⟩) m c) N w1) (hm : ts.length = m) (h0 : 0 < m) : Wt lo q ss (ts.set 0 x) sv (.slice (some ⟨T, 0, none⟩) m c) N (w1.setCell ⟨T, 0, none⟩ (.int .i64 x)) := by
  have o := (h.t.set hm h0 x).2.1
  refine Wt.mk' (by simpa [World.setCell] using h.2.1) (own_heap h.s fun k hk => Below.heap_setCell _ _ _ _ (by show k ≠ T; intro e; subst e; exact h.ap k hk rfl)) o h.ap h.n h.ne (h.box.far ?_ _)
  have := h.ne T (.inr rfl)
  omega
theorem Wt.say {w3 : World} {sv' : Value} {y : Int} (h : Wt lo q ss ts sv tv N w1) (ho : Own w3 lo sv' (ss ++ [y])) (hg : w1.grownBy w3 sv.ownBlock) (hk : sv'.ownBlock = sv.ownBlock ∨ ∃ b, sv'.ownBlock = some b ∧ w1.heap.size ≤ b) : Wt lo q (ss ++ [y]) ts sv' tv N (w3.setCell ⟨N, 0, none⟩ sv') := by
  have hn : ∀ k, sv'.ownBlock = some k → k ≠ N := fun k e => by
    rcases hk with hk | ⟨b, hb, hl⟩
    · exact h.ne k (.inl (hk ▸ e))
    · rw [hb] at e; cases e; have := h.box.lt; omega
  have hap : ∀ k, sv'.ownBlock = some k → tv.ownBlock = some k → False := fun k e1 e2 => by
    rcases hk with hk | ⟨b, hb, hl⟩
    · exact h.ap k (hk ▸ e1) e2
    · rw [hb] at e1; cases e1; have := (h.t.lt _ e2).2; omega
  have hbx : Box w3 N [sv, .int .i64 q, tv] := h.box.kept (hg.block _ h.box.lt fun e => h.ne N (.inl e.symm) rfl)
  refine Wt.mk' (by simp [World.setCell]; exact Nat.le_trans h.2.1 hg.size) (own_heap ho fun k e => Below.heap_setCell _ _ _ _ (hn k e)) (own_heap h.t fun k e => ?_) hap h.n (fun k e => ?_) (hbx.set 0 sv')
  · exact (Below.heap_setCell _ _ _ _ (h.ne k (.inr e))).trans (hg.block k (h.t.lt k e).2 fun e2 => h.ap k e2.symm e)
  · rcases e with e | e
    · exact hn k e
    · exact h.ne k (.inr e)
end
/-- While the second talk is made. -/
def Wb (w : World) (R M : Nat) (w2 : World) (BX : List (Nat × List Value)) (q : Int) (ss ts : List Int) (sv tv : Value) (N K : Nat) (w' : World) : Prop :=
  (∃ k', k' ≤ K ∧ Fw w R M w2 BX w' k') ∧ Wt w2.heap.size q ss ts sv tv N w'
section
variable {w : World} {R M : Nat} {w2 : World} {BX : List (Nat × List Value)} {q : Int} {ss ts : List Int} {sv tv : Value} {N K : Nat} {wa wb : World}
theorem Wb.on (h : Wb w R M w2 BX q ss ts sv tv N K wa) (hb : Below wa.heap.size wa wb) : Wb w R M w2 BX q ss ts sv tv N K wb := by
  obtain ⟨⟨k, hk, hf⟩, ht⟩ := h
  exact ⟨⟨k, hk, hf.on hb⟩, ht.on hb⟩
theorem Wb.put {lo N' j : Nat} {v : Value} (h : Wb w R M w2 BX q ss ts sv tv N K wa) (hl : w2.heap.size ≤ lo) (h1 : ∀ k, sv.ownBlock = some k ∨ tv.ownBlock = some k → k < lo) (h2 : N < lo) (hN : lo ≤ N') : Wb w R M w2 BX q ss ts sv tv N K (wa.setCell ⟨N', j, none⟩ v) := by
  obtain ⟨⟨k, hk, hf⟩, ht⟩ := h
  exact ⟨⟨k, hk, hf.put (Nat.le_trans hl hN) v⟩, ht.past (fun k hk => Nat.lt_of_lt_of_le (h1 k hk) hN) (Nat.lt_of_lt_of_le h2 hN)⟩
end
def Bf (w : World) (R M : Nat) (w2 : World) (BX : List (Nat × List Value)) (K : Nat) (w' : World) : Prop := ∃ k', k' ≤ K ∧ Fw w R M w2 BX w' k'
theorem Bf.on {w : World} {R M : Nat} {w2 : World} {BX : List (Nat × List Value)} {K : Nat} {wa wb : World} (h : Bf w R M w2 BX K wa) (hb : Below wa.heap.size wa wb) : Bf w R M w2 BX K wb := by
  obtain ⟨k, hk, hf⟩ := h
  exact ⟨k, hk, hf.on hb⟩
theorem Bf.put {w : World} {R M : Nat} {w2 : World} {BX : List (Nat × List Value)} {K N j : Nat} {v : Value} {wa : World} (h : Bf w R M w2 BX K wa) (hN : w2.heap.size ≤ N) : Bf w R M w2 BX K (wa.setCell ⟨N, j, none⟩ v) := by
  obtain ⟨k, hk, hf⟩ := h
  exact ⟨k, hk, hf.put hN v⟩
def kO (K : Nat) : Option Int → Nat
  | some _ => K + 10
  | none => K
end Go.Proofs.YtclihkcigppgjaaDoor
