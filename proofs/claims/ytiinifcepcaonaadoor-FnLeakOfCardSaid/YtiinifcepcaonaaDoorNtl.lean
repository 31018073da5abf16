/- Lists of notes: rows of five cells. -/
import Derived.Test.YtiinifcepcaonaaDoorBRd
import Derived.Test.YtiinifcepcaonaaDoorBPurN
namespace Go.Proofs.YtiinifcepcaonaaDoor
open Go.RowKit

def encN (x : Nt) : List Value := [.int .i64 x.key, .int .i64 x.on, .int .i64 x.say, .int .i64 x.ask, .int .i64 x.tell]
abbrev noteV (x : Nt) : Value := .agg #[.int .i64 x.key, .int .i64 x.on, .int .i64 x.say, .int .i64 x.ask, .int .i64 x.tell]
abbrev OwnN (w : World) (B : Nat) (v : Value) (ns : List Nt) : Prop := w.ownsRow B 47 5 v ns.length (ns.flatMap encN)
theorem infoNote : (Tryd.prog.info? 47).map (fun i => (i.zero, i.size, i.bytes)) = some (some (.agg #[.int .i64 0, .int .i64 0, .int .i64 0, .int .i64 0, .int .i64 0]), 5, 40) := by kernel_rfl
theorem row5_heap {w w' : World} {B n s : Nat} {T : TypeId} {v : Value} {us : List Value} (h : w.ownsRow B T s v n us) (hh : ∀ k, v.ownBlock = some k → w'.heap[k]? = w.heap[k]?) : w'.ownsRow B T s v n us := by
  refine ⟨h.1, ?_⟩
  rcases h.2 with h2 | ⟨g, cap, cur, rfl, hg, hb, r⟩
  · exact .inl h2
  · exact .inr ⟨g, cap, cur, rfl, hg, by rw [hh g rfl]; exact hb, r⟩
theorem row5_lower {w : World} {B B' n s : Nat} {T : TypeId} {v : Value} {us : List Value} (h : w.ownsRow B T s v n us) (hB : B' ≤ B) : w.ownsRow B' T s v n us := by
  obtain ⟨h1, h2⟩ := h
  refine ⟨h1, ?_⟩
  rcases h2 with h2 | ⟨g, cap, cur, hv, hg, r⟩
  · exact .inl h2
  · exact .inr ⟨g, cap, cur, hv, by omega, r⟩
theorem row5_below {w w' : World} {B n s : Nat} {T : TypeId} {v : Value} {us : List Value} (h : w.ownsRow B T s v n us) (hb : Below w.heap.size w w') : w'.ownsRow B T s v n us :=
  row5_heap h fun k hk => hb.block k (h.lt k hk).2
theorem flatN_len : ∀ d : List Nt, (d.flatMap encN).length = d.length * 5
  | [] => rfl
  | x :: d => by rw [List.flatMap_cons, List.length_append, flatN_len d, List.length_cons]; simp [encN]; omega
theorem flatN_get : ∀ (d : List Nt) (t : Nat), t < d.length * 5 → (d.flatMap encN)[t]? = some ((encN (nthN d (t / 5)))[t % 5]!)
  | [], t, h => by simp at h
  | x :: d, t, h => by
    rw [List.flatMap_cons]
    by_cases h3 : t < 5
    · match t, h3 with
      | 0, _ => rfl
      | 1, _ => rfl
      | 2, _ => rfl
      | 3, _ => rfl
      | 4, _ => rfl
    · obtain ⟨s, rfl⟩ : ∃ s, t = s + 5 := ⟨t - 5, by omega⟩
      rw [List.getElem?_append_right (by simp [encN])]
      have e : s + 5 - (encN x).length = s := by simp [encN]
      rw [e, flatN_get d s (by simp at h; omega), show (s + 5) / 5 = s / 5 + 1 by omega, show (s + 5) % 5 = s % 5 by omega]
      simp [nthN]
/-- Note k of a row in block g. -/
structure NtAt (w : World) (g k : Nat) (x : Nt) : Prop where
  c0 : w.cell? ⟨g, k * 5, none⟩ = some (.int .i64 x.key)
  c1 : w.cell? ⟨g, k * 5 + 1, none⟩ = some (.int .i64 x.on)
  c2 : w.cell? ⟨g, k * 5 + 2, none⟩ = some (.int .i64 x.say)
  c3 : w.cell? ⟨g, k * 5 + 3, none⟩ = some (.int .i64 x.ask)
  c4 : w.cell? ⟨g, k * 5 + 4, none⟩ = some (.int .i64 x.tell)
theorem NtAt.on {w w' : World} {g k : Nat} {x : Nt} (h : NtAt w g k x) (hg : g < w.heap.size) (hb : Below w.heap.size w w') : NtAt w' g k x :=
  ⟨(hb.cell (p := ⟨g, _, none⟩) hg).trans h.c0, (hb.cell (p := ⟨g, _, none⟩) hg).trans h.c1, (hb.cell (p := ⟨g, _, none⟩) hg).trans h.c2, (hb.cell (p := ⟨g, _, none⟩) hg).trans h.c3, (hb.cell (p := ⟨g, _, none⟩) hg).trans h.c4⟩
/-- The slice v reads as the notes ns. -/
def Nts (w : World) (v : Value) (ns : List Nt) : Prop :=
  (v = .slice none 0 0 ∧ ns = []) ∨ ∃ g cap, v = .slice (some ⟨g, 0, none⟩) ns.length cap ∧ ns.length ≤ cap ∧ ns.length ≤ maxLen ∧ g < w.heap.size ∧ ∀ j, j < ns.length → NtAt w g j (nthN ns j)
structure NtsA (w : World) (a : Option Addr) (c : Nat) (ns : List Nt) : Prop where
  max : ns.length ≤ maxLen
  cap : ns.length ≤ c
  get : ∀ j, j < ns.length → ∃ g, a = some ⟨g, 0, none⟩ ∧ g < w.heap.size ∧ NtAt w g j (nthN ns j)
theorem Nts.opened {w : World} {v : Value} {ns : List Nt} (h : Nts w v ns) : ∃ a c, v = .slice a ns.length c ∧ NtsA w a c ns := by
  rcases h with ⟨rfl, rfl⟩ | ⟨g, cap, rfl, h1, h2, h3, h4⟩
  · exact ⟨none, 0, rfl, ⟨Nat.zero_le _, Nat.zero_le _, fun j hj => by simp at hj⟩⟩
  · exact ⟨_, _, rfl, ⟨h2, h1, fun j hj => ⟨g, rfl, h3, h4 j hj⟩⟩⟩
theorem Nts.on {w w' : World} {v : Value} {ns : List Nt} (h : Nts w v ns) (hb : Below w.heap.size w w') : Nts w' v ns := by
  rcases h with h | ⟨g, cap, e, h1, h2, h3, h4⟩
  · exact .inl h
  · exact .inr ⟨g, cap, e, h1, h2, Nat.lt_of_lt_of_le h3 hb.size, fun j hj => (h4 j hj).on h3 hb⟩
theorem NtsA.on {w w' : World} {a : Option Addr} {c : Nat} {ns : List Nt} (h : NtsA w a c ns) (hb : Below w.heap.size w w') : NtsA w' a c ns :=
  ⟨h.max, h.cap, fun j hj => by
    obtain ⟨g, e, h1, h2⟩ := h.get j hj
    exact ⟨g, e, Nat.lt_of_lt_of_le h1 hb.size, h2.on h1 hb⟩⟩
theorem Nts.pre {w : World} {a : Option Addr} {n c k : Nat} {ns : List Nt} (h : Nts w (.slice a n c) ns) (hn : ns.length = n) (h0 : 0 < n) (hk : k ≤ n) : Nts w (.slice a k c) (ns.take k) := by
  rcases h with ⟨e, _⟩ | ⟨g, cap, e, h1, h2, h3, h4⟩
  · cases e; omega
  · cases e
    refine .inr ⟨g, c, by rw [List.length_take, Nat.min_eq_left hk], by rw [List.length_take]; omega, by rw [List.length_take]; omega, h3, fun j hj => ?_⟩
    rw [List.length_take] at hj
    rw [nthN_take (by omega)]
    exact h4 j (by omega)
theorem Nts.of_own {w : World} {B : Nat} {v : Value} {ns : List Nt} (h : OwnN w B v ns) (hl : ns.length ≤ maxLen) : Nts w v ns := by
  have hlt := h.lt
  rcases id h.2 with ⟨rfl, hn⟩ | ⟨g, cap, cur, rfl, _, _, hcap, _⟩
  · exact .inl ⟨rfl, List.length_eq_zero_iff.1 hn⟩
  · have c : ∀ i j, i < ns.length → j < 5 → w.cell? ⟨g, i * 5 + j, none⟩ = some ((encN (nthN ns i))[j]!) := fun i j hi hj => by
      rw [h.cellAt (i * 5 + j) (by omega), flatN_get ns (i * 5 + j) (by omega), show (i * 5 + j) / 5 = i by omega, show (i * 5 + j) % 5 = j by omega]
    exact .inr ⟨g, cap, rfl, hcap, hl, (hlt g rfl).2, fun j hj => ⟨c j 0 hj (by omega), c j 1 hj (by omega), c j 2 hj (by omega), c j 3 hj (by omega), c j 4 hj (by omega)⟩⟩
theorem OwnN.nil (w : World) (B : Nat) : OwnN w B (.slice none 0 0) [] := World.ownsRow_nil _ _ _ _
theorem OwnN.form {w : World} {B : Nat} {v : Value} {ns : List Nt} (h : OwnN w B v ns) : ∃ a c, v = .slice a ns.length c := by
  rcases id h.2 with ⟨rfl, h0⟩ | ⟨g, cap, cur, rfl, _⟩
  · exact ⟨none, 0, by rw [h0]⟩
  · exact ⟨_, _, rfl⟩

/-- append of one note to an owned list. -/
theorem wpAppNote {ops : Array Oper} {rest : List Oper} {o : Oper} {a : Act} {Q : Exit → Act → World → Prop} {w3 : World} {B : Nat} {v : Value} {d : List Nt} {x : Nt} {T : TypeId} (hgd : o.guard = none) (s y : Operand)
    (ho : o.op = .call { callee := .builtin .append, args := #[s, y], argTypes := #[27, 27] }) (hs : a.eval s = v) (hown : OwnN w3 B v d) (hl : d.length < 2000000) (hB : B ≤ w3.heap.size) (hx : a.eval y = .slice (some ⟨w3.heap.size, 0, none⟩) 1 1)
    (h : ∀ v' w4, OwnN w4 B v' (d ++ [x]) → w3.grownBy w4 v.ownBlock → (v'.ownBlock = v.ownBlock ∨ ∃ k, v'.ownBlock = some k ∧ w3.heap.size ≤ k) → wpList Tryd.prog ops Q rest (a.put o.dst v') w4) :
    wpList Tryd.prog ops Q (o :: rest) a (w3.alloc (.cells #[.int .i64 x.key, .int .i64 x.on, .int .i64 x.say, .int .i64 x.ask, .int .i64 x.tell] T)) := by
  obtain ⟨i0, hi, hz0, hz1, hz2⟩ := info_parts infoNote
  refine wpList_append_own_at (w3.alloc (.cells #[.int .i64 x.key, .int .i64 x.on, .int .i64 x.say, .int .i64 x.ask, .int .i64 x.tell] T)) hgd s y 27 ho B 47 i0 (.agg #[.int .i64 0, .int .i64 0, .int .i64 0, .int .i64 0, .int .i64 0]) 5 40 Tryd.underlying27 hi hz0 hz1 hz2 rfl (by decide) v d.length _ hs (hown.alloc _) ⟨w3.heap.size, 0, none⟩ 1 1 (encN x) hx rfl ?_ ?_ ?_ ?_ ?_ ?_
  · intro j u hj
    have hb := (Box.made w3 [.int .i64 x.key, .int .i64 x.on, .int .i64 x.say, .int .i64 x.ask, .int .i64 x.tell] T).cell j
    rw [show (⟨w3.heap.size, 0, none⟩ : Addr).add j = ⟨w3.heap.size, j, none⟩ by unfold Addr.add; split <;> simp_all]
    exact hb.trans hj
  · intro u' hu'
    simp [encN] at hu'
    rcases hu' with rfl | rfl | rfl | rfl | rfl <;> rfl
  · unfold maxLen; omega
  · omega
  · simp; omega
  · intro v' w4 h1 h2 _ h4
    refine h v' w4 ?_ ?_ ?_
    · unfold OwnN; rw [List.length_append, List.flatMap_append]; simpa [encN] using h1
    · exact ⟨h2.os, h2.tape, h2.output, Nat.le_trans (by simp) h2.size, fun k hk hne => (h2.block k (by simp; omega) hne).trans (Below.heap_alloc w3 _ k hk)⟩
    · rcases h4 with h4 | h4
      · exact .inl h4
      · exact .inr ⟨_, h4, by simp⟩
end Go.Proofs.YtiinifcepcaonaaDoor
