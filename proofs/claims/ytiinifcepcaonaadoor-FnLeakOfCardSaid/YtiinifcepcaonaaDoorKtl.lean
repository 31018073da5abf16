/- Lists of the talks of notes: rows of three cells. -/
import Derived.Test.YtiinifcepcaonaaDoorNtl
import Derived.Test.YtiinifcepcaonaaDoorBPurN
namespace Go.Proofs.YtiinifcepcaonaaDoor
open Go.RowKit

def encK (x : Nt) : List Value := [.int .i64 x.say, .int .i64 x.ask, .int .i64 x.tell]
abbrev talkN (x : Nt) : Value := .agg #[.int .i64 x.say, .int .i64 x.ask, .int .i64 x.tell]
abbrev OwnK (w : World) (B : Nat) (v : Value) (ns : List Nt) : Prop := w.ownsRow B 45 3 v ns.length (ns.flatMap encK)
theorem infoTlk : (Tryd.prog.info? 45).map (fun i => (i.zero, i.size, i.bytes)) = some (some (.agg #[.int .i64 0, .int .i64 0, .int .i64 0]), 3, 24) := by kernel_rfl
theorem flatK_len : ∀ d : List Nt, (d.flatMap encK).length = d.length * 3
  | [] => rfl
  | x :: d => by rw [List.flatMap_cons, List.length_append, flatK_len d, List.length_cons]; simp [encK]; omega
theorem flatK_get : ∀ (d : List Nt) (t : Nat), t < d.length * 3 → (d.flatMap encK)[t]? = some ((encK (nthN d (t / 3)))[t % 3]!)
  | [], t, h => by simp at h
  | x :: d, t, h => by
    rw [List.flatMap_cons]
    by_cases h3 : t < 3
    · match t, h3 with
      | 0, _ => rfl
      | 1, _ => rfl
      | 2, _ => rfl
    · obtain ⟨s, rfl⟩ : ∃ s, t = s + 3 := ⟨t - 3, by omega⟩
      rw [List.getElem?_append_right (by simp [encK])]
      have e : s + 3 - (encK x).length = s := by simp [encK]
      rw [e, flatK_get d s (by simp at h; omega), show (s + 3) / 3 = s / 3 + 1 by omega, show (s + 3) % 3 = s % 3 by omega]
      simp [nthN]
/-- Talk k of a row in block g. -/
structure KtAt (w : World) (g k : Nat) (x : Nt) : Prop where
  c0 : w.cell? ⟨g, k * 3, none⟩ = some (.int .i64 x.say)
  c1 : w.cell? ⟨g, k * 3 + 1, none⟩ = some (.int .i64 x.ask)
  c2 : w.cell? ⟨g, k * 3 + 2, none⟩ = some (.int .i64 x.tell)
theorem KtAt.on {w w' : World} {g k : Nat} {x : Nt} (h : KtAt w g k x) (hg : g < w.heap.size) (hb : Below w.heap.size w w') : KtAt w' g k x :=
  ⟨(hb.cell (p := ⟨g, _, none⟩) hg).trans h.c0, (hb.cell (p := ⟨g, _, none⟩) hg).trans h.c1, (hb.cell (p := ⟨g, _, none⟩) hg).trans h.c2⟩
/-- The slice v reads as the notes ns. -/
def Kts (w : World) (v : Value) (ns : List Nt) : Prop :=
  (v = .slice none 0 0 ∧ ns = []) ∨ ∃ g cap, v = .slice (some ⟨g, 0, none⟩) ns.length cap ∧ ns.length ≤ cap ∧ ns.length ≤ maxLen ∧ g < w.heap.size ∧ ∀ j, j < ns.length → KtAt w g j (nthN ns j)
structure KtsA (w : World) (a : Option Addr) (c : Nat) (ns : List Nt) : Prop where
  max : ns.length ≤ maxLen
  cap : ns.length ≤ c
  get : ∀ j, j < ns.length → ∃ g, a = some ⟨g, 0, none⟩ ∧ g < w.heap.size ∧ KtAt w g j (nthN ns j)
theorem Kts.opened {w : World} {v : Value} {ns : List Nt} (h : Kts w v ns) : ∃ a c, v = .slice a ns.length c ∧ KtsA w a c ns := by
  rcases h with ⟨rfl, rfl⟩ | ⟨g, cap, rfl, h1, h2, h3, h4⟩
  · exact ⟨none, 0, rfl, ⟨Nat.zero_le _, Nat.zero_le _, fun j hj => by simp at hj⟩⟩
  · exact ⟨_, _, rfl, ⟨h2, h1, fun j hj => ⟨g, rfl, h3, h4 j hj⟩⟩⟩
theorem Kts.on {w w' : World} {v : Value} {ns : List Nt} (h : Kts w v ns) (hb : Below w.heap.size w w') : Kts w' v ns := by
  rcases h with h | ⟨g, cap, e, h1, h2, h3, h4⟩
  · exact .inl h
  · exact .inr ⟨g, cap, e, h1, h2, Nat.lt_of_lt_of_le h3 hb.size, fun j hj => (h4 j hj).on h3 hb⟩
theorem KtsA.on {w w' : World} {a : Option Addr} {c : Nat} {ns : List Nt} (h : KtsA w a c ns) (hb : Below w.heap.size w w') : KtsA w' a c ns :=
  ⟨h.max, h.cap, fun j hj => by
    obtain ⟨g, e, h1, h2⟩ := h.get j hj
    exact ⟨g, e, Nat.lt_of_lt_of_le h1 hb.size, h2.on h1 hb⟩⟩
theorem Kts.pre {w : World} {a : Option Addr} {n c k : Nat} {ns : List Nt} (h : Kts w (.slice a n c) ns) (hn : ns.length = n) (h0 : 0 < n) (hk : k ≤ n) : Kts w (.slice a k c) (ns.take k) := by
  rcases h with ⟨e, _⟩ | ⟨g, cap, e, h1, h2, h3, h4⟩
  · cases e; omega
  · cases e
    refine .inr ⟨g, c, by rw [List.length_take, Nat.min_eq_left hk], by rw [List.length_take]; omega, by rw [List.length_take]; omega, h3, fun j hj => ?_⟩
    rw [List.length_take] at hj
    rw [nthN_take (by omega)]
    exact h4 j (by omega)
theorem Kts.of_own {w : World} {B : Nat} {v : Value} {ns : List Nt} (h : OwnK w B v ns) (hl : ns.length ≤ maxLen) : Kts w v ns := by
  have hlt := h.lt
  rcases id h.2 with ⟨rfl, hn⟩ | ⟨g, cap, cur, rfl, _, _, hcap, _⟩
  · exact .inl ⟨rfl, List.length_eq_zero_iff.1 hn⟩
  · have c : ∀ i j, i < ns.length → j < 3 → w.cell? ⟨g, i * 3 + j, none⟩ = some ((encK (nthN ns i))[j]!) := fun i j hi hj => by
      rw [h.cellAt (i * 3 + j) (by omega), flatK_get ns (i * 3 + j) (by omega), show (i * 3 + j) / 3 = i by omega, show (i * 3 + j) % 3 = j by omega]
    exact .inr ⟨g, cap, rfl, hcap, hl, (hlt g rfl).2, fun j hj => ⟨c j 0 hj (by omega), c j 1 hj (by omega), c j 2 hj (by omega)⟩⟩
theorem OwnK.nil (w : World) (B : Nat) : OwnK w B (.slice none 0 0) [] := World.ownsRow_nil _ _ _ _
theorem OwnK.form {w : World} {B : Nat} {v : Value} {ns : List Nt} (h : OwnK w B v ns) : ∃ a c, v = .slice a ns.length c := by
  rcases id h.2 with ⟨rfl, h0⟩ | ⟨g, cap, cur, rfl, _⟩
  · exact ⟨none, 0, by rw [h0]⟩
  · exact ⟨_, _, rfl⟩

/-- append of one talk to an owned list. -/
theorem wpAppTlk {ops : Array Oper} {rest : List Oper} {o : Oper} {a : Act} {Q : Exit → Act → World → Prop} {w3 : World} {B : Nat} {v : Value} {d : List Nt} {x : Nt} {T : TypeId} (hgd : o.guard = none) (s y : Operand)
    (ho : o.op = .call { callee := .builtin .append, args := #[s, y], argTypes := #[65, 65] }) (hs : a.eval s = v) (hown : OwnK w3 B v d) (hl : d.length < 2000000) (hB : B ≤ w3.heap.size) (hx : a.eval y = .slice (some ⟨w3.heap.size, 0, none⟩) 1 1)
    (h : ∀ v' w4, OwnK w4 B v' (d ++ [x]) → w3.grownBy w4 v.ownBlock → (v'.ownBlock = v.ownBlock ∨ ∃ k, v'.ownBlock = some k ∧ w3.heap.size ≤ k) → wpList Tryd.prog ops Q rest (a.put o.dst v') w4) :
    wpList Tryd.prog ops Q (o :: rest) a (w3.alloc (.cells #[.int .i64 x.say, .int .i64 x.ask, .int .i64 x.tell] T)) := by
  obtain ⟨i0, hi, hz0, hz1, hz2⟩ := info_parts infoTlk
  refine wpList_append_own_at (w3.alloc (.cells #[.int .i64 x.say, .int .i64 x.ask, .int .i64 x.tell] T)) hgd s y 65 ho B 45 i0 (.agg #[.int .i64 0, .int .i64 0, .int .i64 0]) 3 24 Tryd.underlying65 hi hz0 hz1 hz2 rfl (by decide) v d.length _ hs (hown.alloc _) ⟨w3.heap.size, 0, none⟩ 1 1 (encK x) hx rfl ?_ ?_ ?_ ?_ ?_ ?_
  · intro j u hj
    have hb := (Box.made w3 [.int .i64 x.say, .int .i64 x.ask, .int .i64 x.tell] T).cell j
    rw [show (⟨w3.heap.size, 0, none⟩ : Addr).add j = ⟨w3.heap.size, j, none⟩ by unfold Addr.add; split <;> simp_all]
    exact hb.trans hj
  · intro u' hu'
    simp [encK] at hu'
    rcases hu' with rfl | rfl | rfl <;> rfl
  · unfold maxLen; omega
  · omega
  · simp; omega
  · intro v' w4 h1 h2 _ h4
    refine h v' w4 ?_ ?_ ?_
    · unfold OwnK; rw [List.length_append, List.flatMap_append]; simpa [encK] using h1
    · exact ⟨h2.os, h2.tape, h2.output, Nat.le_trans (by simp) h2.size, fun k hk hne => (h2.block k (by simp; omega) hne).trans (Below.heap_alloc w3 _ k hk)⟩
    · rcases h4 with h4 | h4
      · exact .inl h4
      · exact .inr ⟨_, h4, by simp⟩
end Go.Proofs.YtiinifcepcaonaaDoor
