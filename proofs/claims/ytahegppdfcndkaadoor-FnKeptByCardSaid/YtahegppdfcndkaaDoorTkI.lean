/- Lists of talks, rows of structs, in which the question is a function of Say. -/
import Derived.Test.YtahegppdfcndkaaDoorImplT
import Derived.Test.YtahegppdfcndkaaDoorBWalk
import Derived.Test.YtahegppdfcndkaaDoorBRd
namespace Go.Proofs.YtahegppdfcndkaaDoor
open Go.RowKit

/-- A talk of a list whose questions are a function of Say, as its three cells. -/
def encT (ask : Int → Int) (x : Int × Int) : List Value := [.int .i64 x.1, .int .i64 (ask x.1), .int .i64 x.2]
abbrev OwnT (w : World) (B : Nat) (v : Value) (ask : Int → Int) (d : List (Int × Int)) : Prop := w.ownsRow B 37 3 v d.length (d.flatMap (encT ask))
theorem ownT_below {w w' : World} {B : Nat} {v : Value} {ask : Int → Int} {d : List (Int × Int)} (h : OwnT w B v ask d) (hb : Below w.heap.size w w') : OwnT w' B v ask d := by
  have hg : w.grownBy w' none := ⟨hb.os, hb.tape, hb.output, hb.size, fun k hk _ => hb.block k hk⟩
  exact h.kept hg (by cases hv : v.ownBlock <;> simp)
theorem infoTalk : (Tryd.prog.info? 37).map (fun i => (i.zero, i.size, i.bytes)) = some (some (.agg #[.int .i64 0, .int .i64 0, .int .i64 0]), 3, 24) := by kernel_rfl
theorem ownT_step {w w3 w4 : World} {v v' : Value} {ask : Int → Int} {a b : Int} {d : List (Int × Int)} {o : Obj} (hown : OwnT w3 w.heap.size v ask d) (hb : Below w.heap.size w w3)
    (hown' : w4.ownsRow w.heap.size 37 3 v' (d.length + 1) (d.flatMap (encT ask) ++ [.int .i64 a, .int .i64 (ask a), .int .i64 b])) (hg : (w3.alloc o).grownBy w4 v.ownBlock) :
    OwnT w4 w.heap.size v' ask (d ++ [(a, b)]) ∧ Below w.heap.size w w4 :=
  ⟨by unfold OwnT; rw [List.length_append, List.flatMap_append]; simpa [encT] using hown', (hb.alloc hb.size o).grown hg (by simp; have := hb.size; omega) (fun j hj => (hown.lt j hj).1)⟩

/-- The order of the lists: by Say, then by Tell. -/
def ltP (x y : Int × Int) : Bool := decide (x.1 < y.1) || (decide (x.1 = y.1) && decide (x.2 < y.2))
def sortP (d : List (Int × Int)) : List (Int × Int) := d.mergeSort fun x y => !ltP y x
theorem sortP_nil : sortP [] = [] := by simp [sortP]
/-- What is asked of impl.sortTalks. -/
def SortC : Prop := ∀ (w : World) (B : Nat) (v : Value) (ask : Int → Int) (d : List (Int × Int)), 1 ≤ d.length → d.length ≤ 23 → B ≤ w.heap.size → OwnT w B v ask d →
  Calls Tryd.prog 25 #[v] w fun e w' => e = .returned (.tuple #[]) ∧ OwnT w' B v ask (sortP d) ∧ w.grownBy w' v.ownBlock

theorem ownT_mono {w : World} {B B' : Nat} {v : Value} {ask : Int → Int} {d : List (Int × Int)} (h : OwnT w B v ask d) (hB : B' ≤ B) : OwnT w B' v ask d := by
  obtain ⟨h1, h2⟩ := h
  refine ⟨h1, ?_⟩
  rcases h2 with h2 | ⟨g, cap, cur, hv, hg, r⟩
  · exact .inl h2
  · exact .inr ⟨g, cap, cur, hv, by omega, r⟩
/-- append of one talk to an owned list of talks. -/
theorem wpAppTalk {ops : Array Oper} {rest : List Oper} {o : Oper} {a : Act} {Q : Exit → Act → World → Prop} {w3 : World} {B : Nat} {v : Value} {ask : Int → Int} {d : List (Int × Int)} {x : Int × Int} {z : Int} {T : TypeId} (hz : ask x.1 = z) (hgd : o.guard = none) (s y : Operand)
    (ho : o.op = .call { callee := .builtin .append, args := #[s, y], argTypes := #[26, 26] }) (hs : a.eval s = v) (hown : OwnT w3 B v ask d) (hl : d.length < 1000000) (hB : B ≤ w3.heap.size) (hx : a.eval y = .slice (some ⟨w3.heap.size, 0, none⟩) 1 1)
    (h : ∀ v' w4, OwnT w4 B v' ask (d ++ [x]) → w3.grownBy w4 v.ownBlock → wpList Tryd.prog ops Q rest (a.put o.dst v') w4) :
    wpList Tryd.prog ops Q (o :: rest) a (w3.alloc (.cells #[.int .i64 x.1, .int .i64 z, .int .i64 x.2] T)) := by
  subst hz
  obtain ⟨i0, hi, hz0, hz1, hz2⟩ := info_parts infoTalk
  refine wpList_append_own (w3.alloc (.cells #[.int .i64 x.1, .int .i64 (ask x.1), .int .i64 x.2] T)) hgd s y 26 ho B 37 i0 (.agg #[.int .i64 0, .int .i64 0, .int .i64 0]) 3 24 Tryd.underlying26 hi hz0 hz1 hz2 rfl (by decide) v d.length _ hs (hown.alloc _) ⟨w3.heap.size, 0, none⟩ 1 1 (encT ask x) hx rfl ?_ ?_ ?_ ?_ ?_ ?_
  · intro j u hj
    have hb := (Box.made w3 [.int .i64 x.1, .int .i64 (ask x.1), .int .i64 x.2] T).cell j
    rw [show (⟨w3.heap.size, 0, none⟩ : Addr).add j = ⟨w3.heap.size, j, none⟩ by unfold Addr.add; split <;> simp_all]
    exact hb.trans hj
  · intro u' hu'
    simp [encT] at hu'
    rcases hu' with rfl | rfl | rfl <;> rfl
  · unfold maxLen; omega
  · omega
  · simp; omega
  · intro v' w4 h1 h2 _
    refine h v' w4 ?_ ?_
    · unfold OwnT; rw [List.length_append, List.flatMap_append]; simpa [encT] using h1
    · exact ⟨h2.os, h2.tape, h2.output, Nat.le_trans (by simp) h2.size, fun k hk hne => (h2.block k (by simp; omega) hne).trans (Below.heap_alloc w3 _ k hk)⟩
end Go.Proofs.YtahegppdfcndkaaDoor
