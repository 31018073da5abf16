/- Regions that draw their order: a read taken first, whatever else may come up; an operation whose guard says no. -/
import Derived.Test.YtiinifcepcaonaaDoorBSol
import Derived.Test.YtiinifcepcaonaaDoorBMark
import Derived.Test.YtiinifcepcaonaaDoorBDr
namespace Go.Proofs.YtiinifcepcaonaaDoor
open Go.RowKit

section
variable {P : Program} {md : Region.Mode} {Z : Type} {C : Z → World → Prop} {S : Nat → Bool}
theorem wpAnyH_load {L : List Oper} {Q : Z → Act → Prop} {fuel i : Nat} {listed : Array Bool} {z : Z} {a : Act} {oi : Oper} {d : Option Tmp} (v : Value) (hd : oi.dst = d) (hsel : Region.noSelect L.toArray = true) (hS : S i = false) (hi : L.toArray[i]? = some oi) (hw : Region.wanted oi (yielded L.toArray a.tmps) = true)
    (hr : (Region.ready md L.toArray listed).contains i = true) (hf : Region.free md L.toArray listed i = true) (hrun : ∀ z w, C z w → (execOp a.eval oi).run P w = .ok (.value v) w)
    (h : wpAnyH P md L.toArray C S Q fuel (listed.setIfInBounds i true) z (a.put d v)) : wpAnyH P md L.toArray C S Q (fuel + 1) listed z a := by
  subst hd
  exact wpAnyH_first hi hS (Region.noSelect_spec hsel) fuel listed z a (Region.free_spec hi hf) (by simpa using hr)
    (fun z => .inl ⟨hw, fun w hc => by unfold Oper.quietAt; rw [hrun z w hc]; exact ⟨rfl, rfl⟩⟩) h
theorem wpAnyH_skip {L : List Oper} {Q : Z → Act → Prop} {fuel i : Nat} {listed : Array Bool} {z : Z} {a : Act} {oi : Oper} {d : Option Tmp} (hd : oi.dst = d) (hsel : Region.noSelect L.toArray = true) (hS : S i = false) (hi : L.toArray[i]? = some oi) (hw : Region.wanted oi (yielded L.toArray a.tmps) = false)
    (hr : (Region.ready md L.toArray listed).contains i = true) (hf : Region.free md L.toArray listed i = true)
    (h : wpAnyH P md L.toArray C S Q fuel (listed.setIfInBounds i true) z (a.put d undef)) : wpAnyH P md L.toArray C S Q (fuel + 1) listed z a := by
  subst hd
  exact wpAnyH_first hi hS (Region.noSelect_spec hsel) fuel listed z a (Region.free_spec hi hf) (by simpa using hr)
    (fun z => .inr ⟨hw, rfl⟩) h
end

/-- What a law's walk knows: the lists that were drawn, its boxes, memory of its calls. -/
structure Lq (w : World) (Ls : List (Value × List Int)) (Bs : List (Nat × List Value)) (L : List Cp) (w' : World) : Prop where
  sx : Sx w Bs L w'
  li : ∀ x, x ∈ Ls → Li w' x.1 x.2
section
variable {w w' w'' : World} {Ls : List (Value × List Int)} {Bs : List (Nat × List Value)} {L : List Cp}
theorem Lq.on (h : Lq w Ls Bs L w') (hb : Below w'.heap.size w' w'') : Lq w Ls Bs L w'' := ⟨h.sx.on hb, fun x m => (h.li x m).below hb⟩
theorem Lq.made (h : Lq w Ls Bs L w') (cs : List Value) (T : TypeId) : Lq w Ls ((w'.heap.size, cs) :: Bs) L (w'.alloc (.cells cs.toArray T)) := ⟨h.sx.made cs T, fun x m => (h.li x m).below (below_grow w' _)⟩
theorem Lq.add {c : Cp} (h : Lq w Ls Bs L w') (hc : Hl w' c) : Lq w Ls Bs (c :: L) w' := ⟨h.sx.add hc, h.li⟩
theorem Lq.more {v : Value} {xs : List Int} (h : Lq w Ls Bs L w') (hx : Li w' v xs) : Lq w ((v, xs) :: Ls) Bs L w' := ⟨h.sx, fun x m => by
  rcases List.mem_cons.1 m with rfl | m
  · exact hx
  · exact h.li x m⟩
theorem Lq.start (hb : Below w.heap.size w w') : Lq w [] [] [] w' := ⟨⟨hb, fun _ m => (by cases m), fun _ m => (by cases m)⟩, fun _ m => (by cases m)⟩
end
theorem code_below {w w' : World} {s : Value} (h : CodeIn w s) (hb : Below w.heap.size w w') : CodeIn w' s := by
  rcases h with ⟨a, cap, rfl⟩ | ⟨b, off, len, cap, z, rfl, h1, h2, h3, h4, h5, h6⟩
  · exact .inl ⟨a, cap, rfl⟩
  · exact .inr ⟨b, off, len, cap, z, rfl, h1, h2, h3, Nat.lt_of_lt_of_le h4 hb.size, fun j hj => (hb.cell (p := ⟨b, off + j, none⟩) h4).trans (h5 j hj), h6⟩
end Go.Proofs.YtiinifcepcaonaaDoor
