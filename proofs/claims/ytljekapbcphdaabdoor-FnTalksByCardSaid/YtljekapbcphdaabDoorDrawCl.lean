/- l20Claim: a relation drawn, and exponents. -/
import Derived.Test.YtljekapbcphdaabDoorDrawSt
import Derived.Test.YtljekapbcphdaabDoorRegionJ
namespace Go.Proofs.YtljekapbcphdaabDoor
open Go.RowKit

theorem takeH {P : Program} {md : Region.Mode} {Z : Type} {C : Z → World → Prop} {S : Nat → Bool} {L : List Oper} {Q : Z → Act → Prop} {fuel i : Nat} {listed : Array Bool} {z : Z} {a : Act} {oi : Oper} {d : Option Tmp} (v : Value) (hd : oi.dst = d) (hsel : Region.noSelect L.toArray = true) (hS : S i = false) (hi : L.toArray[i]? = some oi) (hw : Region.wanted oi (yielded L.toArray a.tmps) = true)
    (hr : (Region.ready md L.toArray listed).contains i = true) (hf : Region.free md L.toArray listed i = true) (hrun : ∀ w, (execOp a.eval oi).run P w = .ok (.value v) w)
    (h : wpAnyH P md L.toArray C S Q fuel (listed.setIfInBounds i true) z (a.put d v)) : wpAnyH P md L.toArray C S Q (fuel + 1) listed z a := by
  subst hd
  exact wpAnyH_first hi hS (Region.noSelect_spec hsel) fuel listed z a (Region.free_spec hi hf) (by simpa using hr)
    (fun z => .inl ⟨hw, fun w _ => by unfold Oper.quietAt; rw [hrun w]; exact ⟨rfl, rfl⟩⟩) h
theorem own_slice' {w : World} {B : Nat} {v : Value} {xs : List Int} (h : Own w B v xs) (hx : 0 < xs.length) : ∃ g c, v = .slice (some ⟨g, 0, none⟩) xs.length c := by
  rcases id h.2 with ⟨rfl, hn⟩ | ⟨g, cap, cur, rfl, _⟩
  · omega
  · exact ⟨_, _, rfl⟩

end Go.Proofs.YtljekapbcphdaabDoor
