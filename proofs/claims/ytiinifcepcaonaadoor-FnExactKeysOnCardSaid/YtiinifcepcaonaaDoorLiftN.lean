/- Boards that came in as arguments: an int and a list of notes. -/
import Derived.Test.YtiinifcepcaonaaDoorLift
import Derived.Test.YtiinifcepcaonaaDoorNtC
import Derived.Deep.Slices
import Derived.Deep.Strs
import Derived.ChangeSame
import Derived.Lib.SmallJoins
namespace Go.Proofs.YtiinifcepcaonaaDoor
open Go.ChangeShapes Go.WideShapes Go.ChangeAt Go.RowKit Go.Deep

set_option maxRecDepth 100000 in
theorem lawNoteSize : Tryd.prog.cellsOf 80 = 5 := by kernel_rfl
set_option maxRecDepth 100000 in
theorem lawTalkSize : Tryd.prog.cellsOf 78 = 3 := by kernel_rfl
set_option maxRecDepth 100000 in
theorem lawBoardSize : Tryd.prog.cellsOf 24 = 2 := by kernel_rfl
set_option maxRecDepth 100000 in
theorem lawBoardFields : Tryd.prog.underlying 24 = some (.struct (Tryd.prog.fieldsOf 24)) := by kernel_rfl
set_option maxRecDepth 100000 in
theorem cSliceN : Tryd.prog.cellsOf 22 = 1 := by kernel_rfl
set_option maxRecDepth 100000 in
theorem int_of_trod {H : Type} {enc : TypeId × Value → H} {W : World} {fuel : Nat} {c : Value} {x : DataW H × List MemPlace} (h : DataW.trod enc Tryd.prog W 0 (fun _ => true) true fuel 3 [c] = some x) : ∃ k : Int, c = .int .i64 k := by
  obtain ⟨k0, e0, _, _⟩ := DataW.trod_int Tryd.underlying3 h
  simp at e0
  exact ⟨k0, e0⟩
set_option maxRecDepth 100000 in
theorem talk_of_trod {H : Type} {enc : TypeId × Value → H} {W : World} {fuel : Nat} {c0 c1 c2 : Value} {x : DataW H × List MemPlace} (h : DataW.trod enc Tryd.prog W 0 (fun _ => true) true fuel 78 [c0, c1, c2] = some x) : ∃ s a t : Int, c0 = .int .i64 s ∧ c1 = .int .i64 a ∧ c2 = .int .i64 t := by
  obtain ⟨y0, y1, y2, n, _, _, h0, h1, h2⟩ := trod_struct3 Tryd.underlying78 h
  simp only [cInt] at h0 h1 h2
  obtain ⟨s, e0⟩ := int_of_trod (show DataW.trod enc Tryd.prog W 0 (fun _ => true) true n 3 [c0] = some y0 from h0)
  obtain ⟨a, e1⟩ := int_of_trod (show DataW.trod enc Tryd.prog W 0 (fun _ => true) true n 3 [c1] = some y1 from h1)
  obtain ⟨t, e2⟩ := int_of_trod (show DataW.trod enc Tryd.prog W 0 (fun _ => true) true n 3 [c2] = some y2 from h2)
  exact ⟨s, a, t, e0, e1, e2⟩
set_option maxRecDepth 100000 in
theorem note_of_trod {H : Type} {enc : TypeId × Value → H} {W : World} {fuel : Nat} {cs : List Value} {x : DataW H × List MemPlace} (h : DataW.trod enc Tryd.prog W 0 (fun _ => true) true fuel 80 cs = some x) : ∃ y : Nt, cs = encN y := by
  obtain ⟨y0, y1, y2, n, _, hl, h0, h1, h2⟩ := trod_struct3 Tryd.underlying80 h
  rw [lawNoteSize] at hl
  match cs, hl with
  | [c0, c1, c2, c3, c4], _ =>
    simp only [cInt, lawTalkSize] at h0 h1 h2
    obtain ⟨k, e0⟩ := int_of_trod (show DataW.trod enc Tryd.prog W 0 (fun _ => true) true n 3 [c0] = some y0 from h0)
    obtain ⟨o, e1⟩ := int_of_trod (show DataW.trod enc Tryd.prog W 0 (fun _ => true) true n 3 [c1] = some y1 from h1)
    obtain ⟨s, a, t, e2, e3, e4⟩ := talk_of_trod (show DataW.trod enc Tryd.prog W 0 (fun _ => true) true n 78 [c2, c3, c4] = some y2 from h2)
    exact ⟨⟨k, o, s, a, t⟩, by rw [e0, e1, e2, e3, e4]; rfl⟩
set_option maxRecDepth 100000 in
theorem argN_of_trod {H : Type} {enc : TypeId × Value → H} {W : World} {fuel : Nat} {c : Value} {x : DataW H × List MemPlace} (h : DataW.trod enc Tryd.prog W 0 (fun _ => true) true fuel 22 [c] = some x) : ∃ a cap ns, c = .slice a ns.length cap ∧ ArgN W a ns ∧ ns.length ≤ maxLen := by
  rcases open_slice Tryd.underlying22 h with ⟨hcs, _⟩ | ⟨ad, len, cap, m, n, D, Pl, hcs, _, hl, hm, hmm, _, hi⟩
  · simp at hcs
    exact ⟨none, 0, [], by rw [hcs]; rfl, ⟨fun j hj => by simp at hj⟩, by simp⟩
  · simp at hcs
    simp only [if_true] at hmm
    have hy : ∀ i, ∃ y : Nt, i < len → ∀ j, j < 5 → W.cell? (ad.add (i * 5 + j)) = (encN y)[j]? := fun i => by
      by_cases hil : i < len
      · obtain ⟨cs', hc, ht⟩ := hi i (by omega)
        rw [lawNoteSize] at hc
        obtain ⟨y, rfl⟩ := note_of_trod ht
        obtain ⟨_, _, hat⟩ := World.cells?_some hc
        exact ⟨y, fun _ j hj => by rw [← Go.Deep.add_add]; exact hat j hj⟩
      · exact ⟨zerN, fun h => absurd h hil⟩
    obtain ⟨f, hf⟩ := Classical.skolem.1 hy
    refine ⟨some ad, cap, (List.range len).map f, by rw [hcs]; simp, ⟨fun j hj => ?_⟩, by simp; omega⟩
    have hjl : j < len := by simpa using hj
    have e : nthN ((List.range len).map f) j = f j := by rw [nthN_get hj]; simp
    rw [e]
    exact ⟨ad, rfl, hf j hjl 0 (by omega), hf j hjl 1 (by omega), hf j hjl 2 (by omega), hf j hjl 3 (by omega), hf j hjl 4 (by omega)⟩
set_option maxRecDepth 100000 in
theorem open_board {H : Type} {enc : TypeId × Value → H} {W : World} {r : Reach} {base : Nat} {v : Value} {d : DataW H} {p : List MemPlace} (hok : Value.okWide Tryd.prog W r base 24 v)
    (h : DataW.Trod enc Tryd.prog W 0 (fun _ => true) true 24 v d p) :
    ∃ q a c ns, v = .agg #[.int .i64 q, .slice a ns.length c] ∧ ArgN W a ns ∧ ns.length ≤ maxLen := by
  unfold Value.okWide at hok
  rw [lawBoardFields] at hok
  obtain ⟨cs, rfl, hsz, _⟩ := hok
  obtain ⟨fuel, hf⟩ := h
  have hf' : DataW.trod enc Tryd.prog W 0 (fun _ => true) true fuel 24 cs.toList = some (d, p) := hf
  obtain ⟨y0, y1, n, _, hl, h0, h1⟩ := trod_struct2 Tryd.underlying24 hf'
  rw [lawBoardSize] at hl
  obtain ⟨l⟩ := cs
  match l, hl with
  | [c0, c1], _ =>
    simp only [cInt, cSliceN] at h0 h1
    obtain ⟨q, e0⟩ := int_of_trod (show DataW.trod enc Tryd.prog W 0 (fun _ => true) true n 3 [c0] = some y0 from h0)
    obtain ⟨a, c, ns, e1, f1, f2⟩ := argN_of_trod (show DataW.trod enc Tryd.prog W 0 (fun _ => true) true n 22 [c1] = some y1 from h1)
    exact ⟨q, a, c, ns, by rw [e0, e1], f1, f2⟩
end Go.Proofs.YtiinifcepcaonaaDoor
