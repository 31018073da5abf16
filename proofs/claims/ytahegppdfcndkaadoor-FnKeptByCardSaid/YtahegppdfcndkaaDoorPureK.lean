/- Plain mathematics of chapter 9: tables of questions behind elements. -/
import Derived.Test.YtahegppdfcndkaaDoorBPure
namespace Go.Proofs.YtahegppdfcndkaaDoor

def askB (g : Int) (l : List Int) : Bool := gok g && (decide ((l.length : Int) = ord g) && allEx g l)
theorem askB_true {g : Int} {l : List Int} : askB g l = true ↔ (0 ≤ g ∧ g < 4) ∧ (l.length : Int) = ord g ∧ allEx g l = true := by
  unfold askB; simp [gok_true]
theorem askB_false {g : Int} {l : List Int} : askB g l = false ↔ ¬ ((0 ≤ g ∧ g < 4) ∧ (l.length : Int) = ord g ∧ allEx g l = true) := by rw [← askB_true]; simp
theorem askB_len {g : Int} {l : List Int} (h : askB g l = true) : l.length = (els g).length ∧ l.length ≤ 23 := by
  obtain ⟨⟨g0, g4⟩, hl, _⟩ := askB_true.1 h
  have h1 := els_ord g0 g4
  have h2 := ord_bd g0 g4
  omega
/-- The place of an element. -/
def plc (g e : Int) : Nat := (els g).idxOf e
theorem plc_lt {g e : Int} (h : elB g e = true) : plc g e < (els g).length := List.idxOf_lt_length_iff.2 (elB_mem.1 h)
theorem plc_at {g e : Int} (h : elB g e = true) : nth (els g) (plc g e) = e := by
  rw [nth_get (plc_lt h)]
  exact List.getElem_idxOf (plc_lt h)
theorem plc_nth_all : ∀ g ∈ [(0 : Int), 1, 2, 3], ∀ k ∈ List.range 23, k < (els g).length → (els g).idxOf (nth (els g) k) = k := by decide +kernel
theorem plc_nth {g : Int} (h0 : 0 ≤ g) (h4 : g < 4) {k : Nat} (hk : k < (els g).length) : plc g (nth (els g) k) = k :=
  plc_nth_all g (g_mem h0 h4) k (List.mem_range.2 (by have := @els_len g; omega)) hk
def qOf (g : Int) (l : List Int) (e : Int) : Int := nth l (plc g e)
theorem allEx_nth {g : Int} {l : List Int} (h : allEx g l = true) {j : Nat} (hj : j < l.length) : exB g (nth l j) = true := by
  unfold allEx at h
  exact List.all_eq_true.1 h _ (nth_mem hj)
theorem qOf_ex {g e : Int} {l : List Int} (h : askB g l = true) (he : elB g e = true) : exB g (qOf g l e) = true :=
  allEx_nth (askB_true.1 h).2.2 (by rw [(askB_len h).1]; exact plc_lt he)
theorem qOf_nth {g : Int} {l : List Int} (h0 : 0 ≤ g) (h4 : g < 4) {k : Nat} (hk : k < (els g).length) : qOf g l (nth (els g) k) = nth l k := by unfold qOf; rw [plc_nth h0 h4 hk]
def askedB (g : Int) (l : List Int) (s : Int) : Int := if askB g l && elB g s then qOf g l s else -1
theorem asked_yes {g s : Int} {l : List Int} (h : askB g l = true) (hs : elB g s = true) : askedB g l s = qOf g l s := by unfold askedB; rw [h, hs]; rfl
theorem asked_no1 {g s : Int} {l : List Int} (h : askB g l = false) : askedB g l s = -1 := by unfold askedB; rw [h]; rfl
theorem asked_no2 {g s : Int} {l : List Int} (h : elB g s = false) : askedB g l s = -1 := by unfold askedB; rw [h, Bool.and_false]; rfl
theorem zeros_ask {g : Int} (h0 : 0 ≤ g) (h4 : g < 4) : askB g (List.replicate (ord g).toNat 0) = true := by
  have ho := ord_bd h0 h4
  refine askB_true.2 ⟨⟨h0, h4⟩, by rw [List.length_replicate]; omega, ?_⟩
  unfold allEx
  rw [List.all_eq_true]
  intro x hx
  rw [(List.mem_replicate.1 hx).2]
  exact exB_true.2 ⟨⟨h0, h4⟩, by omega, by omega⟩
end Go.Proofs.YtahegppdfcndkaaDoor
