/- The answers of HeardFrom and KeptBy as plain functions. -/
import Derived.Test.YtahegppdfcndkaaDoorTkP
namespace Go.Proofs.YtahegppdfcndkaaDoor
def heardAll (g s : Int) (l : List Int) : List (Int × Int) := if exB g s && askB g l then rightA g s (qOf g l) else []
def keptAll (g key : Int) (l : List Int) : List (Int × Int) := if elB g key && askB g l then rightA g (glog g (bas g) key) (qOf g l) else []
def keptN (g key : Int) (l : List Int) : Int := if elB g key && askB g l then ord g * ord g else -1
theorem heard_no1 {g s : Int} {l : List Int} (h : exB g s = false) : heardAll g s l = [] := by unfold heardAll; rw [h]; rfl
theorem heard_no2 {g s : Int} {l : List Int} (h : askB g l = false) : heardAll g s l = [] := by unfold heardAll; rw [h, Bool.and_false]; rfl
theorem heard_yes {g s : Int} {l : List Int} (h1 : exB g s = true) (h2 : askB g l = true) : heardAll g s l = sortP (heardL g s (qOf g l) (ord g).toNat) := by
  obtain ⟨⟨g0, g4⟩, _⟩ := exB_true.1 h1
  unfold heardAll; rw [h1, h2, heard_is _ g0 g4]; rfl
theorem kept_no1 {g k : Int} {l : List Int} (h : elB g k = false) : keptAll g k l = [] ∧ keptN g k l = -1 := by unfold keptAll keptN; rw [h]; exact ⟨rfl, rfl⟩
theorem kept_no2 {g k : Int} {l : List Int} (h : askB g l = false) : keptAll g k l = [] ∧ keptN g k l = -1 := by unfold keptAll keptN; rw [h, Bool.and_false]; exact ⟨rfl, rfl⟩
theorem kept_yes {g k : Int} {l : List Int} (h1 : elB g k = true) (h2 : askB g l = true) : keptAll g k l = sortP (kepTo g k (qOf g l) (ord g).toNat (ord g).toNat) ∧ keptN g k l = ord g * ord g := by
  unfold keptAll keptN; rw [h1, h2, kept_is h1 fun e he => qOf_ex h2 he]; exact ⟨rfl, rfl⟩
theorem rightA_few (g x : Int) (Q : Int → Int) : (rightA g x Q).length ≤ 23 := by rw [rightA_len]; exact els_len
theorem heard_few (g s : Int) (l : List Int) : (heardAll g s l).length ≤ 23 := by
  unfold heardAll; split
  · exact rightA_few _ _ _
  · simp
theorem kept_few (g s : Int) (l : List Int) : (keptAll g s l).length ≤ 23 := by
  unfold keptAll; split
  · exact rightA_few _ _ _
  · simp
end Go.Proofs.YtahegppdfcndkaaDoor
