/- impl.sortTalks, by the shelf's contract of slices.SortFunc. -/
import Derived.Test.YtahegppdfcndkaaDoorTkI
import Derived.Test.YtahegppdfcndkaaDoorCmA
import Derived.Test.YtahegppdfcndkaaDoorShelfS
import Derived.Shelf.SlSortCmp.WholeK
namespace Go.Proofs.YtahegppdfcndkaaDoor
open Go.RowKit

theorem flat_get (ask : Int → Int) : ∀ (d : List (Int × Int)) (t : Nat), t < d.length * 3 → (d.flatMap (encT ask))[t]? = some ((encT ask (d[t / 3]!))[t % 3]!)
  | [], t, h => by simp at h
  | x :: d, t, h => by
    rw [List.flatMap_cons]
    by_cases h3 : t < 3
    · match t, h3 with
      | 0, _ => rfl
      | 1, _ => rfl
      | 2, _ => rfl
    · obtain ⟨s, rfl⟩ : ∃ s, t = s + 3 := ⟨t - 3, by omega⟩
      rw [List.getElem?_append_right (by simp [encT])]
      have e : s + 3 - (encT ask x).length = s := by simp [encT]
      rw [e, flat_get ask d s (by simp at h; omega), show (s + 3) / 3 = s / 3 + 1 by omega, show (s + 3) % 3 = s % 3 by omega]
      simp
theorem flat_len (ask : Int → Int) (d : List (Int × Int)) : (d.flatMap (encT ask)).length = d.length * 3 := by
  induction d with
  | nil => rfl
  | cons x d ih => rw [List.flatMap_cons, List.length_append, ih, List.length_cons]; simp [encT]; omega
theorem flat_eq (ask : Int → Int) (d : List (Int × Int)) : (Sort.flatK (encT ask) 3 d.toArray).toList = d.flatMap (encT ask) := by
  apply List.ext_getElem?
  intro t
  by_cases ht : t < d.length * 3
  · rw [flat_get ask d t ht, Array.getElem?_toList]
    have hs : t < (Sort.flatK (encT ask) 3 d.toArray).size := by simpa using ht
    rw [Array.getElem?_eq_getElem hs]
    congr 1
    have := Sort.get_flatK (encT ask) 3 d.toArray t (by simpa using ht)
    rw [getElem!_pos _ t hs] at this
    rw [this]; simp
  · have h1 : (Sort.flatK (encT ask) 3 d.toArray).toList.length ≤ t := by simp; omega
    have h2 : (d.flatMap (encT ask)).length ≤ t := by rw [flat_len]; omega
    rw [List.getElem?_eq_none h1, List.getElem?_eq_none h2]

theorem ltOf_cf (x y : Int × Int) : ltOf cfP x y = ltP x y := by
  unfold ltOf cfP ltP orI cmpI
  by_cases h1 : x.1 < y.1
  · simp [h1]
  · by_cases h2 : y.1 < x.1
    · have : ¬ x.1 = y.1 := by omega
      simp [h1, h2, this]
    · have e : x.1 = y.1 := by omega
      by_cases h3 : x.2 < y.2
      · simp [e, h3]
      · by_cases h4 : y.2 < x.2 <;> simp [e, h3, h4]
theorem swoP : Sort.SWO (ltOf cfP) where
  irrefl x := by rw [ltOf_cf]; simp [ltP]
  trans x y z h1 h2 := by rw [ltOf_cf] at *; simp [ltP] at *; omega
  ntrans x y z h1 h2 := by rw [ltOf_cf] at *; simp [ltP] at *; omega
theorem antiP (x y : Int × Int) (h1 : ltOf cfP x y = false) (h2 : ltOf cfP y x = false) : x = y := by
  rw [ltOf_cf] at h1 h2
  simp [ltP] at h1 h2
  obtain ⟨a, b⟩ := x
  obtain ⟨c, d⟩ := y
  simp at h1 h2
  have : a = c := by omega
  subst this
  have := h1.2
  simp at this h1 h2
  congr 1
  omega
theorem sorted_is (d d' : Array (Int × Int)) (hp : Sort.PermIn 0 d.size d d') (hs : Sort.SortedIn (ltOf cfP) 0 d.size d') : d'.toList = sortP d.toList := by
  have h := Sort.sorted_unique_holds swoP antiP d d' hp hs
  rw [h]
  unfold sortP
  congr 1
  funext x y
  rw [ltOf_cf]
theorem take_put (F cur : Array Value) (h : F.size ≤ cur.size) : (Sort.putCells id 0 F cur).toList.take F.size = F.toList := by
  apply List.ext_getElem?
  intro j
  by_cases hj : j < F.size
  · rw [List.getElem?_take_of_lt hj, Array.getElem?_toList, Array.getElem?_toList]
    simp [Sort.putCells, hj, show j < cur.size by omega]
  · rw [List.getElem?_take_eq_none (by omega), List.getElem?_eq_none (by simp; omega)]
theorem heap_put {w : World} {g n : Nat} {os : Array Obj} {cur F : Array Value} {e : TypeId} {fr : Nat × Nat} (hb : w.heap[g]? = some (.cells cur e fr)) :
    (Sort.grow (Sort.putRow id (Sort.ahead w n) g 0 F) os).heap[g]? = some (.cells (Sort.putCells id 0 F cur) e fr) := by
  have hg : g < w.heap.size := (Array.getElem?_eq_some_iff.1 hb).1
  rw [Sort.heap_grow_old _ _ (by simpa using hg)]
  simp [Sort.putRow, Sort.mapBlock, Sort.ahead, Array.getElem?_modify, hb, Sort.onCells]
theorem grown_put {w : World} {g n : Nat} {os : Array Obj} (F : Array Value) : w.grownBy (Sort.grow (Sort.putRow id (Sort.ahead w n) g 0 F) os) (some g) := by
  refine ⟨rfl, rfl, rfl, by simp, fun k hk hne => ?_⟩
  rw [Sort.heap_grow_old _ _ (by simpa using hk)]
  have : g ≠ k := fun e => hne (by rw [e])
  simp [Sort.putRow, Sort.mapBlock, Sort.ahead, Array.getElem?_modify, this]

set_option maxRecDepth 20000 in
set_option maxHeartbeats 1000000 in
theorem sort_any : SortC := by
  intro w B v ask d hl1 hl hB hown
  rcases id hown.2 with ⟨_, h0⟩ | ⟨g, cap, cur, rfl, hBg, hg, hnc, hcm, hcs, htake⟩
  · omega
  have hglt : g < w.heap.size := (Array.getElem?_eq_some_iff.1 hg).1
  have hH : Sort.HoldsK (encT ask) 3 w g 0 d.toArray := by
    intro j hj
    have hj' : j < d.length * 3 := by simpa using hj
    refine ⟨?_, ?_⟩
    · rw [Nat.zero_add, hown.cellAt j hj', flat_get ask d j hj']
      rw [Sort.get_flatK (encT ask) 3 d.toArray j (by simpa using hj')]
      simp
    · rw [Nat.zero_add]; exact hown.frozenAt j
  have eg : ∀ args w, (callFunc 49 args).run Tryd.prog w = .ok (.enter 49 args) w := enters_of Tryd.func49 (by kernel_rfl) rfl
  have hcon := AnyQ.slices_SortFunc Tryd.sortTalk 3 Tryd.isAgg37 Tryd.sizeOf37 (encT ask) (fun _ => rfl) (fun x v hv => by simp [encT] at hv; rcases hv with rfl | rfl | rfl <;> rfl) cfP swoP 49 #[] g 0 cap d.toArray w eg
    (fun _ _ _ _ x y => clo_any x.1 (ask x.1) x.2 y.1 (ask y.1) y.2 _) hH hglt (by simp; omega)
  change Calls Tryd.prog 48 _ _ _ at hcon
  simp only [List.size_toArray] at hcon
  have hfin : ∀ (d' : Array (Int × Int)) n os, Sort.PermIn 0 d.length d.toArray d' → Sort.SortedIn (ltOf cfP) 0 d.length d' →
      OwnT (sortWorldK (encT ask) 3 w g 0 n d' os) B (.slice (some ⟨g, 0, none⟩) d.length cap) ask (sortP d) ∧ w.grownBy (sortWorldK (encT ask) 3 w g 0 n d' os) (some g) := by
    intro d' n os hp hs
    have he : d'.toList = sortP d := by
      have := sorted_is d.toArray d' (by simpa using hp) (by simpa using hs)
      simpa using this
    have hd : d' = (sortP d).toArray := by rw [← he]
    have hlen : (sortP d).length = d.length := by unfold sortP; exact List.length_mergeSort ..
    subst hd
    refine ⟨?_, grown_put _⟩
    unfold OwnT
    rw [hlen]
    refine ⟨by rw [flat_len, hlen], .inr ⟨g, cap, _, rfl, hBg, heap_put hg, hnc, hcm, by simp [Sort.putCells, hcs], ?_⟩⟩
    have hF : (Sort.flatK (encT ask) 3 (sortP d).toArray).size = d.length * 3 := by simp [hlen]
    rw [← hF, take_put _ _ (by rw [hF, hcs]; omega), flat_eq]
  clear hH hown htake
  go_enter Tryd.func25, Tryd.ntmps25
  go_wp2_with (go_at_call 48; refine hcon.mono ?_; rintro e w' ⟨rfl, d', n, os, hp, hs, rfl⟩)
  go_end0
  exact ⟨rfl, (hfin d' n os hp hs).1, (hfin d' n os hp hs).2⟩
end Go.Proofs.YtahegppdfcndkaaDoor
