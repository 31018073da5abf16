/- The law FnOrderOk, walked. -/
import Derived.Test.YtimkmdedoacpfabDoorDrI
import Derived.Test.YtimkmdedoacpfabDoorGphI
import Derived.Test.YtimkmdedoacpfabDoorGphS
import Derived.Test.YtimkmdedoacpfabDoorBLaw
import Derived.Deep.Cut
namespace Go.Proofs.YtimkmdedoacpfabDoor
open Go.RowKit

theorem Own.form_ints {w : World} {v : Value} {xs : List Int} (h : Ints w v xs) : ∃ a c, v = .slice a xs.length c := by
  obtain ⟨a, c, e, _⟩ := h.opened
  exact ⟨a, c, e⟩
/-- A list that is not empty: where it lies, and its numbers. -/
theorem Li.lies {w : World} {v : Value} {xs : List Int} (h : Li w v xs) (h0 : 0 < xs.length) : ∃ G c, v = .slice (some ⟨G, 0, none⟩) xs.length c ∧ ∀ w', Below w.heap.size w w' → ∀ j, j < xs.length → w'.cell? ⟨G, j, none⟩ = some (.int .i64 (nth xs j)) := by
  have hi := h.ints
  rcases hi with ⟨rfl, rfl⟩ | ⟨g, cap, rfl, _, hg, hc⟩
  · simp at h0
  · exact ⟨_, _, rfl, fun w' hb j hj => (hb.cell (p := ⟨g, j, none⟩) hg).trans (hc j hj)⟩

set_option maxRecDepth 20000 in
set_option maxHeartbeats 6400000 in
theorem lOrderOk_walk (s : Value) (w : World) (h : CodeIn w s) (G : Gr w) : Calls Tryd.prog 12 #[s] w fun e w' => e = .returned (.bool true) ∧ Below w.heap.size w w' := by
  obtain ⟨a0, len0, cap0, rfl⟩ := h.slice
  have H := Lib.hid h; clear h
  have G0 := Lib.hid G; clear G
  by_cases hl : 1048576 < len0
  · go_enter Tryd.func12, Tryd.ntmps12
    go_wp2
    go_ret
    exact ⟨rfl, Below.refl _ _⟩
  go_enter Tryd.func12, Tryd.ntmps12
  go_wp2_with fail
  refine (drawOrderOk_any _ _ H.out).mono ?_
  rintro e w1 ⟨v, xs, n, rfl, hx, n1, n6, hb⟩
  have LX := Lib.hid hx
  have T1 := Lib.hid hb
  clear hx hb
  go_wp2_with fail
  refine (iod_any v xs n _ LX.out.ints LX.out.cap).mono ?_
  rintro e w2 ⟨rfl, hb⟩
  have L2 := Lib.hid (LX.out.below hb)
  have T2 := Lib.hid (Below.on T1.out hb)
  clear hb LX T1
  go_wp2_with fail
  refine (sod_any v xs n _ L2.out.ints).mono ?_
  rintro e w3 ⟨rfl, hb⟩
  have L3 := Lib.hid (L2.out.below hb)
  have T3 := Lib.hid (Below.on T2.out hb)
  clear hb L2 T2
  cases ho : odB xs n
  · have hbn : (false != false) = false := rfl
    go_wp2_with fail
    refine (alive_any _ (G0.out.on T3.out)).mono ?_
    rintro e wz ⟨rfl, rfl⟩
    go_wp2
    go_ret
    exact ⟨rfl, T3.out⟩
  · by_cases hn2 : n < 2
    · skip
      go_wp2_with fail
      refine (alive_any _ (G0.out.on T3.out)).mono ?_
      rintro e wz ⟨rfl, rfl⟩
      go_wp2
      go_ret
      exact ⟨rfl, T3.out⟩
    have HO := Lib.hid (odB_true.1 ho)
    have hlen := HO.out.len
    obtain ⟨Gx, cx, rfl, hc⟩ := L3.out.lies (by omega)
    obtain ⟨k, hk⟩ : ∃ k, xs.length = k := ⟨_, rfl⟩
    have HK := Lib.hid hk
    have HC := Lib.hid hc
    have hk1 : (1 : Int) < (k : Int) := by omega
    have hk0 : (0 : Int) < (k : Int) := by omega
    have hl9 : ([] : List Int).length + k < 1000000000 := by simp; omega
    rw [hk] at L3 HC ⊢
    have hc0 : ∀ j, j < k → (w3.alloc (.cells #[] 3)).cell? ⟨Gx, j, none⟩ = some (.int .i64 (nth xs j)) := HC.out _ (below_grow _ _)
    have oo := own_made' w3
    have oz : w3.heap.size ≤ (w3.alloc (.cells #[] 3)).heap.size := by simp
    clear hc ho hlen hk
    go_wp2_with (at_builtin; refine wpAppInts2 (xs := []) (ys := xs) rfl _ _ rfl rfl oo HK.out hl9 oz rfl hc0 ?_)
    intro v4 w4 o4 g4 _
    have o4 : Own w4 w3.heap.size v4 xs := o4
    have B4 : Hid (Below w3.heap.size w3 w4) := Lib.hid ((below_grow w3 _).grown g4 oz (fun q e => (oo.lt q e).1))
    obtain ⟨g, c4, e4⟩ := own_some (xs := xs) o4 (by have := HK.out; omega)
    rw [HK.out] at e4
    subst e4
    obtain ⟨⟨f0, z0⟩, s1, s2⟩ := Own.set (k := 0) o4 HK.out (by omega) (nth xs 1)
    obtain ⟨⟨f1, z1⟩, r1, r2⟩ := Own.set (k := 1) s1 (by rw [List.length_set]; exact HK.out) (by omega) (nth xs 0)
    have hg := (o4.lt g rfl).1
    have B5 := Lib.hid (B4.out.grown s2 (by have := B4.out.size; exact this) (fun q e => by cases e; exact hg))
    have B6 := Lib.hid (B5.out.grown r2 (by have := B5.out.size; exact this) (fun q e => by cases e; exact hg))
    have y1 := HC.out _ B4.out 1 (by omega)
    have y0 := HC.out _ B5.out 0 (by omega)
    have O6 := Lib.hid r1
    have OD := Lib.hid (odB_true.2 (swap_od HO.out (by omega)))
    clear s1 s2 r1 r2 o4 g4 oo oz hc0 hg
    go_wp2_with fail
    refine (iod_any _ ((xs.set 0 (nth xs 1)).set 1 (nth xs 0)) n _ (Ints.of_own O6.out (by simp; unfold maxLen; have := HK.out; have := L3.out.few; omega)) O6.out.capped).mono ?_
    rintro e w7 ⟨rfl, hb⟩
    have T7 := Lib.hid (Below.on (Below.on T3.out B6.out) hb)
    rw [OD.out]
    go_wp2
    go_ret
    exact ⟨rfl, T7.out⟩
end Go.Proofs.YtimkmdedoacpfabDoor
