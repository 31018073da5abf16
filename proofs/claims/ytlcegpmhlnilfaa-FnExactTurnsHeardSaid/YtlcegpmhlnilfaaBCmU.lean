/- CmL, CmU, SrU, SbU, StU, in one text. -/
import Derived.Test.YtlcegpmhlnilfaaPurO
import Derived.Test.YtlcegpmhlnilfaaCmA
import Derived.Test.YtlcegpmhlnilfaaBTu
import Derived.Test.YtlcegpmhlnilfaaBCl
import Derived.Test.YtlcegpmhlnilfaaShelfU
import Derived.Shelf.SlSortCmp.WholeK
import Derived.Test.YtlcegpmhlnilfaaBGr
import Derived.Laws.AppendOwnNone
import Derived.Laws.OwnMore
import Derived.Sort.LotA
/- Plain mathematics: rows of numbers compared. -/
namespace Go.Proofs.Ytlcegpmhlnilfaa

def cm1 (a b : Int) : Int := if a < b then -1 else if b < a then 1 else 0
def cmpL : List Int → List Int → Int
  | [], [] => 0
  | [], _ :: _ => -1
  | _ :: _, [] => 1
  | x :: xs, y :: ys => if cm1 x y = 0 then cmpL xs ys else cm1 x y
theorem cm1_vals (a b : Int) : (a < b ∧ cm1 a b = -1) ∨ (a = b ∧ cm1 a b = 0) ∨ (b < a ∧ cm1 a b = 1) := by
  unfold cm1
  by_cases h : a < b
  · left; simp [h]
  · by_cases k : b < a
    · right; right; simp [h, k]
    · right; left; exact ⟨by omega, by simp [h, k]⟩
theorem cmpL_self : ∀ xs, cmpL xs xs = 0
  | [] => rfl
  | x :: xs => by
    have : cm1 x x = 0 := by rcases cm1_vals x x with h | h | h <;> omega
    simp [cmpL, this, cmpL_self xs]
theorem cmpL_swap : ∀ xs ys, cmpL ys xs = - cmpL xs ys
  | [], [] => rfl
  | [], _ :: _ => rfl
  | _ :: _, [] => rfl
  | x :: xs, y :: ys => by
    have h1 := cm1_vals x y
    have h2 := cm1_vals y x
    have ih := cmpL_swap xs ys
    simp only [cmpL]
    by_cases e : cm1 x y = 0
    · rw [if_pos e, if_pos (by omega), ih]
    · rw [if_neg e, if_neg (by omega)]; omega
theorem cmpL_trans : ∀ xs ys zs, cmpL xs ys ≤ 0 → cmpL ys zs ≤ 0 → cmpL xs zs ≤ 0 ∧ (cmpL xs zs = 0 → cmpL xs ys = 0 ∧ cmpL ys zs = 0)
  | [], [], [], _, _ => by simp [cmpL]
  | [], [], _ :: _, _, _ => by simp [cmpL]
  | [], _ :: _, [], _, h => by simp [cmpL] at h
  | [], _ :: _, _ :: _, _, _ => by simp [cmpL]
  | _ :: _, [], _, h, _ => by simp [cmpL] at h
  | _ :: _, _ :: _, [], _, h => by simp [cmpL] at h
  | x :: xs, y :: ys, z :: zs, h1, h2 => by
    have a := cm1_vals x y
    have b := cm1_vals y z
    have c := cm1_vals x z
    have ih := cmpL_trans xs ys zs
    simp only [cmpL] at *
    by_cases e1 : cm1 x y = 0
    · rw [if_pos e1] at h1 ⊢
      by_cases e2 : cm1 y z = 0
      · rw [if_pos e2] at h2 ⊢
        rw [if_pos (by omega)]
        exact ih h1 h2
      · rw [if_neg e2] at h2 ⊢
        rw [if_neg (by omega)]
        exact ⟨by omega, fun h => by omega⟩
    · rw [if_neg e1] at h1 ⊢
      by_cases e2 : cm1 y z = 0
      · rw [if_pos e2] at h2 ⊢
        rw [if_neg (by omega)]
        exact ⟨by omega, fun h => by omega⟩
      · rw [if_neg e2] at h2 ⊢
        rw [if_neg (by omega)]
        exact ⟨by omega, fun h => by omega⟩
theorem cmpL_drop {xs ys : List Int} {k : Nat} (hx : k < xs.length) (hy : k < ys.length) : cmpL (xs.drop k) (ys.drop k) = if cm1 (nth xs k) (nth ys k) = 0 then cmpL (xs.drop (k + 1)) (ys.drop (k + 1)) else cm1 (nth xs k) (nth ys k) := by
  rw [List.drop_eq_getElem_cons hx, List.drop_eq_getElem_cons hy, nth_get hx, nth_get hy]; rfl
theorem cmpL_end {xs ys : List Int} {k : Nat} (hx : k = xs.length) (hy : k = ys.length) : cmpL (xs.drop k) (ys.drop k) = 0 := by
  rw [List.drop_eq_nil_of_le (by omega), List.drop_eq_nil_of_le (by omega)]; rfl
theorem rowLt_cons {x y : Int} {xs ys : List Int} (h : x < y ∨ (x = y ∧ RowLt xs ys)) : RowLt (x :: xs) (y :: ys) := by
  rcases h with h | ⟨rfl, i, h1, h2⟩
  · exact ⟨0, fun j hj => by omega, h⟩
  · refine ⟨i + 1, fun j hj => ?_, h2⟩
    match j with
    | 0 => rfl
    | j + 1 => exact h1 j (by omega)
/-- Of rows as long as each other the lesser one comes first. -/
theorem cmpL_lt : ∀ {xs ys : List Int}, xs.length = ys.length → cmpL xs ys < 0 → RowLt xs ys
  | [], [], _, h => by simp [cmpL] at h
  | [], _ :: _, e, _ => by simp at e
  | _ :: _, [], e, _ => by simp at e
  | x :: xs, y :: ys, e, h => by
    have a := cm1_vals x y
    simp only [cmpL] at h
    by_cases c : cm1 x y = 0
    · rw [if_pos c] at h
      exact rowLt_cons (.inr ⟨by omega, cmpL_lt (by simpa using e) h⟩)
    · rw [if_neg c] at h
      exact rowLt_cons (.inl (by omega))
theorem cmpL_zero : ∀ {xs ys : List Int}, cmpL xs ys = 0 → xs = ys
  | [], [], _ => rfl
  | [], _ :: _, h => by simp [cmpL] at h
  | _ :: _, [], h => by simp [cmpL] at h
  | x :: xs, y :: ys, h => by
    have a := cm1_vals x y
    simp only [cmpL] at h
    by_cases c : cm1 x y = 0
    · rw [if_pos c] at h
      rw [cmpL_zero h, show x = y by omega]
    · rw [if_neg c] at h; omega
/-- The order of talks. -/
def cfK (x y : Int × List Int) : Int := cmpL (x.1 :: x.2) (y.1 :: y.2)
theorem cfK_lt {x y : Int × List Int} (e : x.2.length = y.2.length) (h : cfK x y < 0) : TLt x y := by
  have a := cm1_vals x.1 y.1
  simp only [cfK, cmpL] at h
  by_cases c : cm1 x.1 y.1 = 0
  · rw [if_pos c] at h; exact .inr ⟨by omega, cmpL_lt e h⟩
  · rw [if_neg c] at h; exact .inl (by omega)
theorem cfK_zero {x y : Int × List Int} (h : cfK x y = 0) : x = y := by
  have := cmpL_zero h
  injection this with h1 h2
  exact Prod.ext h1 h2
/-- A list sorted by the order, in which nothing stands twice, ascends. -/
theorem asc_of_sorted {l : List (Int × List Int)} {m : Nat} (hm : ∀ x, x ∈ l → x.2.length = m) (hn : l.Nodup) (hs : l.Pairwise fun x y => ¬ cfK y x < 0) : l.Pairwise TLt := by
  have h := hn.and hs
  refine List.Pairwise.imp_of_mem (fun {x y} hx hy h => ?_) h
  obtain ⟨hne, hle⟩ := h
  have hsw := cmpL_swap (x.1 :: x.2) (y.1 :: y.2)
  refine cfK_lt (by rw [hm x hx, hm y hy]) ?_
  by_cases e : cfK x y = 0
  · exact absurd (cfK_zero e) hne
  · unfold cfK at *; omega
end Go.Proofs.Ytlcegpmhlnilfaa

/- slices.Compare over rows of one length; how impl's sort compares two talks on graphs. -/
namespace Go.Proofs.Ytlcegpmhlnilfaa
open Go.RowKit

theorem cm1_is (a b : Int) : cmpI a b = cm1 a b := rfl
set_option maxRecDepth 20000 in
theorem scp_any (u v : Value) (xs ys : List Int) (w : World) (h : Ints w u xs) (h' : Ints w v ys) (e : xs.length = ys.length) : Calls Try.prog 54 #[u, v] w fun e w' => e = .returned (.int .i64 (cmpL xs ys)) ∧ w = w' := by
  obtain ⟨a, c, rfl, k1⟩ := h.opened
  obtain ⟨b, d, rfl, k2⟩ := h'.opened
  obtain ⟨n, hn⟩ : ∃ n, xs.length = n := ⟨_, rfl⟩
  have hm := k1.max
  unfold maxLen at hm
  have HC := Lib.hid (show ∀ k, k < n → _ from fun k hk => k1.get k (by rw [hn]; exact hk))
  have HD := Lib.hid (show ∀ k, k < n → _ from fun k hk => k2.get k (by rw [← e, hn]; exact hk))
  have HST := Lib.hid (show ∀ k, k < n → _ from fun k hk => cmpL_drop (xs := xs) (ys := ys) (k := k) (by rw [hn]; exact hk) (by rw [← e, hn]; exact hk))
  have HEN := Lib.hid (show cmpL (xs.drop n) (ys.drop n) = 0 from cmpL_end hn.symm (by rw [← e, hn]))
  rw [← e, hn]
  rw [hn] at hm
  obtain ⟨r, hr⟩ : ∃ r, cmpL xs ys = r := ⟨_, rfl⟩
  have H0 : Hid (cmpL (xs.drop 0) (ys.drop 0) = r) := Lib.hid hr
  rw [hr]
  clear h h' k1 k2 e hn hr
  go_enter Try.func54, Try.ntmps54
  go_wp2
  go_loop [11] (fun i => ∃ k : Nat, k ≤ n ∧ i = .int .i64 k ∧ Hid (cmpL (xs.drop k) (ys.drop k) = r)) (fun i => n - (intOf i).toNat)
  case atStart => exact ⟨0, by omega, rfl, H0⟩
  case round =>
    obtain ⟨k, hk, rfl, H⟩ := hrel
    clear H0
    by_cases hlt : k < n
    · obtain ⟨A, rfl, _, hc⟩ := HC.out k hlt
      obtain ⟨B, rfl, _, hd⟩ := HD.out k hlt
      have hst := HST.out k hlt
      rw [H.out] at hst
      obtain ⟨x, hx⟩ : ∃ x, nth xs k = x := ⟨_, rfl⟩
      obtain ⟨y, hy⟩ : ∃ y, nth ys k = y := ⟨_, rfl⟩
      rw [hx] at hc hst
      rw [hy] at hd hst
      clear hx hy
      have hlt1 : (k : Int) < (n : Int) := by omega
      have hge : ¬ (k : Int) ≥ (n : Int) := by omega
      go_wp2_with fail
      refine (cmp_any x y _).mono ?_
      rintro e w1 ⟨rfl, rfl⟩
      rw [cm1_is]
      obtain ⟨z, hz⟩ : ∃ z, cm1 x y = z := ⟨_, rfl⟩
      rw [hz] at hst ⊢
      clear hz
      by_cases e0 : z = 0
      · subst e0
        rw [if_pos rfl] at hst
        have HN : Hid (cmpL (xs.drop (k + 1)) (ys.drop (k + 1)) = r) := Lib.hid hst.symm
        have hq : ((0 : Int) != 0) = false := rfl
        clear hst H
        go_wp2
        go_round
        case rel => exact ⟨k + 1, by omega, by go_num, HN⟩
        case measure => simp [intOf]; omega
      · rw [if_neg e0] at hst
        subst hst
        have hq : (r != 0) = true := bne_iff_ne.2 e0
        clear H
        go_wp2
        go_ret
        exact ⟨rfl, rfl⟩
    · obtain rfl : k = n := by omega
      have hz := H.out
      rw [HEN.out] at hz
      subst hz
      have hlt1 : ¬ (k : Int) < (k : Int) := by omega
      clear H HC HD HST HEN
      go_wp2
      go_ret
      exact ⟨rfl, rfl⟩

def cfU (x y : Tu) : Int := cfK (x.a, x.t) (y.a, y.t)
theorem cfU_or (x y : Tu) : cfU x y = orI (cmpI x.a y.a) (cmpL x.t y.t) := by
  unfold cfU cfK orI
  rw [cm1_is]; rfl
set_option maxRecDepth 20000 in
set_option maxHeartbeats 800000 in
theorem cloU_any (x y : Tu) (W : World) (hx : Ints W x.v x.t) (hy : Ints W y.v y.t) (e : x.t.length = y.t.length) : Calls Try.prog 51 #[.agg (encU x).toArray, .agg (encU y).toArray] W fun e w' => e = .returned (.int .i64 (cfU x y)) ∧ ∃ q os, w' = Sort.grow (W.drewN q) os := by
  obtain ⟨xp, xu, xa, xv, xe, xt⟩ := x
  obtain ⟨yp, yu, ya, yv, ye, yt⟩ := y
  have HX := Lib.hid (cfU_or ⟨xp, xu, xa, xv, xe, xt⟩ ⟨yp, yu, ya, yv, ye, yt⟩)
  have HE := Lib.hid e
  dsimp only at HX hx hy HE
  clear e
  show Calls Try.prog 51 #[.agg #[.int .i64 xp, xu, .int .i64 xa, xv], .agg #[.int .i64 yp, yu, .int .i64 ya, yv]] W _
  obtain ⟨p, hp⟩ : ∃ p, cmpI xa ya = p := ⟨_, rfl⟩
  obtain ⟨q, hq⟩ : ∃ q, cmpL xt yt = q := ⟨_, rfl⟩
  have HP := Lib.hid hp
  have HQ := Lib.hid hq
  rw [hp, hq] at HX
  clear hp hq
  have HB : Hid (∀ z w, Kz ((W.alloc (.cells #[.int .i64 xp, xu, .int .i64 xa, xv] 60)).alloc (.cells #[.int .i64 yp, yu, .int .i64 ya, yv] 60)) p q z w → Box w W.heap.size [.int .i64 xp, xu, .int .i64 xa, xv] ∧ Box w (W.heap.size + 1) [.int .i64 yp, yu, .int .i64 ya, yv] ∧ Below W.heap.size W w) := Lib.hid fun z w h => boxes2 h.below
  have HI : Hid (∀ z w, Kz ((W.alloc (.cells #[.int .i64 xp, xu, .int .i64 xa, xv] 60)).alloc (.cells #[.int .i64 yp, yu, .int .i64 ya, yv] 60)) p q z w → Ints w xv xt ∧ Ints w yv yt) := Lib.hid fun z w h => ⟨hx.below (HB.out z w h).2.2, hy.below (HB.out z w h).2.2⟩
  clear hx hy
  go_enter Try.func51, Try.ntmps51
  go_wp2_with fail
  apply wp_region_G (n := 10) (S := fun k => k == 10) (C := fun z w' => Hid (Kz ((W.alloc (.cells #[.int .i64 xp, xu, .int .i64 xa, xv] 60)).alloc (.cells #[.int .i64 yp, yu, .int .i64 ya, yv] 60)) p q z w')) none
  · kernel_rfl
  · kernel_rfl
  · kernel_rfl
  · rfl
  · exact Lib.hid ⟨1, #[], by rw [Sort.grow_empty]; rfl⟩
  · intro z
    dsimp only [List.take]
    repeat (first | go_big_quiet_skip | (go_big_quiet_want; go_big_quiet_op; first | go_big_quiet_on | (refine ⟨_, fun _ _ => rfl, ?_⟩; go_big_quiet_on)))
    go_big_quiet_want
    go_big_quiet_op
    refine ⟨.int .i64 xa, fun w' hw' => ?_, ?_⟩
    · have q := (HB.out _ _ hw'.out).1.cell 2
      simp at q
      simp [go_sem, q]
    go_big_quiet_on
    repeat (first | go_big_quiet_skip | (go_big_quiet_want; go_big_quiet_op; first | go_big_quiet_on | (refine ⟨_, fun _ _ => rfl, ?_⟩; go_big_quiet_on)))
    go_big_quiet_want
    go_big_quiet_op
    refine ⟨.int .i64 ya, fun w' hw' => ?_, ?_⟩
    · have q := (HB.out _ _ hw'.out).2.1.cell 2
      simp at q
      simp [go_sem, q]
    go_big_quiet_on
    repeat (first | go_big_quiet_skip | (go_big_quiet_want; go_big_quiet_op; first | go_big_quiet_on | (refine ⟨_, fun _ _ => rfl, ?_⟩; go_big_quiet_on)))
    go_big_quiet_want
    go_big_quiet_op
    go_big_quiet_call ((intro hw; exact (cmp_any xa ya _).mono fun _ _ ⟨he, hb⟩ => ⟨by rw [he, HP.out], by rw [← hb]; exact hw⟩))
    repeat (first | go_big_quiet_skip | (go_big_quiet_want; go_big_quiet_op; first | go_big_quiet_on | (refine ⟨_, fun _ _ => rfl, ?_⟩; go_big_quiet_on)))
    go_big_quiet_want
    go_big_quiet_op
    refine ⟨xv, fun w' hw' => ?_, ?_⟩
    · have q := (HB.out _ _ hw'.out).1.cell 3
      simp at q
      simp [go_sem, q]
    go_big_quiet_on
    repeat (first | go_big_quiet_skip | (go_big_quiet_want; go_big_quiet_op; first | go_big_quiet_on | (refine ⟨_, fun _ _ => rfl, ?_⟩; go_big_quiet_on)))
    go_big_quiet_want
    go_big_quiet_op
    refine ⟨yv, fun w' hw' => ?_, ?_⟩
    · have q := (HB.out _ _ hw'.out).2.1.cell 3
      simp at q
      simp [go_sem, q]
    go_big_quiet_on
    repeat (first | go_big_quiet_skip | (go_big_quiet_want; go_big_quiet_op; first | go_big_quiet_on | (refine ⟨_, fun _ _ => rfl, ?_⟩; go_big_quiet_on)))
    go_big_quiet_want
    go_big_quiet_op
    go_big_quiet_call ((intro hw; exact (scp_any xv yv xt yt _ (HI.out _ _ hw.out).1 (HI.out _ _ hw.out).2 HE.out).mono fun _ _ ⟨he, hb⟩ => ⟨by rw [he, HQ.out], by rw [← hb]; exact hw⟩))
    repeat (first | go_big_quiet_skip | (go_big_quiet_want; go_big_quiet_op; first | go_big_quiet_on | (refine ⟨_, fun _ _ => rfl, ?_⟩; go_big_quiet_on)))
    exact wpQuiet_nil rfl
  refine wpAnyG_special (i := 10) (d := some 15) rfl (by kernel_rfl) rfl rfl rfl fun wa ha0 => ?_
  refine ⟨.slice (some ⟨wa.heap.size, 0, none⟩) 2 2, wa.alloc (.cells #[.int .i64 p, .int .i64 q] 3), some wa.heap.size, .inl ?_, Lib.hid ⟨?_, ?_, ?_⟩, ?_⟩
  · kernel_rfl
  · obtain ⟨m, os, rfl⟩ := ha0.out
    exact ⟨m, os ++ #[_], grow_alloc _ _ _ _⟩
  · rw [World.cell?_alloc_at _ _ _ _ rfl]; rfl
  · rw [World.cell?_alloc_at _ _ _ _ rfl]; rfl
  refine wpAnyG_quiet (i := 11) (d := some 16) (v := .int .i64 (orI p q)) rfl (by kernel_rfl) rfl rfl rfl (fun w hw => ?_) ?_
  · refine ⟨rfl, ?_⟩
    have hc : Calls Try.prog 52 #[.slice (some ⟨wa.heap.size, 0, none⟩) 2 2] w fun e w' => e = .returned (.int .i64 (orI p q)) ∧ (Hid (Kz ((W.alloc (.cells #[.int .i64 xp, xu, .int .i64 xa, xv] 60)).alloc (.cells #[.int .i64 yp, yu, .int .i64 ya, yv] 60)) p q (some wa.heap.size) w')) :=
      (or_any p q wa.heap.size w hw.out.2.1 hw.out.2.2).mono fun _ _ ⟨he, hb⟩ => ⟨he, by rw [← hb]; exact hw⟩
    simpa [go_sem, Act.put] using hc
  refine wpAnyG_assign (i := 12) (d := some 4) (.tmp 16) rfl (by kernel_rfl) rfl rfl rfl rfl ⟨by kernel_rfl, fun wz hz => ?_⟩
  simp only [Act.put]
  go_wp2
  go_ret
  refine ⟨by rw [HX.out]; rfl, ?_⟩
  obtain ⟨m, os, rfl⟩ := hz.out.1
  refine ⟨m, #[.cells #[.int .i64 xp, xu, .int .i64 xa, xv] 60, .cells #[.int .i64 yp, yu, .int .i64 ya, yv] 60] ++ os, ?_⟩
  rw [Sort.alloc_eq_grow, Sort.alloc_eq_grow, Sort.grow_grow]
  simp [Sort.grow, World.drewN, Array.append_assoc]
end Go.Proofs.Ytlcegpmhlnilfaa

/- impl's sort of talks on graphs. -/
namespace Go.Proofs.Ytlcegpmhlnilfaa
open Go.RowKit

theorem take_put (F cur : Array Value) (h : F.size ≤ cur.size) : (Sort.putCells id 0 F cur).toList.take F.size = F.toList := by
  apply List.ext_getElem?
  intro j
  by_cases hj : j < F.size
  · rw [List.getElem?_take_of_lt hj, Array.getElem?_toList, Array.getElem?_toList]
    simp [Sort.putCells, hj, show j < cur.size by omega]
  · rw [List.getElem?_take_eq_none (by omega), List.getElem?_eq_none (by simp; omega)]
theorem heap_put {w : World} {g n : Nat} {os : Array Obj} {cur F : Array Value} {e : TypeId} {fr : Nat × Nat} (hb : w.heap[g]? = some (.cells cur e fr)) :
    (Sort.grow (Sort.putRow id (Sort.ahead w n) g 0 F) os).heap[g]? = some (.cells (Sort.putCells id 0 F cur) e fr) := by
  have hg : g < w.heap.size := (Array.getElem?_eq_some_iff.1 hb).1
  rw [Sort.heap_grow_old _ _ (by simpa using hg)]
  simp [Sort.putRow, Sort.mapBlock, Sort.ahead, Array.getElem?_modify, hb, Sort.onCells]
theorem grown_put {w : World} {g n : Nat} {os : Array Obj} (F : Array Value) : w.grownBy (Sort.grow (Sort.putRow id (Sort.ahead w n) g 0 F) os) (some g) := by
  refine ⟨rfl, rfl, rfl, by simp, fun k hk hne => ?_⟩
  rw [Sort.heap_grow_old _ _ (by simpa using hk)]
  have : g ≠ k := fun e => hne (by rw [e])
  simp [Sort.putRow, Sort.mapBlock, Sort.ahead, Array.getElem?_modify, this]


theorem swoK : Sort.SWO (fun x y : Int × List Int => decide (cfK x y < 0)) where
  irrefl x := by
    have := cmpL_self (x.1 :: x.2)
    simp only [cfK, this]; decide
  trans x y z h1 h2 := by
    have k1 : cmpL (x.1 :: x.2) (y.1 :: y.2) < 0 := of_decide_eq_true h1
    have k2 : cmpL (y.1 :: y.2) (z.1 :: z.2) < 0 := of_decide_eq_true h2
    have := cmpL_trans (x.1 :: x.2) (y.1 :: y.2) (z.1 :: z.2) (by omega) (by omega)
    exact decide_eq_true (show cmpL (x.1 :: x.2) (z.1 :: z.2) < 0 by omega)
  ntrans x y z h1 h2 := by
    have k1 : ¬ cmpL (x.1 :: x.2) (y.1 :: y.2) < 0 := of_decide_eq_false h1
    have k2 : ¬ cmpL (y.1 :: y.2) (z.1 :: z.2) < 0 := of_decide_eq_false h2
    have s1 := cmpL_swap (x.1 :: x.2) (y.1 :: y.2)
    have s2 := cmpL_swap (y.1 :: y.2) (z.1 :: z.2)
    have s3 := cmpL_swap (x.1 :: x.2) (z.1 :: z.2)
    have := cmpL_trans (z.1 :: z.2) (y.1 :: y.2) (x.1 :: x.2) (by omega) (by omega)
    exact decide_eq_false (show ¬ cmpL (x.1 :: x.2) (z.1 :: z.2) < 0 by omega)
/-- The same talks, sorted. -/
structure SrtU (d d' : List Tu) : Prop where
  perm : d'.Perm d
  asc : d'.Pairwise fun x y => ¬ cfU y x < 0
theorem own_one {w : World} {B : Nat} {v : Value} {xs : List Int} (h : Own w B v xs) : v.oneCell' = true := by
  rcases id h.2 with ⟨rfl, _⟩ | ⟨g, cap, cur, rfl, _⟩ <;> rfl
theorem att_get {d : List Tu} {i : Nat} (hi : i < d.length) [Inhabited {x : Tu // x ∈ d}] : (d.attach.toArray[i]!).1 = d[i]! := by
  rw [getElem!_pos _ i (by simpa using hi), getElem!_pos d i hi]; simp
theorem flatA_eq {d : List Tu} [Inhabited {x : Tu // x ∈ d}] (dk : Array {x : Tu // x ∈ d}) : (Sort.flatK (fun x : {x : Tu // x ∈ d} => encU x.1) 4 dk).toList = (dk.toList.map (·.1)).flatMap encU := by
  apply List.ext_getElem?
  intro t
  by_cases ht : t < dk.size * 4
  · have hlen : (dk.toList.map (·.1)).length = dk.size := by simp
    rw [flatU_get _ t (by rw [hlen]; exact ht), Array.getElem?_toList]
    have hs : t < (Sort.flatK (fun x : {x : Tu // x ∈ d} => encU x.1) 4 dk).size := by simpa using ht
    rw [Array.getElem?_eq_getElem hs]
    congr 1
    have := Sort.get_flatK (fun x : {x : Tu // x ∈ d} => encU x.1) 4 dk t ht
    rw [getElem!_pos _ t hs] at this
    rw [this]
    have hd : t / 4 < dk.size := by omega
    rw [getElem!_pos dk (t / 4) hd, getElem!_pos (dk.toList.map (·.1)) (t / 4) (by rw [hlen]; exact hd)]
    simp
  · have h1 : (Sort.flatK (fun x : {x : Tu // x ∈ d} => encU x.1) 4 dk).toList.length ≤ t := by simp; omega
    have h2 : ((dk.toList.map (·.1)).flatMap encU).length ≤ t := by rw [flatU_len]; simp; omega
    rw [List.getElem?_eq_none h1, List.getElem?_eq_none h2]
theorem sorted_list {d : List Tu} [Inhabited {x : Tu // x ∈ d}] {dk : Array {x : Tu // x ∈ d}} (hp : Sort.PermIn 0 d.length d.attach.toArray dk) (hs : Sort.SortedIn (ltOf fun x y : {x : Tu // x ∈ d} => cfU x.1 y.1) 0 d.length dk) : SrtU d (dk.toList.map (·.1)) := by
  obtain ⟨h1, _, h3⟩ := hp
  have hz : dk.size = d.length := by rw [h1]; simp
  refine ⟨?_, ?_⟩
  · have e1 : dk.extract 0 d.length = dk := by rw [← hz]; exact Array.extract_size
    have e2 : d.attach.toArray.extract 0 d.length = d.attach.toArray := by
      have := Array.extract_size (xs := d.attach.toArray)
      simpa using this
    rw [e1, e2] at h3
    have := h3.map (fun x : {x : Tu // x ∈ d} => x.1)
    simpa using this
  · rw [List.pairwise_map, List.pairwise_iff_getElem]
    intro i j hi hj hij
    have hi' : i < dk.size := by simpa using hi
    have hj' : j < dk.size := by simpa using hj
    have := hs i j (Nat.zero_le _) hij (by omega)
    unfold ltOf at this
    rw [getElem!_pos dk i hi', getElem!_pos dk j hj'] at this
    simpa using this

set_option maxRecDepth 20000 in
set_option maxHeartbeats 1000000 in
theorem sortU_any (lo hi m : Nat) (v : Value) (d : List Tu) (w : World) (h : OwnU w lo hi v d) (f : FewU d) (h1 : 1 ≤ d.length) (hm : ∀ x, x ∈ d → x.t.length = m) :
    Calls Try.prog 50 #[v, .func (.func 51) #[] #[]] w fun e w' => e = .returned (.tuple #[]) ∧ ∃ d', SrtU d d' ∧ OwnU w' lo hi v d' ∧ w.grownBy w' v.ownBlock := by
  have hown := h.outer
  rcases id hown.2 with ⟨_, h0⟩ | ⟨g, cap, cur, rfl, hBg, hg, hnc, hcm, hcs, htake⟩
  · omega
  have hglt : g < w.heap.size := (Array.getElem?_eq_some_iff.1 hg).1
  have hmem : d[0]! ∈ d := by rw [getElem!_pos d 0 (by omega)]; exact List.getElem_mem _
  haveI : Inhabited {x : Tu // x ∈ d} := ⟨⟨d[0]!, hmem⟩⟩
  have hl := f.len
  have hH : Sort.HoldsK (fun x : {x : Tu // x ∈ d} => encU x.1) 4 w g 0 d.attach.toArray := by
    intro j hj
    have hj' : j < d.length * 4 := by simpa using hj
    refine ⟨?_, ?_⟩
    · rw [Nat.zero_add, hown.cellAt j hj', flatU_get d j hj']
      rw [Sort.get_flatK (fun x : {x : Tu // x ∈ d} => encU x.1) 4 d.attach.toArray j (by simpa using hj')]
      rw [att_get (by omega)]
      simp
    · rw [Nat.zero_add]; exact hown.frozenAt j
  have eg : ∀ args w, (callFunc 51 args).run Try.prog w = .ok (.enter 51 args) w := enters_of Try.func51 (by kernel_rfl) rfl
  have hswo : Sort.SWO (ltOf fun x y : {x : Tu // x ∈ d} => cfU x.1 y.1) :=
    ⟨fun x => swoK.irrefl (x.1.a, x.1.t), fun x y z => swoK.trans (x.1.a, x.1.t) (y.1.a, y.1.t) (z.1.a, z.1.t), fun x y z => swoK.ntrans (x.1.a, x.1.t) (y.1.a, y.1.t) (z.1.a, z.1.t)⟩
  have hone : ∀ x : {x : Tu // x ∈ d}, ∀ u ∈ encU x.1, u.oneCell' = true := fun x u hu => by
    have hx := lstU_mem x.2
    simp [encU] at hu
    rcases hu with rfl | rfl | rfl | rfl
    · rfl
    · exact own_one (h.rows _ hx.1)
    · rfl
    · exact own_one (h.rows _ hx.2)
  have hcmp : CmpLays Try.prog 51 #[] (fun x : {x : Tu // x ∈ d} => encU x.1) 4 (fun x y => cfU x.1 y.1) g 0 d.attach.toArray.size w := by
    intro m' os dk _ x y
    have hgr : w.grownBy (sortWorldK (fun x : {x : Tu // x ∈ d} => encU x.1) 4 w g 0 m' dk os) (some g) := grown_put _
    have hin : ∀ z : {x : Tu // x ∈ d}, Ints (sortWorldK (fun x : {x : Tu // x ∈ d} => encU x.1) 4 w g 0 m' dk os) z.1.v z.1.t := fun z => by
      have hz := lstU_mem z.2
      have ho := (h.rows _ hz.2).kept hgr (by
        cases hv : z.1.v.ownBlock with
        | none => exact .inl rfl
        | some b => exact .inr fun e => h.apart0 _ hz.2 b hv e.symm)
      obtain ⟨i, hi', ei⟩ := List.getElem_of_mem z.2
      have := (f.el i hi').2
      rw [getElem!_pos d i hi', ei] at this
      exact Ints.of_own ho (by unfold maxLen; omega)
    have := cloU_any x.1 y.1 _ (hin x) (hin y) (by rw [hm _ x.2, hm _ y.2])
    exact this
  have hcon := AnyQ.slices_SortFunc Try.sortTurn 4 Try.isAgg60 Try.sizeOf60 (fun x : {x : Tu // x ∈ d} => encU x.1) (fun _ => rfl) hone (fun x y => cfU x.1 y.1) hswo 51 #[] g 0 cap d.attach.toArray w eg
    hcmp hH hglt (by simp; omega)
  change Calls Try.prog 50 _ _ _ at hcon
  simp only [List.size_toArray, List.length_attach] at hcon
  refine hcon.mono ?_
  rintro e w' ⟨rfl, dk, n, os, hp, hs, rfl⟩
  have hS := sorted_list hp hs
  have hgr : w.grownBy (sortWorldK (fun x : {x : Tu // x ∈ d} => encU x.1) 4 w g 0 n dk os) (some g) := grown_put _
  have hlen : (dk.toList.map (·.1)).length = d.length := hS.perm.length_eq
  refine ⟨rfl, dk.toList.map (·.1), hS, h.perm hS.perm ?_ hgr, hgr⟩
  unfold OutU
  rw [hlen]
  refine ⟨by rw [flatU_len, hlen], .inr ⟨g, cap, _, rfl, hBg, heap_put hg, hnc, hcm, by simp [Sort.putCells, hcs], ?_⟩⟩
  have hsz : dk.size = d.length := by simpa using hlen
  have hF : (Sort.flatK (fun x : {x : Tu // x ∈ d} => encU x.1) 4 dk).size = d.length * 4 := by simp [hsz]
  rw [← hF, take_put _ _ (by rw [hF, hcs]; omega), flatA_eq]
end Go.Proofs.Ytlcegpmhlnilfaa

/- spec.l9Before. -/
namespace Go.Proofs.Ytlcegpmhlnilfaa
open Go.RowKit

/-- Two boxes behind the world W. -/
def Bx2 (W : World) (P R : List Value) (w : World) : Prop := Box w W.heap.size P ∧ Box w (W.heap.size + 1) R ∧ Below W.heap.size W w
theorem Bx2.on {W w w' : World} {P R : List Value} (h : Bx2 W P R w) (hb : Below w.heap.size w w') : Bx2 W P R w' := ⟨h.1.on hb, h.2.1.on hb, Below.on h.2.2 hb⟩
theorem Bx2.start (W : World) (P R : List Value) (T U : TypeId) : Bx2 W P R ((W.alloc (.cells P.toArray T)).alloc (.cells R.toArray U)) := boxes2 (Below.refl _ _)
theorem cfK_eq {xa ya : Int} {xt yt : List Int} (e : xa = ya) : cfK (xa, xt) (ya, yt) = cmpL xt yt := by
  subst e
  have a := cm1_vals xa xa
  have h0 : cm1 xa xa = 0 := by omega
  simp [cfK, cmpL, h0]
theorem cfK_ne {xa ya : Int} {xt yt : List Int} (e : xa ≠ ya) : decide (cfK (xa, xt) (ya, yt) < 0) = decide (xa < ya) := by
  have a := cm1_vals xa ya
  have h0 : cm1 xa ya ≠ 0 := by omega
  have : cfK (xa, xt) (ya, yt) = cm1 xa ya := by simp [cfK, cmpL, h0]
  rw [this]
  rcases a with a | a | a
  · rw [decide_eq_true (show cm1 xa ya < 0 by omega), decide_eq_true (show xa < ya by omega)]
  · omega
  · rw [decide_eq_false (show ¬ cm1 xa ya < 0 by omega), decide_eq_false (show ¬ xa < ya by omega)]

set_option maxRecDepth 20000 in
set_option maxHeartbeats 1600000 in
theorem sbf_any (x y : Tu) (W : World) (hx : Ints W x.v x.t) (hy : Ints W y.v y.t) (e : x.t.length = y.t.length) : Calls Try.prog 68 #[.agg (encU x).toArray, .agg (encU y).toArray] W fun e w' => e = .returned (.bool (decide (cfK (x.a, x.t) (y.a, y.t) < 0))) ∧ Below W.heap.size W w' := by
  obtain ⟨xp, xu, xa, xv, xe, xt⟩ := x
  obtain ⟨yp, yu, ya, yv, ye, yt⟩ := y
  dsimp only at hx hy e ⊢
  show Calls Try.prog 68 #[.agg #[.int .i64 xp, xu, .int .i64 xa, xv], .agg #[.int .i64 yp, yu, .int .i64 ya, yv]] W _
  have B0 := Lib.hid (Bx2.start W [.int .i64 xp, xu, .int .i64 xa, xv] [.int .i64 yp, yu, .int .i64 ya, yv] 60 60)
  have a2 := B0.out.1.cell 2
  have b2 := B0.out.2.1.cell 2
  simp at a2 b2
  by_cases ha : xa = ya
  case neg =>
    have HX := Lib.hid (cfK_ne (xt := xt) (yt := yt) ha)
    have hq : (xa != ya) = true := bne_iff_ne.2 ha
    clear hx hy e ha
    go_enter Try.func68, Try.ntmps68
    go_wp2
    go_ret
    exact ⟨by rw [HX.out]; rfl, B0.out.2.2⟩
  have hq : (xa != ya) = false := by rw [bne_eq_false_iff_eq]; exact ha
  rw [cfK_eq ha]
  obtain ⟨a, ac, rfl, k1⟩ := hx.opened
  obtain ⟨b, bc, rfl, k2⟩ := hy.opened
  obtain ⟨n, hn⟩ : ∃ n, xt.length = n := ⟨_, rfl⟩
  have hm := k1.max
  unfold maxLen at hm
  have H0 : Hid (∀ w', Below W.heap.size W w' → ∀ k, k < n → ∃ A, a = some ⟨A, 0, none⟩ ∧ w'.cell? ⟨A, k, none⟩ = some (.int .i64 (nth xt k))) := Lib.hid fun w' hb k hk => by
    obtain ⟨A, e1, _, e3⟩ := (k1.on hb).get k (by rw [hn]; exact hk)
    exact ⟨A, e1, e3⟩
  have H1 : Hid (∀ w', Below W.heap.size W w' → ∀ k, k < n → ∃ A, b = some ⟨A, 0, none⟩ ∧ w'.cell? ⟨A, k, none⟩ = some (.int .i64 (nth yt k))) := Lib.hid fun w' hb k hk => by
    obtain ⟨A, e1, _, e3⟩ := (k2.on hb).get k (by rw [← e, hn]; exact hk)
    exact ⟨A, e1, e3⟩
  have HST := Lib.hid (show ∀ k, k < n → _ from fun k hk => cmpL_drop (xs := xt) (ys := yt) (k := k) (by rw [hn]; exact hk) (by rw [← e, hn]; exact hk))
  have HEN := Lib.hid (show cmpL (xt.drop n) (yt.drop n) = 0 from cmpL_end hn.symm (by rw [← e, hn]))
  rw [← e, hn] at B0 ⊢
  rw [hn] at hm
  obtain ⟨r, hr⟩ : ∃ r, cmpL xt yt = r := ⟨_, rfl⟩
  have HR0 : Hid (cmpL (xt.drop 0) (yt.drop 0) = r) := Lib.hid hr
  rw [hr]
  clear hx hy k1 k2 e hn hr ha
  have a3 := B0.out.1.cell 3
  simp at a3
  go_enter Try.func68, Try.ntmps68
  go_wp2
  clear a2 b2 a3
  go_loopw [5] (fun i wr => ∃ k : Nat, k ≤ n ∧ i = .int .i64 k ∧ Hid (cmpL (xt.drop k) (yt.drop k) = r) ∧ Hid (Bx2 W [.int .i64 xp, xu, .int .i64 xa, .slice a n ac] [.int .i64 yp, yu, .int .i64 ya, .slice b n bc] wr)) (fun i _ => n - (intOf i).toNat)
  case atStart => exact ⟨0, by omega, rfl, HR0, B0⟩
  case round =>
    obtain ⟨k, hk, rfl, H, M⟩ := hrel
    obtain ⟨wo, rfl⟩ : ∃ wo : World, wo = wr := ⟨_, rfl⟩
    clear HR0 B0
    have a3 := M.out.1.cell 3
    simp at a3
    by_cases hlt : k < n
    · obtain ⟨A, rfl, _⟩ := H0.out _ M.out.2.2 k hlt
      obtain ⟨B, rfl, _⟩ := H1.out _ M.out.2.2 k hlt
      have HC := Lib.hid (show ∀ w', Below W.heap.size W w' → w'.cell? ⟨A, k, none⟩ = some (.int .i64 (nth xt k)) from fun w' hb => by obtain ⟨A', e1, e2⟩ := H0.out w' hb k hlt; cases e1; exact e2)
      have HE := Lib.hid (show ∀ w', Below W.heap.size W w' → w'.cell? ⟨B, k, none⟩ = some (.int .i64 (nth yt k)) from fun w' hb => by obtain ⟨A', e1, e2⟩ := H1.out w' hb k hlt; cases e1; exact e2)
      have hst := HST.out k hlt
      rw [H.out] at hst
      obtain ⟨x, hx⟩ : ∃ x, nth xt k = x := ⟨_, rfl⟩
      obtain ⟨y, hy⟩ : ∃ y, nth yt k = y := ⟨_, rfl⟩
      rw [hx] at HC hst
      rw [hy] at HE hst
      clear hx hy
      have hlt1 : (k : Int) < (n : Int) := by omega
      have hge : decide (n ≤ k) = false := decide_eq_false (by omega)
      have HD : Hid (Bx2 W [.int .i64 xp, xu, .int .i64 xa, .slice (some ⟨A, 0, none⟩) n ac] [.int .i64 yp, yu, .int .i64 ya, .slice (some ⟨B, 0, none⟩) n bc] wo.drew) := Lib.hid (M.out.on (Below.refl _ _).drew)
      have cv := cm1_vals x y
      by_cases exy : x = y
      · have hz : cm1 x y = 0 := by omega
        rw [if_pos hz] at hst
        have HN : Hid (cmpL (xt.drop (k + 1)) (yt.drop (k + 1)) = r) := Lib.hid hst.symm
        have hqq : (x != y) = false := by rw [bne_eq_false_iff_eq]; exact exy
        clear hst H cv hz exy
        go_wp2_with fail
        refine wp_region_cls (C := fun w' => Hid (Bx2 W [.int .i64 xp, xu, .int .i64 xa, .slice (some ⟨A, 0, none⟩) n ac] [.int .i64 yp, yu, .int .i64 ya, .slice (some ⟨B, 0, none⟩) n bc] w')) (by kernel_rfl) (by kernel_rfl) HD ?_
        repeat (first | go_big_quiet_skip | (go_big_quiet_want; go_big_quiet_op; first | go_big_quiet_on | (refine ⟨_, fun _ _ => rfl, ?_⟩; go_big_quiet_on)))
        go_big_quiet_want
        go_big_quiet_op
        refine ⟨.slice (some ⟨A, 0, none⟩) n ac, fun w' hw' => ?_, ?_⟩
        · have q := hw'.out.1.cell 3
          simp at q
          simp [go_sem, q]
        go_big_quiet_on
        repeat (first | go_big_quiet_skip | (go_big_quiet_want; go_big_quiet_op; first | go_big_quiet_on | (refine ⟨_, fun _ _ => rfl, ?_⟩; go_big_quiet_on)))
        go_big_quiet_want
        go_big_quiet_op
        refine ⟨.int .i64 x, fun w' hw' => ?_, ?_⟩
        · have q := HC.out _ hw'.out.2.2
          simp [go_sem, q]
        go_big_quiet_on
        repeat (first | go_big_quiet_skip | (go_big_quiet_want; go_big_quiet_op; first | go_big_quiet_on | (refine ⟨_, fun _ _ => rfl, ?_⟩; go_big_quiet_on)))
        go_big_quiet_want
        go_big_quiet_op
        refine ⟨.slice (some ⟨B, 0, none⟩) n bc, fun w' hw' => ?_, ?_⟩
        · have q := hw'.out.2.1.cell 3
          simp at q
          simp [go_sem, q]
        go_big_quiet_on
        repeat (first | go_big_quiet_skip | (go_big_quiet_want; go_big_quiet_op; first | go_big_quiet_on | (refine ⟨_, fun _ _ => rfl, ?_⟩; go_big_quiet_on)))
        go_big_quiet_want
        go_big_quiet_op
        refine ⟨.int .i64 y, fun w' hw' => ?_, ?_⟩
        · have q := HE.out _ hw'.out.2.2
          simp [go_sem, q]
        go_big_quiet_on
        repeat (first | go_big_quiet_skip | (go_big_quiet_want; go_big_quiet_op; first | go_big_quiet_on | (refine ⟨_, fun _ _ => rfl, ?_⟩; go_big_quiet_on)))
        refine wpQuiet_nil ?_
        intro w2 M2
        clear HD M a3
        go_wp2
        go_roundw
        case rel => exact ⟨k + 1, by omega, by go_num, HN, M2⟩
        case measure => simp [intOf]; omega
      · have hz : cm1 x y ≠ 0 := by omega
        rw [if_neg hz] at hst
        have HRR := Lib.hid (show decide (r < 0) = decide (x < y) by
          rw [hst]
          rcases cv with c | c | c
          · rw [decide_eq_true (show cm1 x y < 0 by omega), decide_eq_true (show x < y by omega)]
          · omega
          · rw [decide_eq_false (show ¬ cm1 x y < 0 by omega), decide_eq_false (show ¬ x < y by omega)])
        have hqq : (x != y) = true := bne_iff_ne.2 exy
        clear hst H cv hz exy
        go_wp2_with fail
        refine wp_region_cls (C := fun w' => Hid (Bx2 W [.int .i64 xp, xu, .int .i64 xa, .slice (some ⟨A, 0, none⟩) n ac] [.int .i64 yp, yu, .int .i64 ya, .slice (some ⟨B, 0, none⟩) n bc] w')) (by kernel_rfl) (by kernel_rfl) HD ?_
        repeat (first | go_big_quiet_skip | (go_big_quiet_want; go_big_quiet_op; first | go_big_quiet_on | (refine ⟨_, fun _ _ => rfl, ?_⟩; go_big_quiet_on)))
        go_big_quiet_want
        go_big_quiet_op
        refine ⟨.slice (some ⟨A, 0, none⟩) n ac, fun w' hw' => ?_, ?_⟩
        · have q := hw'.out.1.cell 3
          simp at q
          simp [go_sem, q]
        go_big_quiet_on
        repeat (first | go_big_quiet_skip | (go_big_quiet_want; go_big_quiet_op; first | go_big_quiet_on | (refine ⟨_, fun _ _ => rfl, ?_⟩; go_big_quiet_on)))
        go_big_quiet_want
        go_big_quiet_op
        refine ⟨.int .i64 x, fun w' hw' => ?_, ?_⟩
        · have q := HC.out _ hw'.out.2.2
          simp [go_sem, q]
        go_big_quiet_on
        repeat (first | go_big_quiet_skip | (go_big_quiet_want; go_big_quiet_op; first | go_big_quiet_on | (refine ⟨_, fun _ _ => rfl, ?_⟩; go_big_quiet_on)))
        go_big_quiet_want
        go_big_quiet_op
        refine ⟨.slice (some ⟨B, 0, none⟩) n bc, fun w' hw' => ?_, ?_⟩
        · have q := hw'.out.2.1.cell 3
          simp at q
          simp [go_sem, q]
        go_big_quiet_on
        repeat (first | go_big_quiet_skip | (go_big_quiet_want; go_big_quiet_op; first | go_big_quiet_on | (refine ⟨_, fun _ _ => rfl, ?_⟩; go_big_quiet_on)))
        go_big_quiet_want
        go_big_quiet_op
        refine ⟨.int .i64 y, fun w' hw' => ?_, ?_⟩
        · have q := HE.out _ hw'.out.2.2
          simp [go_sem, q]
        go_big_quiet_on
        repeat (first | go_big_quiet_skip | (go_big_quiet_want; go_big_quiet_op; first | go_big_quiet_on | (refine ⟨_, fun _ _ => rfl, ?_⟩; go_big_quiet_on)))
        refine wpQuiet_nil ?_
        intro w2 M2
        clear HD M a3
        have HD : Hid (Bx2 W [.int .i64 xp, xu, .int .i64 xa, .slice (some ⟨A, 0, none⟩) n ac] [.int .i64 yp, yu, .int .i64 ya, .slice (some ⟨B, 0, none⟩) n bc] w2.drew) := Lib.hid (M2.out.on (Below.refl _ _).drew)
        go_wp2_with fail
        refine wp_region_cls (C := fun w' => Hid (Bx2 W [.int .i64 xp, xu, .int .i64 xa, .slice (some ⟨A, 0, none⟩) n ac] [.int .i64 yp, yu, .int .i64 ya, .slice (some ⟨B, 0, none⟩) n bc] w')) (by kernel_rfl) (by kernel_rfl) HD ?_
        repeat (first | go_big_quiet_skip | (go_big_quiet_want; go_big_quiet_op; first | go_big_quiet_on | (refine ⟨_, fun _ _ => rfl, ?_⟩; go_big_quiet_on)))
        go_big_quiet_want
        go_big_quiet_op
        refine ⟨.slice (some ⟨A, 0, none⟩) n ac, fun w' hw' => ?_, ?_⟩
        · have q := hw'.out.1.cell 3
          simp at q
          simp [go_sem, q]
        go_big_quiet_on
        repeat (first | go_big_quiet_skip | (go_big_quiet_want; go_big_quiet_op; first | go_big_quiet_on | (refine ⟨_, fun _ _ => rfl, ?_⟩; go_big_quiet_on)))
        go_big_quiet_want
        go_big_quiet_op
        refine ⟨.int .i64 x, fun w' hw' => ?_, ?_⟩
        · have q := HC.out _ hw'.out.2.2
          simp [go_sem, q]
        go_big_quiet_on
        repeat (first | go_big_quiet_skip | (go_big_quiet_want; go_big_quiet_op; first | go_big_quiet_on | (refine ⟨_, fun _ _ => rfl, ?_⟩; go_big_quiet_on)))
        go_big_quiet_want
        go_big_quiet_op
        refine ⟨.slice (some ⟨B, 0, none⟩) n bc, fun w' hw' => ?_, ?_⟩
        · have q := hw'.out.2.1.cell 3
          simp at q
          simp [go_sem, q]
        go_big_quiet_on
        repeat (first | go_big_quiet_skip | (go_big_quiet_want; go_big_quiet_op; first | go_big_quiet_on | (refine ⟨_, fun _ _ => rfl, ?_⟩; go_big_quiet_on)))
        go_big_quiet_want
        go_big_quiet_op
        refine ⟨.int .i64 y, fun w' hw' => ?_, ?_⟩
        · have q := HE.out _ hw'.out.2.2
          simp [go_sem, q]
        go_big_quiet_on
        repeat (first | go_big_quiet_skip | (go_big_quiet_want; go_big_quiet_op; first | go_big_quiet_on | (refine ⟨_, fun _ _ => rfl, ?_⟩; go_big_quiet_on)))
        refine wpQuiet_nil ?_
        intro w3 M3
        clear HD M2
        go_wp2
        go_ret
        exact ⟨by rw [HRR.out]; rfl, M3.out.2.2⟩
    · obtain rfl : k = n := by omega
      have hz := H.out
      rw [HEN.out] at hz
      subst hz
      have hlt1 : ¬ (k : Int) < (k : Int) := by omega
      clear H HST HEN H0 H1
      go_wp2
      go_ret
      exact ⟨rfl, M.out.2.2⟩
end Go.Proofs.Ytlcegpmhlnilfaa

/- spec.l9Turns: an insertion sort with swaps, over a copy. -/
namespace Go.Proofs.Ytlcegpmhlnilfaa
open Go.RowKit

def ltU (x y : Tu) : Bool := decide (cfK (x.a, x.t) (y.a, y.t) < 0)
theorem swoU : Sort.SWO ltU where
  irrefl x := by
    have := cmpL_self (x.a :: x.t)
    exact decide_eq_false (show ¬ cmpL (x.a :: x.t) (x.a :: x.t) < 0 by omega)
  trans x y z h1 h2 := by
    have k1 : cmpL (x.a :: x.t) (y.a :: y.t) < 0 := of_decide_eq_true h1
    have k2 : cmpL (y.a :: y.t) (z.a :: z.t) < 0 := of_decide_eq_true h2
    have := cmpL_trans (x.a :: x.t) (y.a :: y.t) (z.a :: z.t) (by omega) (by omega)
    exact decide_eq_true (show cmpL (x.a :: x.t) (z.a :: z.t) < 0 by omega)
  ntrans x y z h1 h2 := by
    have k1 : ¬ cmpL (x.a :: x.t) (y.a :: y.t) < 0 := of_decide_eq_false h1
    have k2 : ¬ cmpL (y.a :: y.t) (z.a :: z.t) < 0 := of_decide_eq_false h2
    have s1 := cmpL_swap (x.a :: x.t) (y.a :: y.t)
    have s2 := cmpL_swap (y.a :: y.t) (z.a :: z.t)
    have s3 := cmpL_swap (x.a :: x.t) (z.a :: z.t)
    have := cmpL_trans (z.a :: z.t) (y.a :: y.t) (x.a :: x.t) (by omega) (by omega)
    exact decide_eq_false (show ¬ cmpL (x.a :: x.t) (z.a :: z.t) < 0 by omega)
theorem outerU_on {n k : Nat} {D : Array Tu} (h : k < n) : Sort.insOuter ltU 0 n k D = Sort.insOuter ltU 0 n (k + 1) (Sort.insInner ltU 0 k D) := by
  conv => lhs; unfold Sort.insOuter
  rw [if_pos h]
theorem outerU_end {n k : Nat} {D : Array Tu} (h : ¬ k < n) : Sort.insOuter ltU 0 n k D = D := by
  unfold Sort.insOuter
  rw [if_neg h]
theorem innerU_yes {i : Nat} {D : Array Tu} (h : ltU D[i + 1]! D[i]! = true) : Sort.insInner ltU 0 (i + 1) D = Sort.insInner ltU 0 i (Sort.swp D (i + 1) i) := by
  show (if i + 1 > 0 && ltU D[i + 1]! D[i]! then _ else _) = _
  rw [h]; simp
theorem innerU_no {i : Nat} {D : Array Tu} (h : ltU D[i + 1]! D[i]! = false) : Sort.insInner ltU 0 (i + 1) D = D := by
  show (if i + 1 > 0 && ltU D[i + 1]! D[i]! then _ else _) = _
  rw [h]; simp
/-- The same talks, sorted. -/
structure StdU (d d' : List Tu) : Prop where
  perm : d'.Perm d
  asc : d'.Pairwise fun x y => ¬ cfK (y.a, y.t) (x.a, x.t) < 0
theorem insU_is (d : List Tu) : StdU d (Sort.insOuter ltU 0 d.length 1 d.toArray).toList := by
  obtain ⟨⟨h1, _, h3⟩, hs⟩ := Sort.insertionSort_holds swoU d.toArray 0 d.length (Nat.zero_le _) (by simp)
  have e : Sort.insertionSort ltU d.toArray 0 d.length = Sort.insOuter ltU 0 d.length 1 d.toArray := by simp [Sort.insertionSort]
  rw [e] at h1 h3 hs
  generalize Sort.insOuter ltU 0 d.length 1 d.toArray = D at h1 h3 hs
  have hz : D.size = d.length := by simpa using h1
  refine ⟨?_, ?_⟩
  · have e1 : D.extract 0 d.length = D := by rw [← hz]; exact Array.extract_size
    have e2 : d.toArray.extract 0 d.length = d.toArray := by simp
    rw [e1, e2] at h3
    simpa using h3
  · rw [List.pairwise_iff_getElem]
    intro i j hi hj hij
    have hi' : i < D.size := by simpa using hi
    have hj' : j < D.size := by simpa using hj
    have := hs i j (Nat.zero_le _) hij (by omega)
    unfold ltU at this
    rw [getElem!_pos D i hi', getElem!_pos D j hj'] at this
    simpa using this
/-- What a later world keeps of the copy. -/
structure Lu (W : World) (g cap n : Nat) (d : List Tu) (D : Array Tu) (w : World) : Prop where
  own : OutU w W.heap.size (.slice (some ⟨g, 0, none⟩) n cap) D.toList
  below : Below W.heap.size W w
  mem : ∀ x, x ∈ D.toList → x ∈ d
theorem outU_below {w w' : World} {B : Nat} {v : Value} {d : List Tu} (h : OutU w B v d) (hb : Below w.heap.size w w') : OutU w' B v d := row4_heap h fun k hk => hb.block k (h.lt k hk).2
theorem Lu.on {W w w' : World} {g cap n : Nat} {d : List Tu} {D : Array Tu} (h : Hid (Lu W g cap n d D w)) (hb : Below w.heap.size w w') : Hid (Lu W g cap n d D w') := Lib.hid ⟨outU_below h.out.own hb, Below.on h.out.below hb, h.out.mem⟩
/-- The outer list made anew, the talks' lists where they are. -/
theorem OwnU.anew {w w' : World} {lo hi : Nat} {v v' : Value} {d d' : List Tu} (h : OwnU w lo hi v d) (hb : Below w.heap.size w w') (hlo : lo ≤ w.heap.size) (hp : d'.Perm d) (ho : OutU w' w.heap.size v' d') : OwnU w' lo w'.heap.size v' d' := by
  have h2 := h.on hb
  have hl : (lstU d').Perm (lstU d) := hp.flatMap_right _
  have hm : ∀ z, z ∈ lstU d' → z ∈ lstU d := fun z hz => hl.mem_iff.1 hz
  refine ⟨row4_lower ho hlo, fun k hk => (ho.lt k hk).2, fun z hz => h2.rows z (hm z hz), fun z hz k hk => ((h2.rows z (hm z hz)).lt k hk).2, (hl.pairwise_iff fun hxy => Apart.symm hxy).2 h2.apart, fun z hz k h1 h3 => ?_⟩
  have := ((h.rows z (hm z hz)).lt k h1).2
  have := (ho.lt k h3).1
  omega

def StdPost (lo : Nat) (d : List Tu) (w : World) (e : Ending) (w' : World) : Prop := ∃ v' d', e = .returned v' ∧ StdU d d' ∧ OwnU w' lo w'.heap.size v' d' ∧ Below w.heap.size w w'
set_option maxRecDepth 20000 in
set_option maxHeartbeats 6400000 in
theorem stdU_any (lo hi m : Nat) (v : Value) (d : List Tu) (w : World) (h : OwnU w lo hi v d) (f : FewU d) (hlo : lo ≤ w.heap.size) (hm : ∀ x, x ∈ d → x.t.length = m) :
    Calls Try.prog 45 #[v] w (StdPost lo d w) := by
  obtain ⟨i0, hi0, hz0, hz1, hz2⟩ := info_parts infoTurn
  have HR := Lib.hid (insU_is d)
  have hl := f.len
  have HOU := Lib.hid h
  have HLO := Lib.hid hlo
  have hm0 : OutU (w.alloc (.cells #[] 60)) w.heap.size (.slice (some ⟨w.heap.size, 0, none⟩) 0 0) [] := (OwnU.made w).outer
  have hown := h.outer
  have HIN : Hid (∀ x, x ∈ d → ∀ w', Below w.heap.size w w' → Ints w' x.v x.t ∧ x.t.length = m) := Lib.hid fun x hx w' hb => by
    obtain ⟨i, hi', ei⟩ := List.getElem_of_mem hx
    have := (f.el i hi').2
    rw [getElem!_pos d i hi', ei] at this
    have ho : Own w lo x.v x.t := h.rows _ (lstU_mem hx).2
    exact ⟨(Ints.of_own ho (by unfold maxLen; omega)).below hb, hm x hx⟩
  have HONE : Hid (∀ x, x ∈ d → x.u.oneCell' = true ∧ x.v.oneCell' = true) := Lib.hid fun x hx => by
    have one : ∀ {B : Nat} {y : Value} {ys : List Int}, Own w B y ys → y.oneCell' = true := fun {B y ys} h => by
      rcases id h.2 with ⟨rfl, _⟩ | ⟨g, cap, cur, rfl, _⟩ <;> rfl
    exact ⟨one (h.rows _ (lstU_mem hx).1), one (h.rows _ (lstU_mem hx).2)⟩
  have HFM : Hid (∀ x, x ∈ d → ∃ a1 an ac b1 bn bc, x.u = .slice a1 an ac ∧ x.v = .slice b1 bn bc) := Lib.hid fun x hx => by
    obtain ⟨a, c, e1⟩ := Own.form (h.rows _ (lstU_mem hx).1)
    obtain ⟨b, e, e2⟩ := Own.form (h.rows _ (lstU_mem hx).2)
    exact ⟨_, _, _, _, _, _, e1, e2⟩
  clear h f hlo hm
  rcases id hown.2 with ⟨rfl, h0⟩ | ⟨g0, cap0, cur0, rfl, hB0, hg0, hnc0, hcm0, hcs0, htake0⟩
  · obtain rfl : d = [] := List.length_eq_zero_iff.1 h0
    go_enter Try.func45, Try.ntmps45
    go_wp2_with (at_builtin; refine wpList_append_own_none rfl _ _ 34 rfl w.heap.size 60 i0 4 Try.underlying34 hi0 _ _ _ rfl hm0 rfl ?_)
    go_wp2
    go_loopw [4] (fun x wr => x = .int .i64 1 ∧ wr = w.alloc (.cells #[] 60)) (fun _ _ => 0)
    case atStart => exact ⟨rfl, rfl⟩
    case round =>
      obtain ⟨rfl, rfl⟩ := hrel
      go_wp2
      go_ret
      exact ⟨_, [], rfl, ⟨List.Perm.refl _, List.Pairwise.nil⟩, HOU.out.anew (below_grow _ _) HLO.out (List.Perm.refl _) hm0, below_grow _ _⟩
  · have hgl0 : g0 < w.heap.size := (Array.getElem?_eq_some_iff.1 hg0).1
    go_enter Try.func45, Try.ntmps45
    go_wp2_with (at_builtin; refine wpList_append_own _ rfl _ _ 34 rfl w.heap.size 60 i0 (.agg #[.int .i64 0, .slice none 0 0, .int .i64 0, .slice none 0 0]) 4 64 Try.underlying34 hi0 hz0 hz1 hz2 rfl (by decide) _ _ _ rfl hm0 ⟨g0, 0, none⟩ d.length cap0 (d.flatMap encU) rfl (flatU_len d) ?c1 ?c2 ?c3 ?c4 ?c5 ?_)
    case c1 =>
      intro j u hj
      have hb : Below w.heap.size w (w.alloc (.cells #[] 60)) := below_grow _ _
      have hj' : j < d.length * 4 := by rw [← flatU_len d]; exact (List.getElem?_eq_some_iff.1 hj).1
      rw [show (⟨g0, 0, none⟩ : Addr).add j = ⟨g0, j, none⟩ by unfold Addr.add; split <;> simp_all]
      rw [hb.cell (p := ⟨g0, j, none⟩) hgl0, hown.cellAt j hj', hj]
    case c2 =>
      intro u hu
      obtain ⟨x, hx, hxu⟩ := List.mem_flatMap.1 hu
      simp [encU] at hxu
      rcases hxu with rfl | rfl | rfl | rfl
      · rfl
      · exact (HONE.out x hx).1
      · rfl
      · exact (HONE.out x hx).2
    case c3 => simp; unfold maxLen; omega
    case c4 => simp; omega
    case c5 => simp
    · intro v1 w1 hown' hgrow hnil
      have hb1 : Below w.heap.size w w1 := ((below_grow w (.cells #[] 60))).grown hgrow (by simp) (fun j hj => (hm0.lt j hj).1)
      have ho1 : OutU w1 w.heap.size v1 d := by unfold OutU; simpa using hown'
      obtain ⟨g, cap, rfl⟩ : ∃ g cap, v1 = .slice (some ⟨g, 0, none⟩) d.length cap := by
        rcases ho1.2 with ⟨h, _⟩ | ⟨g, cap, cur, h, _⟩
        · exact (hnil h).elim
        · exact ⟨g, cap, h⟩
      obtain ⟨n, hn⟩ : ∃ n, d.length = n := ⟨_, rfl⟩
      rw [hn] at HR ho1 hl
      have M1 : Hid (Lu w g cap n d d.toArray w1) := Lib.hid ⟨by simpa using ho1, hb1, fun x hx => by simpa using hx⟩
      have HN := Lib.hid hn
      obtain ⟨R, hR⟩ : ∃ R, (Sort.insOuter ltU 0 n 1 d.toArray).toList = R := ⟨_, rfl⟩
      have HRR := Lib.hid hR
      rw [hR] at HR
      clear hown' hgrow hnil hb1 ho1 hm0 hown hg0 hgl0 hnc0 hcm0 hcs0 htake0 hB0 HONE hi0 hz0 hz1 hz2 hR
      rw [hn]
      go_wp2
      go_loopw [4] (fun x wr => ∃ k : Nat, x = .int .i64 k ∧ 1 ≤ k ∧ k ≤ n + 1 ∧ ∃ D : Array Tu, D.size = n ∧ (Sort.insOuter ltU 0 n k D).toList = R ∧ Hid (Lu w g cap n d D wr)) (fun x _ => n + 1 - (intOf x).toNat)
      case atStart => exact ⟨1, rfl, by omega, by omega, d.toArray, by simpa using HN.out, HRR.out, M1⟩
      case round =>
        obtain ⟨k, rfl, hk1, hk2, D0, hD0, hres, M⟩ := hrel
        obtain ⟨wo, rfl⟩ : ∃ wo : World, wo = wr := ⟨_, rfl⟩
        clear M1
        by_cases hlt : k < n
        · rw [outerU_on hlt] at hres
          obtain ⟨T, hT⟩ : ∃ T, Sort.insInner ltU 0 k D0 = T := ⟨_, rfl⟩
          rw [hT] at hres
          have HO := Lib.hid hres
          have HDs := Lib.hid hD0
          have HT := Lib.hid hT
          clear hres hD0 hT
          go_wp2
          go_loopw [5] (fun x wr => ∃ j : Nat, x = .int .i64 j ∧ j ≤ k ∧ ∃ D : Array Tu, D.size = n ∧ Sort.insInner ltU 0 j D = T ∧ Hid (Lu w g cap n d D wr)) (fun x _ => (intOf x).toNat)
          case atStart => exact ⟨k, rfl, Nat.le_refl _, D0, HDs.out, HT.out, M⟩
          case round =>
            obtain ⟨j, rfl, hj, D, hD, hins, MM⟩ := hrel
            obtain ⟨wq, rfl⟩ : ∃ wq : World, wq = wr := ⟨_, rfl⟩
            clear M
            have HD : Hid (Lu w g cap n d D wq.drew) := Lu.on MM (Below.refl _ _).drew
            cases j with
            | zero =>
              have hTD : T = D := hins.symm
              subst hTD
              go_wp2_with fail
              refine wp_region_cls (C := fun w' => Hid (Lu w g cap n d T w')) (by kernel_rfl) (by kernel_rfl) HD ?_
              repeat (first | go_big_quiet_skip | (go_big_quiet_want; go_big_quiet_op; first | go_big_quiet_on | (refine ⟨_, fun _ _ => rfl, ?_⟩; go_big_quiet_on)))
              refine wpQuiet_nil ?_
              intro w2 M2
              clear HD MM
              go_wp2
              go_roundw
              case rel => exact ⟨k + 1, by go_num, by omega, by omega, T, hD, HO.out, M2⟩
              case measure => simp [intOf]; omega
            | succ i =>
              obtain ⟨xa, hxa⟩ : ∃ x, D[i + 1]! = x := ⟨_, rfl⟩
              obtain ⟨xb, hxb⟩ : ∃ x, D[i]! = x := ⟨_, rfl⟩
              have hDl : D.toList.length = n := by simpa using hD
              have hin : i + 1 < n := by omega
              have hla : D.toList[i + 1]! = xa := by rw [← hxa, getElem!_pos D.toList (i + 1) (by omega), getElem!_pos D (i + 1) (by omega)]; exact Array.getElem_toList ..
              have hlb : D.toList[i]! = xb := by rw [← hxb, getElem!_pos D.toList i (by omega), getElem!_pos D i (by omega)]; exact Array.getElem_toList ..
              have HMA := Lib.hid (show xa ∈ d from MM.out.mem _ (by rw [← hla, getElem!_pos D.toList (i + 1) (by omega)]; exact List.getElem_mem _))
              have HMB := Lib.hid (show xb ∈ d from MM.out.mem _ (by rw [← hlb, getElem!_pos D.toList i (by omega)]; exact List.getElem_mem _))
              have HMS := Lib.hid (show ∀ x, x ∈ (D.toList.set (i + 1) xb).set i xa → x ∈ d from fun x hx => by
                rcases List.mem_or_eq_of_mem_set hx with hx | rfl
                · rcases List.mem_or_eq_of_mem_set hx with hx | rfl
                  · exact MM.out.mem x hx
                  · exact HMB.out
                · exact HMA.out)
              obtain ⟨a1, an, ac, b1, bn, bc, hau⟩ := HFM.out xa HMA.out
              obtain ⟨c1, cn, cc, d1, dn, dc, hbu⟩ := HFM.out xb HMB.out
              have HAU := Lib.hid hau
              have HBU := Lib.hid hbu
              have HSB := Lib.hid (fun w' (hw : Lu w g cap n d D w') => by
                have h := sbf_any xa xb w' (HIN.out xa HMA.out _ hw.below).1 (HIN.out xb HMB.out _ hw.below).1 (by rw [(HIN.out xa HMA.out _ hw.below).2, (HIN.out xb HMB.out _ hw.below).2])
                simp only [encU, hau.1, hau.2, hbu.1, hbu.2] at h
                exact h)
              clear hau hbu
              have HAT : Hid (∀ w', Lu w g cap n d D w' → (w'.cell? ⟨g, (i + 1) * 4, none⟩ = some (.int .i64 xa.p) ∧ w'.cell? ⟨g, (i + 1) * 4 + 1, none⟩ = some (.slice a1 an ac) ∧ w'.cell? ⟨g, (i + 1) * 4 + 2, none⟩ = some (.int .i64 xa.a) ∧ w'.cell? ⟨g, (i + 1) * 4 + 3, none⟩ = some (.slice b1 bn bc)) ∧
                w'.cell? ⟨g, i * 4, none⟩ = some (.int .i64 xb.p) ∧ w'.cell? ⟨g, i * 4 + 1, none⟩ = some (.slice c1 cn cc) ∧ w'.cell? ⟨g, i * 4 + 2, none⟩ = some (.int .i64 xb.a) ∧ w'.cell? ⟨g, i * 4 + 3, none⟩ = some (.slice d1 dn dc)) := Lib.hid fun w' h => by
                have h1 := outU_at h.own hDl (i := i + 1) hin
                have h2 := outU_at h.own hDl (i := i) (by omega)
                rw [hla, HAU.out.1, HAU.out.2] at h1
                rw [hlb, HBU.out.1, HBU.out.2] at h2
                exact ⟨h1, h2⟩
              have HINS := Lib.hid hins
              have HSZ := Lib.hid hD
              have HXA := Lib.hid hxa
              have HXB := Lib.hid hxb
              clear hla hlb hDl hins hD hxa hxb
              go_wp2_with fail
              refine wp_region_cls (C := fun w' => Hid (Lu w g cap n d D w')) (by kernel_rfl) (by kernel_rfl) HD ?_
              repeat (first | go_big_quiet_skip | (go_big_quiet_want; go_big_quiet_op; first | go_big_quiet_on | (refine ⟨_, fun _ _ => rfl, ?_⟩; go_big_quiet_on)))
              go_big_quiet_want
              go_big_quiet_op
              refine ⟨.agg #[.int .i64 xa.p, .slice a1 an ac, .int .i64 xa.a, .slice b1 bn bc], fun w' hw' => ?_, ?_⟩
              · obtain ⟨⟨q, q1, q2, q3⟩, _⟩ := HAT.out _ hw'.out
                simp [go_sem, q, q1, q2, q3]
              go_big_quiet_on
              repeat (first | go_big_quiet_skip | (go_big_quiet_want; go_big_quiet_op; first | go_big_quiet_on | (refine ⟨_, fun _ _ => rfl, ?_⟩; go_big_quiet_on)))
              go_big_quiet_want
              go_big_quiet_op
              refine ⟨.agg #[.int .i64 xb.p, .slice c1 cn cc, .int .i64 xb.a, .slice d1 dn dc], fun w' hw' => ?_, ?_⟩
              · obtain ⟨_, q, q1, q2, q3⟩ := HAT.out _ hw'.out
                simp [go_sem, q, q1, q2, q3]
              go_big_quiet_on
              repeat (first | go_big_quiet_skip | (go_big_quiet_want; go_big_quiet_op; first | go_big_quiet_on | (refine ⟨_, fun _ _ => rfl, ?_⟩; go_big_quiet_on)))
              go_big_quiet_want
              go_big_quiet_op
              go_big_quiet_call ((intro hw; exact (HSB.out _ hw.out).mono fun _ _ ⟨he, hb⟩ => ⟨he, Lu.on hw hb⟩))
              repeat (first | go_big_quiet_skip | (go_big_quiet_want; go_big_quiet_op; first | go_big_quiet_on | (refine ⟨_, fun _ _ => rfl, ?_⟩; go_big_quiet_on)))
              refine wpQuiet_nil ?_
              intro w2 M2
              clear HD MM
              obtain ⟨bb, hbb⟩ : ∃ bb, decide (cfK (xa.a, xa.t) (xb.a, xb.t) < 0) = bb := ⟨_, rfl⟩
              have HBB := Lib.hid (show ltU xa xb = bb from hbb)
              rw [hbb]
              clear hbb
              cases bb
              · have hTD : T = D := by rw [← HINS.out]; exact innerU_no (by rw [HXA.out, HXB.out]; exact HBB.out)
                subst hTD
                go_wp2
                go_roundw
                case rel => exact ⟨k + 1, by go_num, by omega, by omega, T, HSZ.out, HO.out, M2⟩
                case measure => simp [intOf]; omega
              · have hnx := innerU_yes (D := D) (i := i) (by rw [HXA.out, HXB.out]; exact HBB.out)
                have HNX := Lib.hid hnx
                clear hnx
                have M3 : Hid (Lu w g cap n d D (w2.alloc (.cells #[.int .i64 xa.p, .slice a1 an ac, .int .i64 xa.a, .slice b1 bn bc] 60))) := Lu.on M2 (below_grow _ _)
                have hgl := (M2.out.own.lt g rfl)
                obtain ⟨s0, s1, s2, s3⟩ := (HAT.out _ M2.out).1
                go_upto_region 9 with (fail)
                clear s0 s1 s2 s3
                have XB := Lib.hid (Box.made w2 [.int .i64 xa.p, .slice a1 an ac, .int .i64 xa.a, .slice b1 bn bc] 60)
                have HGN : Hid (w2.heap.size ≠ g ∧ w.heap.size ≤ g) := Lib.hid ⟨by omega, hgl.1⟩
                clear M2 hgl
                rw [show w2.alloc (.cells ([.int .i64 xa.p, .slice a1 an ac, .int .i64 xa.a, .slice b1 bn bc] : List Value).toArray 60) = w2.alloc (.cells #[.int .i64 xa.p, .slice a1 an ac, .int .i64 xa.a, .slice b1 bn bc] 60) from rfl] at XB
                generalize w2.alloc (.cells #[.int .i64 xa.p, .slice a1 an ac, .int .i64 xa.a, .slice b1 bn bc] 60) = w3 at *
                generalize w2.heap.size = N at *
                have FR : Hid (∀ (w' : World) (L : List Tu), OutU w' w.heap.size (.slice (some ⟨g, 0, none⟩) n cap) L → L.length = n → ∀ j, w'.frozen? ⟨g, j, none⟩ = false) := Lib.hid fun w' L h e j => by
                  unfold OutU at h
                  rw [e] at h
                  exact h.frozenAt j
                have HDl : Hid (D.toList.length = n) := Lib.hid (by simpa using HSZ.out)
                obtain ⟨p0, p1, p2, p3⟩ := (HAT.out _ M3.out).2
                have f0 := FR.out _ _ M3.out.own HDl.out ((i + 1) * 4)
                have f1 := FR.out _ _ M3.out.own HDl.out ((i + 1) * 4 + 1)
                have f2 := FR.out _ _ M3.out.own HDl.out ((i + 1) * 4 + 2)
                have f3 := FR.out _ _ M3.out.own HDl.out ((i + 1) * 4 + 3)
                obtain ⟨q0, q1, q2, q3⟩ := (HAT.out _ M3.out).1
                go_upto_region 10 with (fail)
                clear p0 p1 p2 p3 f0 f1 f2 f3 q0 q1 q2 q3
                have XB2 : Hid (Box ((((w3.setCell ⟨g, (i + 1) * 4, none⟩ (.int .i64 xb.p)).setCell ⟨g, (i + 1) * 4 + 1, none⟩ (.slice c1 cn cc)).setCell ⟨g, (i + 1) * 4 + 2, none⟩ (.int .i64 xb.a)).setCell ⟨g, (i + 1) * 4 + 3, none⟩ (.slice d1 dn dc)) N [.int .i64 xa.p, .slice a1 an ac, .int .i64 xa.a, .slice b1 bn bc]) := Lib.hid (((((XB.out).far HGN.out.1 _).far HGN.out.1 _).far HGN.out.1 _).far HGN.out.1 _)
                have M4 : Hid (OutU ((((w3.setCell ⟨g, (i + 1) * 4, none⟩ (.int .i64 xb.p)).setCell ⟨g, (i + 1) * 4 + 1, none⟩ (.slice c1 cn cc)).setCell ⟨g, (i + 1) * 4 + 2, none⟩ (.int .i64 xb.a)).setCell ⟨g, (i + 1) * 4 + 3, none⟩ (.slice d1 dn dc)) w.heap.size (.slice (some ⟨g, 0, none⟩) n cap) (D.toList.set (i + 1) xb) ∧ Below w.heap.size w ((((w3.setCell ⟨g, (i + 1) * 4, none⟩ (.int .i64 xb.p)).setCell ⟨g, (i + 1) * 4 + 1, none⟩ (.slice c1 cn cc)).setCell ⟨g, (i + 1) * 4 + 2, none⟩ (.int .i64 xb.a)).setCell ⟨g, (i + 1) * 4 + 3, none⟩ (.slice d1 dn dc))) :=
                  Lib.hid ⟨by have h := outU_set M3.out.own HDl.out (i := i + 1) (by omega) xb; rw [HBU.out.1, HBU.out.2] at h; exact h, (((M3.out.below.setCell HGN.out.2 _).setCell HGN.out.2 _).setCell HGN.out.2 _).setCell HGN.out.2 _⟩
                generalize ((((w3.setCell ⟨g, (i + 1) * 4, none⟩ (.int .i64 xb.p)).setCell ⟨g, (i + 1) * 4 + 1, none⟩ (.slice c1 cn cc)).setCell ⟨g, (i + 1) * 4 + 2, none⟩ (.int .i64 xb.a)).setCell ⟨g, (i + 1) * 4 + 3, none⟩ (.slice d1 dn dc)) = w4 at *
                clear M3 XB
                have HL4 : Hid ((D.toList.set (i + 1) xb).length = n) := Lib.hid (by rw [List.length_set]; exact HDl.out)
                have x0 := XB2.out.cell 0
                have x1 := XB2.out.cell 1
                have x2 := XB2.out.cell 2
                have x3 := XB2.out.cell 3
                simp at x0 x1 x2 x3
                have f0 := FR.out _ _ M4.out.1 HL4.out (i * 4)
                have f1 := FR.out _ _ M4.out.1 HL4.out (i * 4 + 1)
                have f2 := FR.out _ _ M4.out.1 HL4.out (i * 4 + 2)
                have f3 := FR.out _ _ M4.out.1 HL4.out (i * 4 + 3)
                have HI4 : Hid ((D.toList.set (i + 1) xb)[i]! = xb) := Lib.hid (by
                  have hsz := HDl.out
                  have hb := HXB.out
                  rw [getElem!_pos D i (by have := HSZ.out; omega)] at hb
                  rw [getElem!_pos _ i (by rw [List.length_set]; omega), List.getElem_set_ne (by omega)]
                  exact (Array.getElem_toList ..).trans hb)
                have r := outU_at M4.out.1 HL4.out (i := i) (by omega)
                rw [HI4.out, HBU.out.1, HBU.out.2] at r
                obtain ⟨r0, r1, r2, r3⟩ := r
                have M5 : Hid (OutU ((((w4.setCell ⟨g, i * 4, none⟩ (.int .i64 xa.p)).setCell ⟨g, i * 4 + 1, none⟩ (.slice a1 an ac)).setCell ⟨g, i * 4 + 2, none⟩ (.int .i64 xa.a)).setCell ⟨g, i * 4 + 3, none⟩ (.slice b1 bn bc)) w.heap.size (.slice (some ⟨g, 0, none⟩) n cap) ((D.toList.set (i + 1) xb).set i xa) ∧ Below w.heap.size w ((((w4.setCell ⟨g, i * 4, none⟩ (.int .i64 xa.p)).setCell ⟨g, i * 4 + 1, none⟩ (.slice a1 an ac)).setCell ⟨g, i * 4 + 2, none⟩ (.int .i64 xa.a)).setCell ⟨g, i * 4 + 3, none⟩ (.slice b1 bn bc))) :=
                  Lib.hid ⟨by have h := outU_set M4.out.1 HL4.out (i := i) (by omega) xa; rw [HAU.out.1, HAU.out.2] at h; exact h, (((M4.out.2.setCell HGN.out.2 _).setCell HGN.out.2 _).setCell HGN.out.2 _).setCell HGN.out.2 _⟩
                have HSW : Hid ((Sort.swp D (i + 1) i).toList = (D.toList.set (i + 1) xb).set i xa) := Lib.hid (by
                  unfold Sort.swp
                  rw [HXA.out, HXB.out, Array.toList_setIfInBounds, Array.toList_setIfInBounds])
                have HSZ5 : Hid ((Sort.swp D (i + 1) i).size = n) := Lib.hid (by unfold Sort.swp; simpa using HSZ.out)
                have HI5 := Lib.hid (show Sort.insInner ltU 0 i (Sort.swp D (i + 1) i) = T by rw [← HNX.out]; exact HINS.out)
                go_wp2
                clear x0 x1 x2 x3 f0 f1 f2 f3 r0 r1 r2 r3
                go_roundw
                case rel => exact ⟨i, by go_num, by omega, Sort.swp D (i + 1) i, HSZ5.out, HI5.out, Lib.hid ⟨by rw [HSW.out]; exact M5.out.1, M5.out.2, by rw [HSW.out]; exact HMS.out⟩⟩
                case measure => simp [intOf]
        · rw [outerU_end hlt] at hres
          have hlt1 : ¬ (k : Int) < (n : Int) := by omega
          go_wp2
          go_ret
          exact ⟨_, D0.toList, rfl, by rw [hres]; exact HR.out, HOU.out.anew M.out.below HLO.out (by rw [hres]; exact HR.out.perm) (by have := M.out.own; unfold OutU at this ⊢; rw [show D0.toList.length = n by simpa using hD0] at this ⊢; exact this), M.out.below⟩
end Go.Proofs.Ytlcegpmhlnilfaa
