/- spec.l2Sorted: the loops. -/
import Derived.Test.YtahegppdfcndkaaDoorSrB
import Derived.Test.YtahegppdfcndkaaDoorBRd
namespace Go.Proofs.YtahegppdfcndkaaDoor
open Go.RowKit

def Bx3 (w : World) (N : Nat) (s a t : Int) : Prop := w.heap[N]? = some (.cells #[.int .i64 s, .int .i64 a, .int .i64 t] 37 (0, 0))
theorem Bx3.lt {w : World} {N : Nat} {s a t : Int} (h : Bx3 w N s a t) : N < w.heap.size := (Array.getElem?_eq_some_iff.1 h).1
theorem Bx3.cells {w : World} {N : Nat} {s a t : Int} (h : Bx3 w N s a t) : (w.cell? ⟨N, 0, none⟩ = some (.int .i64 s) ∧ w.cell? ⟨N, 1, none⟩ = some (.int .i64 a) ∧ w.cell? ⟨N, 2, none⟩ = some (.int .i64 t)) ∧ w.frozen? ⟨N, 0, none⟩ = false ∧ w.frozen? ⟨N, 1, none⟩ = false ∧ w.frozen? ⟨N, 2, none⟩ = false := by
  unfold Bx3 at h
  refine ⟨⟨?_, ?_, ?_⟩, ?_, ?_, ?_⟩
  · rw [cell_of_row w N 0 _ _ (0, 0) h]; rfl
  · rw [cell_of_row w N 1 _ _ (0, 0) h]; rfl
  · rw [cell_of_row w N 2 _ _ (0, 0) h]; rfl
  · exact frozen_of_row w N 0 _ _ h
  · exact frozen_of_row w N 1 _ _ h
  · exact frozen_of_row w N 2 _ _ h
theorem Bx3.grown9 {w w' : World} {N R : Nat} {s a t : Int} (h : Bx3 w N s a t) (hg : w.grownBy w' (some R)) (hne : N ≠ R) : Bx3 w' N s a t := (hg.block N (Bx3.lt h) (by simpa using hne)).trans h
theorem Bx3.new (w : World) (s a t : Int) : Bx3 (w.alloc (.cells #[.int .i64 s, .int .i64 a, .int .i64 t] 37)) w.heap.size s a t := heap_alloc_new w _
theorem Bx3.alloc {w : World} {N : Nat} {s a t : Int} (h : Bx3 w N s a t) (o : Obj) : Bx3 (w.alloc o) N s a t := (Below.heap_alloc w o N (Bx3.lt h)).trans h
theorem Bx3.far {w : World} {N M o : Nat} {s a t : Int} (h : Bx3 w N s a t) (hne : N ≠ M) (x : Value) : Bx3 (w.setCell ⟨M, o, none⟩ x) N s a t := (Below.heap_setCell w ⟨M, o, none⟩ x N hne).trans h
abbrev ltc : Int × Int → Int × Int → Bool := ltOf cfP
theorem outer_on {n k : Nat} {D : Array (Int × Int)} (h : k < n) : Sort.insOuter ltc 0 n k D = Sort.insOuter ltc 0 n (k + 1) (Sort.insInner ltc 0 k D) := by
  conv => lhs; unfold Sort.insOuter
  rw [if_pos h]
theorem outer_end {n k : Nat} {D : Array (Int × Int)} (h : ¬ k < n) : Sort.insOuter ltc 0 n k D = D := by
  unfold Sort.insOuter
  rw [if_neg h]
theorem inner_yes {i : Nat} {D : Array (Int × Int)} (h : ltP D[i + 1]! D[i]! = true) : Sort.insInner ltc 0 (i + 1) D = Sort.insInner ltc 0 i (Sort.swp D (i + 1) i) := by
  show (if i + 1 > 0 && ltc D[i + 1]! D[i]! then _ else _) = _
  rw [show ltc D[i + 1]! D[i]! = true from (ltOf_cf _ _).trans h]
  simp
theorem inner_no {i : Nat} {D : Array (Int × Int)} (h : ltP D[i + 1]! D[i]! = false) : Sort.insInner ltc 0 (i + 1) D = D := by
  show (if i + 1 > 0 && ltc D[i + 1]! D[i]! then _ else _) = _
  rw [show ltc D[i + 1]! D[i]! = false from (ltOf_cf _ _).trans h]
  simp
theorem ins_is (d : List (Int × Int)) : (Sort.insOuter ltc 0 d.length 1 d.toArray).toList = sortP d := by
  have h := Sort.insertionSort_holds swoP d.toArray 0 d.length (Nat.zero_le _) (by simp)
  have := sorted_is d.toArray (Sort.insertionSort ltc d.toArray 0 d.length) (by simpa using h.1) (by simpa using h.2)
  simpa [Sort.insertionSort] using this
/-- What a later world keeps of the list. -/
structure Lw9 (W : World) (g cap n : Nat) (ask : Int → Int) (D : Array (Int × Int)) (w : World) : Prop where
  own : OwnT w W.heap.size (.slice (some ⟨g, 0, none⟩) n cap) ask D.toList
  below : Below W.heap.size W w
theorem Lw9.on {W w w' : World} {g cap n : Nat} {ask : Int → Int} {D : Array (Int × Int)} (h : Hid (Lw9 W g cap n ask D w)) (hb : Below w.heap.size w w') : Hid (Lw9 W g cap n ask D w') := Lib.hid ⟨ownT_below h.out.own hb, h.out.below.trans (hb.mono h.out.below.size)⟩

set_option maxRecDepth 20000 in
set_option maxHeartbeats 3200000 in
theorem sorted_any : SortS := by
  intro w B v ask d hl hown
  obtain ⟨i0, hi, hz0, hz1, hz2⟩ := info_parts infoTalk
  have HR := Lib.hid (ins_is d)
  have hm0 := ownT_made w 37 rfl ask
  rcases id hown.2 with ⟨rfl, h0⟩ | ⟨g0, cap0, cur0, rfl, hB0, hg0, hnc0, hcm0, hcs0, htake0⟩
  · obtain rfl : d = [] := List.length_eq_zero_iff.1 h0
    go_enter Tryd.func32, Tryd.ntmps32
    go_wp2_with (at_builtin; refine wpList_append_own_none rfl _ _ 26 rfl w.heap.size 37 i0 3 Tryd.underlying26 hi _ _ _ rfl hm0 rfl ?_)
    go_wp2
    go_loopw [4] (fun x wr => x = .int .i64 1 ∧ wr = w.alloc (.cells #[] 37)) (fun _ _ => 0)
    case atStart => exact ⟨rfl, rfl⟩
    case round =>
      obtain ⟨rfl, rfl⟩ := hrel
      go_wp2
      go_ret
      exact ⟨_, rfl, by rw [sortP_nil]; exact hm0, below_alloc _ _⟩
  · have hgl0 : g0 < w.heap.size := (Array.getElem?_eq_some_iff.1 hg0).1
    go_enter Tryd.func32, Tryd.ntmps32
    go_wp2_with (at_builtin; refine wpList_append_own _ rfl _ _ 26 rfl w.heap.size 37 i0 (.agg #[.int .i64 0, .int .i64 0, .int .i64 0]) 3 24 Tryd.underlying26 hi hz0 hz1 hz2 rfl (by decide) _ _ _ rfl hm0 ⟨g0, 0, none⟩ d.length cap0 (d.flatMap (encT ask)) rfl (flat_len ask d) ?c1 ?c2 ?c3 ?c4 ?c5 ?_)
    case c1 =>
      intro j u hj
      have hb : Below w.heap.size w (w.alloc (.cells #[] 37)) := below_alloc _ _
      have hj' : j < d.length * 3 := by rw [← flat_len ask d]; exact (List.getElem?_eq_some_iff.1 hj).1
      rw [show (⟨g0, 0, none⟩ : Addr).add j = ⟨g0, j, none⟩ by unfold Addr.add; split <;> simp_all]
      rw [hb.cell (p := ⟨g0, j, none⟩) hgl0, hown.cellAt j hj', hj]
    case c2 =>
      intro u hu
      obtain ⟨x, _, hx⟩ := List.mem_flatMap.1 hu
      simp [encT] at hx
      rcases hx with rfl | rfl | rfl <;> rfl
    case c3 => simp; unfold maxLen; omega
    case c4 => simp; omega
    case c5 => simp
    · intro v1 w1 hown' hgrow hnil
      have hb1 : Below w.heap.size w w1 := ((below_alloc w (.cells #[] 37))).grown hgrow (by simp) (fun j hj => (hm0.lt j hj).1)
      have ho1 : OwnT w1 w.heap.size v1 ask d := by unfold OwnT; simpa using hown'
      obtain ⟨g, cap, rfl⟩ : ∃ g cap, v1 = .slice (some ⟨g, 0, none⟩) d.length cap := by
        rcases ho1.2 with ⟨h, _⟩ | ⟨g, cap, cur, h, _⟩
        · exact (hnil h).elim
        · exact ⟨g, cap, h⟩
      obtain ⟨n, hn⟩ : ∃ n, d.length = n := ⟨_, rfl⟩
      rw [hn] at HR ho1
      have M1 : Hid (Lw9 w g cap n ask d.toArray w1) := Lib.hid ⟨by simpa using ho1, hb1⟩
      have HN := Lib.hid hn
      clear hown' hgrow hnil hb1 ho1 hm0 hown hg0 hgl0 hnc0 hcm0 hcs0 htake0 hB0
      rw [hn]
      go_wp2
      go_loopw [4] (fun x wr => ∃ k : Nat, x = .int .i64 k ∧ 1 ≤ k ∧ k ≤ n + 1 ∧ ∃ D : Array (Int × Int), D.size = n ∧ (Sort.insOuter ltc 0 n k D).toList = sortP d ∧ Hid (Lw9 w g cap n ask D wr)) (fun x _ => n + 1 - (intOf x).toNat)
      case atStart => exact ⟨1, rfl, by omega, by omega, d.toArray, by simpa using HN.out, HR.out, M1⟩
      case round =>
        obtain ⟨k, rfl, hk1, hk2, D0, hD0, hres, M⟩ := hrel
        obtain ⟨wo, rfl⟩ : ∃ wo : World, wo = wr := ⟨_, rfl⟩
        by_cases hlt : k < n
        · rw [outer_on hlt] at hres
          obtain ⟨T, hT⟩ : ∃ T, Sort.insInner ltc 0 k D0 = T := ⟨_, rfl⟩
          rw [hT] at hres
          have HO := Lib.hid hres
          have HDs := Lib.hid hD0
          have HT := Lib.hid hT
          clear hres hD0 hT
          go_wp2
          go_loopw [5] (fun x wr => ∃ j : Nat, x = .int .i64 j ∧ j ≤ k ∧ ∃ D : Array (Int × Int), D.size = n ∧ Sort.insInner ltc 0 j D = T ∧ Hid (Lw9 w g cap n ask D wr)) (fun x _ => (intOf x).toNat)
          case atStart => exact ⟨k, rfl, Nat.le_refl _, D0, HDs.out, HT.out, M⟩
          case round =>
            obtain ⟨j, rfl, hj, D, hD, hins, MM⟩ := hrel
            obtain ⟨wq, rfl⟩ : ∃ wq : World, wq = wr := ⟨_, rfl⟩
            have HD : Hid (Lw9 w g cap n ask D wq.drew) := Lw9.on MM (Below.refl _ _).drew
            cases j with
            | zero =>
              have hTD : T = D := hins.symm
              subst hTD
              go_wp2_with fail
              refine wp_region_class (C := fun w' => Hid (Lw9 w g cap n ask T w')) (by kernel_rfl) (by kernel_rfl) HD ?_
              repeat (first | go_big_quiet_skip | (go_big_quiet_want; go_big_quiet_op; first | go_big_quiet_on | (refine ⟨_, fun _ _ => rfl, ?_⟩; go_big_quiet_on)))
              refine wpQuiet_nil ?_
              intro w2 M2
              clear HD MM
              go_wp2
              go_roundw
              case rel => exact ⟨k + 1, by go_num, by omega, by omega, T, hD, HO.out, M2⟩
              case measure => simp [intOf]; omega
            | succ i =>
              obtain ⟨xa, hxa⟩ : ∃ x, D[i + 1]! = x := ⟨_, rfl⟩
              obtain ⟨xb, hxb⟩ : ∃ x, D[i]! = x := ⟨_, rfl⟩
              have hDl : D.toList.length = n := by simpa using hD
              have hin : i + 1 < n := by omega
              have hla : D.toList[i + 1]! = xa := by rw [← hxa, getElem!_pos D.toList (i + 1) (by omega), getElem!_pos D (i + 1) (by omega)]; exact Array.getElem_toList ..
              have hlb : D.toList[i]! = xb := by rw [← hxb, getElem!_pos D.toList i (by omega), getElem!_pos D i (by omega)]; exact Array.getElem_toList ..
              have HAT : Hid (∀ w', Lw9 w g cap n ask D w' → (w'.cell? ⟨g, (i + 1) * 3, none⟩ = some (.int .i64 xa.1) ∧ w'.cell? ⟨g, (i + 1) * 3 + 1, none⟩ = some (.int .i64 (ask xa.1)) ∧ w'.cell? ⟨g, (i + 1) * 3 + 2, none⟩ = some (.int .i64 xa.2)) ∧
                w'.cell? ⟨g, i * 3, none⟩ = some (.int .i64 xb.1) ∧ w'.cell? ⟨g, i * 3 + 1, none⟩ = some (.int .i64 (ask xb.1)) ∧ w'.cell? ⟨g, i * 3 + 2, none⟩ = some (.int .i64 xb.2)) := Lib.hid fun w' h => by
                have h1 := ownT_at h.own hDl (i := i + 1) hin
                have h2 := ownT_at h.own hDl (i := i) (by omega)
                rw [hla] at h1
                rw [hlb] at h2
                exact ⟨h1, h2⟩
              have HINS := Lib.hid hins
              have HSZ := Lib.hid hD
              have HXA := Lib.hid hxa
              have HXB := Lib.hid hxb
              clear hla hlb hDl hins hD hxa hxb
              go_wp2_with fail
              refine wp_region_class (C := fun w' => Hid (Lw9 w g cap n ask D w')) (by kernel_rfl) (by kernel_rfl) HD ?_
              repeat (first | go_big_quiet_skip | (go_big_quiet_want; go_big_quiet_op; first | go_big_quiet_on | (refine ⟨_, fun _ _ => rfl, ?_⟩; go_big_quiet_on)))
              go_big_quiet_want
              go_big_quiet_op
              refine ⟨.agg #[.int .i64 xa.1, .int .i64 (ask xa.1), .int .i64 xa.2], fun w' hw' => ?_, ?_⟩
              · obtain ⟨⟨q, q1, q2⟩, _⟩ := HAT.out _ hw'.out
                simp [go_sem, q, q1, q2]
              go_big_quiet_on
              repeat (first | go_big_quiet_skip | (go_big_quiet_want; go_big_quiet_op; first | go_big_quiet_on | (refine ⟨_, fun _ _ => rfl, ?_⟩; go_big_quiet_on)))
              go_big_quiet_want
              go_big_quiet_op
              refine ⟨.agg #[.int .i64 xb.1, .int .i64 (ask xb.1), .int .i64 xb.2], fun w' hw' => ?_, ?_⟩
              · obtain ⟨_, q, q1, q2⟩ := HAT.out _ hw'.out
                simp [go_sem, q, q1, q2]
              go_big_quiet_on
              repeat (first | go_big_quiet_skip | (go_big_quiet_want; go_big_quiet_op; first | go_big_quiet_on | (refine ⟨_, fun _ _ => rfl, ?_⟩; go_big_quiet_on)))
              go_big_quiet_want
              go_big_quiet_op
              go_big_quiet_call ((intro hw; exact (sless_any xa xb ask _).mono fun _ _ ⟨he, hb⟩ => ⟨he, Lw9.on hw hb⟩))
              repeat (first | go_big_quiet_skip | (go_big_quiet_want; go_big_quiet_op; first | go_big_quiet_on | (refine ⟨_, fun _ _ => rfl, ?_⟩; go_big_quiet_on)))
              refine wpQuiet_nil ?_
              intro w2 M2
              clear HD MM
              cases hlt2 : ltP xa xb
              · have hTD : T = D := by rw [← HINS.out]; exact inner_no (by rw [HXA.out, HXB.out]; exact hlt2)
                subst hTD
                go_wp2
                go_roundw
                case rel => exact ⟨k + 1, by go_num, by omega, by omega, T, HSZ.out, HO.out, M2⟩
                case measure => simp [intOf]; omega
              · have hnx := inner_yes (D := D) (i := i) (by rw [HXA.out, HXB.out]; exact hlt2)
                have HNX := Lib.hid hnx
                clear hnx
                have M3 : Hid (Lw9 w g cap n ask D (w2.alloc (.cells #[.int .i64 xa.1, .int .i64 (ask xa.1), .int .i64 xa.2] 37))) := Lw9.on M2 (below_alloc _ _)
                have hgl := (M2.out.own.lt g rfl)
                obtain ⟨s0, s1, s2⟩ := (HAT.out _ M2.out).1
                go_upto_region 9 with (fail)
                clear s0 s1 s2
                have XB := Lib.hid (Bx3.new w2 xa.1 (ask xa.1) xa.2)
                have HGN : Hid (w2.heap.size ≠ g ∧ w.heap.size ≤ g) := Lib.hid ⟨by omega, hgl.1⟩
                clear M2 hgl
                generalize w2.alloc (.cells #[.int .i64 xa.1, .int .i64 (ask xa.1), .int .i64 xa.2] 37) = w3 at *
                generalize w2.heap.size = N at *
                have FR : Hid (∀ (w' : World) (L : List (Int × Int)), OwnT w' w.heap.size (.slice (some ⟨g, 0, none⟩) n cap) ask L → L.length = n → ∀ j, w'.frozen? ⟨g, j, none⟩ = false) := Lib.hid fun w' L h e j => by
                  unfold OwnT at h
                  rw [e] at h
                  exact h.frozenAt j
                have HDl : Hid (D.toList.length = n) := Lib.hid (by simpa using HSZ.out)
                obtain ⟨p0, p1, p2⟩ := (HAT.out _ M3.out).2
                have f0 := FR.out _ _ M3.out.own HDl.out ((i + 1) * 3)
                have f1 := FR.out _ _ M3.out.own HDl.out ((i + 1) * 3 + 1)
                have f2 := FR.out _ _ M3.out.own HDl.out ((i + 1) * 3 + 2)
                obtain ⟨q0, q1, q2⟩ := (HAT.out _ M3.out).1
                go_upto_region 10 with (fail)
                clear p0 p1 p2 f0 f1 f2 q0 q1 q2
                have XB2 : Hid (Bx3 (((w3.setCell ⟨g, (i + 1) * 3, none⟩ (.int .i64 xb.1)).setCell ⟨g, (i + 1) * 3 + 1, none⟩ (.int .i64 (ask xb.1))).setCell ⟨g, (i + 1) * 3 + 2, none⟩ (.int .i64 xb.2)) N xa.1 (ask xa.1) xa.2) := Lib.hid ((((XB.out).far HGN.out.1 _).far HGN.out.1 _).far HGN.out.1 _)
                have M4 : Hid (OwnT (((w3.setCell ⟨g, (i + 1) * 3, none⟩ (.int .i64 xb.1)).setCell ⟨g, (i + 1) * 3 + 1, none⟩ (.int .i64 (ask xb.1))).setCell ⟨g, (i + 1) * 3 + 2, none⟩ (.int .i64 xb.2)) w.heap.size (.slice (some ⟨g, 0, none⟩) n cap) ask (D.toList.set (i + 1) xb) ∧ Below w.heap.size w (((w3.setCell ⟨g, (i + 1) * 3, none⟩ (.int .i64 xb.1)).setCell ⟨g, (i + 1) * 3 + 1, none⟩ (.int .i64 (ask xb.1))).setCell ⟨g, (i + 1) * 3 + 2, none⟩ (.int .i64 xb.2))) :=
                  Lib.hid ⟨ownT_set M3.out.own HDl.out (i := i + 1) (by omega) xb, ((M3.out.below.setCell HGN.out.2 _).setCell HGN.out.2 _).setCell HGN.out.2 _⟩
                generalize ((w3.setCell ⟨g, (i + 1) * 3, none⟩ (.int .i64 xb.1)).setCell ⟨g, (i + 1) * 3 + 1, none⟩ (.int .i64 (ask xb.1))).setCell ⟨g, (i + 1) * 3 + 2, none⟩ (.int .i64 xb.2) = w4 at *
                clear M3 XB
                have HL4 : Hid ((D.toList.set (i + 1) xb).length = n) := Lib.hid (by rw [List.length_set]; exact HDl.out)
                obtain ⟨x0, x1, x2⟩ := (Bx3.cells XB2.out).1
                have f0 := FR.out _ _ M4.out.1 HL4.out (i * 3)
                have f1 := FR.out _ _ M4.out.1 HL4.out (i * 3 + 1)
                have f2 := FR.out _ _ M4.out.1 HL4.out (i * 3 + 2)
                have HI4 : Hid ((D.toList.set (i + 1) xb)[i]! = xb) := Lib.hid (by
                  have hsz := HDl.out
                  have hb := HXB.out
                  rw [getElem!_pos D i (by have := HSZ.out; omega)] at hb
                  rw [getElem!_pos _ i (by rw [List.length_set]; omega), List.getElem_set_ne (by omega)]
                  exact (Array.getElem_toList ..).trans hb)
                have r := ownT_at M4.out.1 HL4.out (i := i) (by omega)
                rw [HI4.out] at r
                obtain ⟨r0, r1, r2⟩ := r
                have M5 : Hid (OwnT (((w4.setCell ⟨g, i * 3, none⟩ (.int .i64 xa.1)).setCell ⟨g, i * 3 + 1, none⟩ (.int .i64 (ask xa.1))).setCell ⟨g, i * 3 + 2, none⟩ (.int .i64 xa.2)) w.heap.size (.slice (some ⟨g, 0, none⟩) n cap) ask ((D.toList.set (i + 1) xb).set i xa) ∧ Below w.heap.size w (((w4.setCell ⟨g, i * 3, none⟩ (.int .i64 xa.1)).setCell ⟨g, i * 3 + 1, none⟩ (.int .i64 (ask xa.1))).setCell ⟨g, i * 3 + 2, none⟩ (.int .i64 xa.2))) :=
                  Lib.hid ⟨ownT_set M4.out.1 HL4.out (i := i) (by omega) xa, ((M4.out.2.setCell HGN.out.2 _).setCell HGN.out.2 _).setCell HGN.out.2 _⟩
                have HSW : Hid ((Sort.swp D (i + 1) i).toList = (D.toList.set (i + 1) xb).set i xa) := Lib.hid (by
                  unfold Sort.swp
                  rw [HXA.out, HXB.out, Array.toList_setIfInBounds, Array.toList_setIfInBounds])
                have HSZ5 : Hid ((Sort.swp D (i + 1) i).size = n) := Lib.hid (by unfold Sort.swp; simpa using HSZ.out)
                have HI5 := Lib.hid (show Sort.insInner ltc 0 i (Sort.swp D (i + 1) i) = T by rw [← HNX.out]; exact HINS.out)
                go_wp2
                clear x0 x1 x2 f0 f1 f2 r0 r1 r2
                go_roundw
                case rel => exact ⟨i, by go_num, by omega, Sort.swp D (i + 1) i, HSZ5.out, HI5.out, Lib.hid ⟨by rw [HSW.out]; exact M5.out.1, M5.out.2⟩⟩
                case measure => simp [intOf]
        · rw [outer_end hlt] at hres
          go_wp2
          go_ret
          exact ⟨_, rfl, by rw [← hres]; exact M.out.own, M.out.below⟩
end Go.Proofs.YtahegppdfcndkaaDoor
