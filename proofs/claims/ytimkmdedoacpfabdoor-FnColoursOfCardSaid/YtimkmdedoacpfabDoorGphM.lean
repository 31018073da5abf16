/- spec: l7Moved, GraphMoved. -/
import Derived.Test.YtimkmdedoacpfabDoorGphT
namespace Go.Proofs.YtimkmdedoacpfabDoor
open Go.RowKit

theorem movTo_few {o es : List Int} {p : Int} (ho : Od o p) (hg : Gk p es) : ∀ n : Nat, (movTo o es n).length ≤ n
  | 0 => Nat.le_refl _
  | n + 1 => by
    rw [movTo, List.length_append]
    have := movTo_few ho hg n
    have := movIn_few (c := n) ho hg (Nat.le_refl _)
    omega
/-- A box that came in, the answer's box, a graph under way: its box, its edges in a list of the call's own. -/
structure Mo (w : World) (P R : List Value) (p : Int) (ev : Value) (xs : List Int) (wr : World) : Prop where
  bp : Box wr w.heap.size P
  br : Box wr (w.heap.size + 1) R
  bo : Box wr (w.heap.size + 1 + 1) [.int .i64 p, ev]
  ow : Own wr (w.heap.size + 3) ev xs
  be : Below w.heap.size w wr
theorem Box.grownK {w w' : World} {N : Nat} {r : Option Nat} {cs : List Value} (h : Box w N cs) (hg : w.grownBy w' r) (hr : ∀ b, r = some b → b ≠ N) : Box w' N cs := by
  have hl := h.lt
  obtain ⟨T, h⟩ := h
  exact ⟨T, by rw [hg.block N hl (fun e => hr N e.symm rfl)]; exact h⟩
theorem Mo.app {w wr w2 : World} {P R : List Value} {p : Int} {ev v2 : Value} {xs ys : List Int} (h : Mo w P R p ev xs wr) (ho : Own w2 (w.heap.size + 3) v2 ys) (hg : wr.grownBy w2 ev.ownBlock) :
    Box w2 (w.heap.size + 1 + 1) [.int .i64 p, ev] ∧ Mo w P R p v2 ys (w2.setCell ⟨w.heap.size + 1 + 1, 1, none⟩ v2) := by
  have hlo : ∀ b, ev.ownBlock = some b → w.heap.size + 3 ≤ b := fun b hb => (h.ow.lt b hb).1
  have hsz := h.bo.lt
  have b0 := h.bp.grownK hg (fun b hb => by have := hlo b hb; omega)
  have b1 := h.br.grownK hg (fun b hb => by have := hlo b hb; omega)
  have b2 := h.bo.grownK hg (fun b hb => by have := hlo b hb; omega)
  refine ⟨b2, b0.far (by omega) _, b1.far (by omega) _, by simpa using b2.set 1 v2, ?_, ((h.be.grown hg (by omega) (fun b hb => by have := hlo b hb; omega)).setCell (by show w.heap.size ≤ w.heap.size + 1 + 1; omega) _)⟩
  exact own_heap ho fun b hb => Below.heap_setCell _ _ _ _ (by have := (ho.lt b hb).1; show b ≠ w.heap.size + 1 + 1; omega)
theorem below_set2 {w w1 : World} {N : Nat} {x y : Value} (h : Below w.heap.size w w1) (hN : w.heap.size ≤ N) : Below w.heap.size w ((w1.setCell ⟨N, 0, none⟩ x).setCell ⟨N, 1, none⟩ y) := (h.setCell hN _).setCell hN _
theorem own_set2 {w1 : World} {N B B' : Nat} {v x y : Value} {xs : List Int} (h : Own w1 B v xs) (n1 : N < B) (hB : B' ≤ B) : Own ((w1.setCell ⟨N, 0, none⟩ x).setCell ⟨N, 1, none⟩ y) B' v xs :=
  own_mono (own_heap h fun b hb => (Below.heap_setCell _ _ _ _ (by have := (h.lt b hb).1; show b ≠ N; omega)).trans (Below.heap_setCell _ _ _ _ (by have := (h.lt b hb).1; show b ≠ N; omega))) hB
theorem cde_parts {o : List Int} {p e : Int} (ho : Od o p) (he : Ed p e) : ∃ (qa qb : Nat) (x y : Int), e.tdiv 10 = (qa : Int) ∧ e.tmod 10 = (qb : Int) ∧ qa < o.length ∧ qb < o.length ∧ nth o qa = x ∧ nth o qb = y ∧ 0 ≤ x ∧ x ≤ 4 ∧ 0 ≤ y ∧ y ≤ 4 ∧ x ≠ y ∧ cde o e = 10 * min x y + max x y := by
  have h5 := ho.m5
  have hl := ho.len
  have ea := he.a0
  have eb := he.ab
  have ep := he.bp
  have ha := ho.at_ (x := e.tdiv 10) (by omega) (by omega)
  have hb := ho.at_ (x := e.tmod 10) (by omega) (by omega)
  have hne : app o (e.tdiv 10) ≠ app o (e.tmod 10) := fun h => by have := ho.at_inj (by omega) (by omega) (by omega) (by omega) h; omega
  exact ⟨(e.tdiv 10).toNat, (e.tmod 10).toNat, app o (e.tdiv 10), app o (e.tmod 10), by omega, by omega, by omega, by omega, rfl, rfl, by omega, by omega, by omega, by omega, hne, rfl⟩

set_option maxRecDepth 20000 in
set_option maxHeartbeats 3200000 in
theorem smov_any (p : Int) (ev ov : Value) (es o : List Int) (w : World) (h : Ints w ev es) (h' : Ints w ov o) (hg : Gk p es) (ho : Od o p) : Calls Tryd.prog 84 #[.agg #[.int .i64 p, ev], ov] w fun e w' => ∃ v, e = .returned (.agg #[.int .i64 p, v]) ∧ Own w' w.heap.size v (mov o es) ∧ Below w.heap.size w w' := by
  obtain ⟨ea, ec, rfl, k1⟩ := h.opened
  obtain ⟨oa, oc, rfl, k2⟩ := h'.opened
  have hm1 := hg.few
  have hm2 := ho.len
  have hm5 := ho.m5
  have HC := Lib.hid (show ∀ j, j < es.length → ∃ G H qa qb x y, ea = some ⟨G, 0, none⟩ ∧ (∀ w', Below w.heap.size w w' → w'.cell? ⟨G, j, none⟩ = some (.int .i64 (nth es j))) ∧ (nth es j).tdiv 10 = ((qa : Nat) : Int) ∧ (nth es j).tmod 10 = ((qb : Nat) : Int) ∧ qa < o.length ∧ qb < o.length ∧ oa = some ⟨H, 0, none⟩ ∧
      (∀ w', Below w.heap.size w w' → w'.cell? ⟨H, qa, none⟩ = some (.int .i64 x)) ∧ (∀ w', Below w.heap.size w w' → w'.cell? ⟨H, qb, none⟩ = some (.int .i64 y)) ∧ 0 ≤ x ∧ x ≤ 4 ∧ 0 ≤ y ∧ y ≤ 4 ∧ x ≠ y ∧ cde o (nth es j) = 10 * min x y + max x y ∧ 0 ≤ nth es j ∧ nth es j ≤ 50 from fun j hj => by
    obtain ⟨G, e1, hl, e2⟩ := k1.get j hj
    have hed := hg.ed j hj
    obtain ⟨qa, qb, x, y, f1, f2, f3, f4, f5, f6, f7, f8, f9, f10, f11, f12⟩ := cde_parts ho hed
    obtain ⟨H, e3, hl3, e4⟩ := k2.get qa f3
    obtain ⟨H', e5, hl5, e6⟩ := k2.get qb f4
    obtain rfl : H = H' := by rw [e3] at e5; cases e5; rfl
    refine ⟨G, H, qa, qb, x, y, e1, fun w' hb => (hb.cell (p := ⟨G, j, none⟩) hl).trans e2, f1, f2, f3, f4, e3, fun w' hb => ?_, fun w' hb => ?_, f7, f8, f9, f10, f11, f12, ?_, ?_⟩
    · rw [← f5]; exact (hb.cell (p := ⟨H, qa, none⟩) hl3).trans e4
    · rw [← f6]; exact (hb.cell (p := ⟨H, qb, none⟩) hl5).trans e6
    · have := hed.pos; omega
    · have := hed.lt hg.p5; omega)
  obtain ⟨MT, hMT⟩ : ∃ MT : Nat → List Int, MT = movTo o es := ⟨_, rfl⟩
  obtain ⟨MI, hMI⟩ : ∃ MI : Nat → Nat → List Int, MI = fun c j => movTo o es c ++ movIn o es c j := ⟨_, rfl⟩
  obtain ⟨n, hn⟩ : ∃ n, es.length = n := ⟨_, rfl⟩
  obtain ⟨m, hm⟩ : ∃ m, o.length = m := ⟨_, rfl⟩
  have HX := Lib.hid (show mov o es = MT 100 from by rw [hMT]; rfl)
  have HT0 := Lib.hid (show MT 0 = [] from by rw [hMT]; rfl)
  have HI0 := Lib.hid (show ∀ c, MI c 0 = MT c from fun c => by rw [hMI, hMT]; exact List.append_nil _)
  have HIy := Lib.hid (show ∀ c j, cde o (nth es j) = ((c : Nat) : Int) → MI c (j + 1) = MI c j ++ [(c : Int)] from fun c j e => by
    rw [hMI]; show movTo o es c ++ (movIn o es c j ++ if cde o (nth es j) = c then [(c : Int)] else []) = _; rw [if_pos e, List.append_assoc])
  have HIn := Lib.hid (show ∀ c j, cde o (nth es j) ≠ ((c : Nat) : Int) → MI c (j + 1) = MI c j from fun c j e => by
    rw [hMI]; show movTo o es c ++ (movIn o es c j ++ if cde o (nth es j) = c then [(c : Int)] else []) = _; rw [if_neg e, List.append_nil])
  have HIm := Lib.hid (show ∀ c, MI c n = MT (c + 1) from fun c => by rw [hMI, hMT, ← hn]; rfl)
  have HL := Lib.hid (show ∀ c j, c < 100 → j < n → (MI c j).length < 1000 from fun c j hc hj => by
    rw [hMI]
    show (movTo o es c ++ movIn o es c j).length < 1000
    rw [List.length_append]
    have := movTo_few ho hg c
    have := movIn_few (c := c) (k := j) ho hg (by omega)
    omega)
  rw [hn] at HC hm1 ⊢
  rw [hm] at HC hm2 ⊢
  have hm6 : m ≤ 5 := by omega
  obtain ⟨p0, p1, p2, pl⟩ := boxes3 (P := [.int .i64 p, .slice ea n ec]) (R := [.int .i64 0, .slice none 0 0]) (O := [.int .i64 p, .slice none 0 0]) (Below.refl (((w.alloc (.cells #[.int .i64 p, .slice ea n ec] 25)).alloc (.cells #[.int .i64 0, .slice none 0 0] 25)).alloc (.cells #[.int .i64 p, .slice none 0 0] 25)).heap.size _)
  have M0 := Lib.hid (show Mo w [.int .i64 p, .slice ea n ec] [.int .i64 0, .slice none 0 0] p (.slice none 0 0) [] _ from ⟨p0, p1, p2, World.ownsRow_nil _ _ _ _, pl⟩)
  clear h h' k1 k2 hg ho hn hm hMT hMI p0 p1 p2 pl hm2 hm5
  go_enter Tryd.func84, Tryd.ntmps84
  go_wp2
  go_loopw [6] (fun i wr => ∃ c : Nat, c ≤ 100 ∧ i = .int .i64 c ∧ Hid (∃ xv, Mo w [.int .i64 p, .slice ea n ec] [.int .i64 0, .slice none 0 0] p xv (MT c) wr)) (fun i _ => 100 - (intOf i).toNat)
  case atStart => exact ⟨0, by omega, rfl, Lib.hid ⟨_, by rw [HT0.out]; exact M0.out⟩⟩
  case round =>
    obtain ⟨c, hc, rfl, hM⟩ := hrel
    obtain ⟨wo, rfl⟩ : ∃ wo : World, wo = wr := ⟨_, rfl⟩
    clear M0
    by_cases hlt : c < 100
    · have M1 : Hid (∃ xv, Mo w [.int .i64 p, .slice ea n ec] [.int .i64 0, .slice none 0 0] p xv (MI c 0) wo) := Lib.hid (by rw [HI0.out]; exact hM.out)
      have hc1 : (c : Int) < 100 := by omega
      clear hM
      go_wp2
      go_loopw [7] (fun i wr => ∃ j : Nat, j ≤ n ∧ i = .int .i64 j ∧ Hid (∃ xv, Mo w [.int .i64 p, .slice ea n ec] [.int .i64 0, .slice none 0 0] p xv (MI c j) wr)) (fun i _ => n - (intOf i).toNat)
      case atStart => exact ⟨0, by omega, rfl, M1⟩
      case round =>
        obtain ⟨j, hj, rfl, hM2⟩ := hrel
        obtain ⟨wj, rfl⟩ : ∃ wj : World, wj = wr := ⟨_, rfl⟩
        clear M1
        obtain ⟨xv, hmo⟩ := hM2.out
        have b1 := hmo.bp.cell 1
        simp at b1
        have MM := Lib.hid hmo
        clear hmo
        by_cases hjl : j < n
        · obtain ⟨G, H, qa, qb, x, y, rfl, d1, f1, f2, f3, f4, rfl, d2, d3, x0, x4, y0, y4, hne, hcd, e0, e50⟩ := HC.out j hjl
          have c1 := d1 _ MM.out.be
          have c2 := d2 _ MM.out.be
          have c3 := d3 _ MM.out.be
          obtain ⟨e, he⟩ : ∃ e, nth es j = e := ⟨_, rfl⟩
          have HY := Lib.hid (HIy.out c j)
          have HN := Lib.hid (HIn.out c j)
          rw [he] at c1 f1 f2 hcd e0 e50 HY HN
          have HCD := Lib.hid hcd
          have qA : IntKind.wrap .i64 (e.tdiv 10) = (qa : Int) := by rw [f1]; exact IntWalk.i64_in _ (by omega)
          have hjn : (j : Int) < (n : Int) := by omega
          have hqa : (qa : Int) < (m : Int) := by omega
          have hqb : (qb : Int) < (m : Int) := by omega
          clear d1 d2 d3 he hcd f1 hM2
          by_cases hxy : x ≤ y
          · have hyx : ¬ y ≤ x := by omega
            have hz : cde o e = 10 * x + y := by rw [HCD.out, Int.min_eq_left hxy, Int.max_eq_right hxy]
            by_cases hzc : 10 * x + y = (c : Int)
            · have hd : (10 * x + y == (c : Int)) = true := by simp [hzc]
              have HS := Lib.hid (HY.out (by rw [hz, hzc]))
              have bo := MM.out.bo.cell 1
              simp at bo
              have ov := MM.out.ow
              have oz : w.heap.size + 3 ≤ wj.heap.size := by have := MM.out.bo.lt; omega
              have hll := HL.out c j hlt hjl
              clear hz hzc hne
              go_wp2_with (at_builtin; refine wpAppInt rfl _ _ rfl rfl ov (by omega) oz rfl ?_)
              intro v2 w2 o2 g2 _
              obtain ⟨va2, vc2, hv2⟩ := o2.form
              obtain ⟨vn2, hvn2⟩ : ∃ vn2, (MI c j ++ [(c : Int)]).length = vn2 := ⟨_, rfl⟩
              rw [hvn2] at hv2
              subst hv2
              clear hvn2
              have AA := MM.out.app o2 g2
              have bn := AA.1.cell 1
              have bf := AA.1.frozen 1
              simp at bn
              have M3 : Hid (∃ xv, Mo w [.int .i64 p, .slice (some ⟨G, 0, none⟩) n ec] [.int .i64 0, .slice none 0 0] p xv (MI c (j + 1)) (w2.setCell ⟨w.heap.size + 1 + 1, 1, none⟩ (.slice va2 vn2 vc2))) := Lib.hid ⟨_, by rw [HS.out]; exact AA.2⟩
              clear AA o2 g2 ov oz hll bo b1 c1 c2 c3
              go_wp2
              go_roundw
              case rel => exact ⟨j + 1, by omega, by go_num, M3⟩
              case measure => simp [intOf]; omega
            · have hd : (10 * x + y == (c : Int)) = false := by simp [hzc]
              have M3 : Hid (∃ xv, Mo w [.int .i64 p, .slice (some ⟨G, 0, none⟩) n ec] [.int .i64 0, .slice none 0 0] p xv (MI c (j + 1)) wj) := Lib.hid ⟨xv, by rw [HN.out (by rw [hz]; exact hzc)]; exact MM.out⟩
              clear hz hzc hne
              go_wp2
              go_roundw
              case rel => exact ⟨j + 1, by omega, by go_num, M3⟩
              case measure => simp [intOf]; omega
          · have hyx : y ≤ x := by omega
            have hz : cde o e = 10 * y + x := by rw [HCD.out, Int.min_eq_right hyx, Int.max_eq_left hyx]
            by_cases hzc : 10 * y + x = (c : Int)
            · have hd : (10 * y + x == (c : Int)) = true := by simp [hzc]
              have HS := Lib.hid (HY.out (by rw [hz, hzc]))
              have bo := MM.out.bo.cell 1
              simp at bo
              have ov := MM.out.ow
              have oz : w.heap.size + 3 ≤ wj.heap.size := by have := MM.out.bo.lt; omega
              have hll := HL.out c j hlt hjl
              clear hz hzc hne
              go_wp2_with (at_builtin; refine wpAppInt rfl _ _ rfl rfl ov (by omega) oz rfl ?_)
              intro v2 w2 o2 g2 _
              obtain ⟨va2, vc2, hv2⟩ := o2.form
              obtain ⟨vn2, hvn2⟩ : ∃ vn2, (MI c j ++ [(c : Int)]).length = vn2 := ⟨_, rfl⟩
              rw [hvn2] at hv2
              subst hv2
              clear hvn2
              have AA := MM.out.app o2 g2
              have bn := AA.1.cell 1
              have bf := AA.1.frozen 1
              simp at bn
              have M3 : Hid (∃ xv, Mo w [.int .i64 p, .slice (some ⟨G, 0, none⟩) n ec] [.int .i64 0, .slice none 0 0] p xv (MI c (j + 1)) (w2.setCell ⟨w.heap.size + 1 + 1, 1, none⟩ (.slice va2 vn2 vc2))) := Lib.hid ⟨_, by rw [HS.out]; exact AA.2⟩
              clear AA o2 g2 ov oz hll bo b1 c1 c2 c3
              go_wp2
              go_roundw
              case rel => exact ⟨j + 1, by omega, by go_num, M3⟩
              case measure => simp [intOf]; omega
            · have hd : (10 * y + x == (c : Int)) = false := by simp [hzc]
              have M3 : Hid (∃ xv, Mo w [.int .i64 p, .slice (some ⟨G, 0, none⟩) n ec] [.int .i64 0, .slice none 0 0] p xv (MI c (j + 1)) wj) := Lib.hid ⟨xv, by rw [HN.out (by rw [hz]; exact hzc)]; exact MM.out⟩
              clear hz hzc hne
              go_wp2
              go_roundw
              case rel => exact ⟨j + 1, by omega, by go_num, M3⟩
              case measure => simp [intOf]; omega
        · obtain rfl : j = n := by omega
          have M3 : Hid (∃ xv, Mo w [.int .i64 p, .slice ea j ec] [.int .i64 0, .slice none 0 0] p xv (MT (c + 1)) wj) := Lib.hid ⟨xv, by rw [← HIm.out]; exact MM.out⟩
          clear hM2
          go_wp2
          go_roundw
          case rel => exact ⟨c + 1, by omega, by go_num, M3⟩
          case measure => simp [intOf]; omega
    · obtain rfl : c = 100 := by omega
      obtain ⟨xv, hmo⟩ := hM.out
      have r0 := hmo.br.cell 0
      have r1 := hmo.br.cell 1
      have f0 := hmo.br.frozen 0
      have f1 := hmo.br.frozen 1
      have c0 := hmo.bo.cell 0
      have c1 := hmo.bo.cell 1
      simp at r0 r1 c0 c1
      obtain ⟨xa, xc, hxv⟩ := hmo.ow.form
      subst hxv
      have MM := Lib.hid hmo
      clear hmo hM
      go_wp2
      refine bodyPost_ret (v := .agg #[.int .i64 p, .slice xa (MT 100).length xc]) ?_ rfl ⟨_, rfl, ?_, below_set2 MM.out.be (by omega)⟩
      · simp [results, Tryd.results84, go_sem, r0, r1]
      · rw [HX.out]; exact own_set2 MM.out.ow (by omega) (by omega)
end Go.Proofs.YtimkmdedoacpfabDoor
