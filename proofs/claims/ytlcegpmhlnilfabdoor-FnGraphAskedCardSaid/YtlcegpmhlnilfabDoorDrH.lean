/- Draws: l20Order, l20Graph. -/
import Derived.Test.YtlcegpmhlnilfabDoorDrG
import Derived.Test.YtlcegpmhlnilfabDoorGphS
import Derived.Test.YtlcegpmhlnilfabDoorCapB
namespace Go.Proofs.YtlcegpmhlnilfabDoor
open Go.RowKit

theorem own_some {w : World} {B : Nat} {v : Value} {xs : List Int} (h : Own w B v xs) (hx : 0 < xs.length) : ∃ g c, v = .slice (some ⟨g, 0, none⟩) xs.length c := by
  rcases id h.2 with ⟨rfl, hn⟩ | ⟨g, cap, cur, rfl, _⟩
  · omega
  · exact ⟨_, _, rfl⟩
theorem Dx.re {w w' : World} {R k : Nat} {Bs : List (Nat × List Value)} {v v2 : Value} {xs ys : List Int} (h : Dx w R Bs [(v, xs)] k w') (ho : Own w' w.heap.size v2 ys) (e : v2.ownBlock = v.ownBlock) : Dx w R Bs [(v2, ys)] k w' :=
  ⟨h.rd, h.gr, h.rl, h.bx, fun x m => (by
    rcases List.mem_cons.1 m with rfl | m
    · exact ho
    · cases m), fun b mb x m q hq => (by
    rcases List.mem_cons.1 m with rfl | m
    · exact h.ap b mb _ (.head _) q (by rw [← e]; exact hq)
    · cases m)⟩
/-- The numbers from 0 on and less than q, in some order. -/
structure PmTo (xs : List Int) (q : Nat) : Prop where
  len : xs.length = q
  bd : ∀ x, x ∈ xs → 0 ≤ x ∧ x < q
  nd : xs.Nodup
theorem PmTo.ins {xs : List Int} {q t : Nat} (h : PmTo xs q) : PmTo (xs.take t ++ (q : Int) :: xs.drop t) (q + 1) := by
  have hp : (xs.take t ++ (q : Int) :: xs.drop t).Perm ((q : Int) :: xs) := by
    have h2 := List.perm_middle (a := (q : Int)) (l₁ := xs.take t) (l₂ := xs.drop t)
    rw [List.take_append_drop] at h2
    exact h2
  refine ⟨by rw [hp.length_eq, List.length_cons, h.len], fun x hx => ?_, hp.nodup_iff.2 (List.nodup_cons.2 ⟨fun hc => by have := h.bd _ hc; omega, h.nd⟩)⟩
  rcases List.mem_cons.1 (hp.mem_iff.1 hx) with rfl | hx
  · omega
  · have := h.bd x hx; omega
theorem PmTo.od {xs : List Int} {m : Nat} (h : PmTo xs m) (h1 : 1 ≤ m) (h5 : m ≤ 5) : Od xs m :=
  ⟨by rw [h.len], by omega, by omega, fun j hj => h.bd _ (nth_mem hj), pair_nth.1 h.nd⟩
theorem PmTo.small {xs : List Int} {m : Nat} (h : PmTo xs m) (h5 : m ≤ 5) : ∀ j, j < xs.length → 0 ≤ nth xs j ∧ nth xs j ≤ 10 := fun j hj => by have := h.bd _ (nth_mem hj); omega
theorem nth_drop {xs : List Int} {t j : Nat} : nth (xs.drop t) j = nth xs (t + j) := by
  unfold nth; rw [List.getD_eq_getElem?_getD, List.getD_eq_getElem?_getD, List.getElem?_drop]
theorem below_app {w1 w3 : World} {o : Obj} (g : (w1.alloc o).grownBy w3 (some w1.heap.size)) : Below w1.heap.size w1 w3 :=
  ⟨g.os, g.tape, g.output, Nat.le_trans (by simp) g.size, fun q hq => (g.block q (by simp; omega) (fun e => by cases e; omega)).trans (Below.heap_alloc w1 _ q hq)⟩
theorem own_cases {w : World} {B : Nat} {v : Value} {xs : List Int} (h : Own w B v xs) : (v = .slice none 0 0 ∧ xs.length = 0) ∨ ∃ g c, v = .slice (some ⟨g, 0, none⟩) xs.length c ∧ B ≤ g ∧ g < w.heap.size := by
  rcases id h.2 with ⟨rfl, hn⟩ | ⟨g, cap, cur, rfl, hB, _⟩
  · exact .inl ⟨rfl, hn⟩
  · exact .inr ⟨_, _, rfl, hB, (h.lt g rfl).2⟩
theorem nth_last {xs : List Int} {y : Int} : nth (xs ++ [y]) xs.length = y := by
  rw [nth_app, if_neg (by omega), if_pos (by omega)]
theorem wpAppInts2 {ops : Array Oper} {rest : List Oper} {o : Oper} {a : Act} {Q : Exit → Act → World → Prop} {w3 : World} {B G c n : Nat} {v : Value} {xs ys : List Int} (hgd : o.guard = none) (s x : Operand)
    (ho : o.op = .call { callee := .builtin .append, args := #[s, x], argTypes := #[23, 23] }) (hs : a.eval s = v) (hown : Own w3 B v xs) (hn : ys.length = n) (hl : xs.length + n < 1000000000) (hB : B ≤ w3.heap.size) (hx : a.eval x = .slice (some ⟨G, 0, none⟩) n c)
    (hc : ∀ j, j < n → w3.cell? ⟨G, j, none⟩ = some (.int .i64 (nth ys j)))
    (h : ∀ v' w4, Own w4 B v' (xs ++ ys) → w3.grownBy w4 v.ownBlock → (v'.ownBlock = v.ownBlock ∨ ∃ k, v'.ownBlock = some k ∧ w3.heap.size ≤ k) → wpList Tryd.prog ops Q rest (a.put o.dst v') w4) :
    wpList Tryd.prog ops Q (o :: rest) a w3 := wpAppIntsO (off := 0) hgd s x ho hs hown hn hl hB hx (fun j hj => by rw [Nat.zero_add]; exact hc j hj) h
def OrdDr (R k d : Nat) (m n : Int) (w : World) (e : Ending) (w' : World) : Prop :=
  ∃ v xs k', e = .returned v ∧ Own w' w.heap.size v xs ∧ xs.length ≤ 6 ∧ (∀ j, j < xs.length → 0 ≤ nth xs j ∧ nth xs j ≤ 10) ∧ (n < 1 → Od xs m) ∧ k' ≤ k + d ∧ w.grownBy w' (some R) ∧ Rd w' R k'

set_option maxHeartbeats 3200000 in
theorem drord_any (R k : Nat) (m : Nat) (n : Int) (w : World) (h : Rd w R k) (hk : k ≤ 80000) (m1 : 1 ≤ m) (m5 : m ≤ 5) (n2 : n ≤ 1000) :
    Calls Tryd.prog 60 #[.pointer (some ⟨R, 0, none⟩), .int .i64 m, .int .i64 n] w (OrdDr R k 12 m n w) := by
  have D0 : Hid (Dx w R [] [(.slice (some ⟨w.heap.size, 0, none⟩) 0 0, [])] k (w.alloc (.cells #[] 3))) := Lib.hid (((Dx.start h).on (below_grow w _)).add (own_made' w) (Nat.le_refl _) (fun b mb => (by cases mb)))
  clear h
  go_enter Tryd.func60, Tryd.ntmps60
  go_wp2
  go_loopw [7, 8] (fun v i wr => ∃ q : Nat, q ≤ m ∧ i = .int .i64 q ∧ Hid (∃ g c xs k1, v = .slice (some ⟨g, 0, none⟩) q c ∧ Dx w R [] [(v, xs)] k1 wr ∧ PmTo xs q ∧ k1 ≤ k + q)) (fun _ i _ => m - (intOf i).toNat)
  case atStart => exact ⟨0, by omega, rfl, Lib.hid ⟨_, _, [], k, rfl, D0.out, ⟨rfl, fun x hx => (by cases hx), List.nodup_nil⟩, by omega⟩⟩
  case round =>
    obtain ⟨q, hq, rfl, hH⟩ := hrel
    obtain ⟨wo, rfl⟩ : ∃ wo : World, wo = wr := ⟨_, rfl⟩
    clear D0
    obtain ⟨g, c, xs, k1, rfl, dx, pm, hk1⟩ := hH.out
    have D1 := Lib.hid dx
    have PM := Lib.hid pm
    have HL := Lib.hid pm.len
    clear dx pm hH
    by_cases hlt : q < m
    · have hlt1 : (q : Int) < (m : Int) := by omega
      go_wp2_with fail
      refine (pick_any _ _ ((q : Int) + 1) _ D1.out.rd (by omega)).mono ?_
      rintro e w1 ⟨a, rfl, a0, a1, mm, hw⟩
      have a2 := a1 (by omega)
      have D2 := Lib.hid (D1.out.next hw)
      clear hw a1 D1
      obtain ⟨t, rfl⟩ := Int.eq_ofNat_of_zero_le a0
      have htq : t ≤ q := by omega
      have hcap : q ≤ c := by have := Own.capped (D2.out.ls _ (.head _)); exact this _ _ _ rfl
      have htc : t ≤ c := by omega
      have hti : (t : Int) ≤ (q : Int) := by omega
      have htci : (t : Int) ≤ (c : Int) := by omega
      have hqci : (q : Int) ≤ (c : Int) := by omega
      by_cases hct : t = c
      · obtain rfl := hct
        obtain rfl : t = q := by omega
        have HLA := Lib.hid (show (xs.take t).length = t by rw [List.length_take, HL.out]; omega)
        have D3 := Lib.hid (D2.out.on (below_grow w1 (.cells #[] 3)))
        have D4 := Lib.hid (D3.out.re (Own.head (D3.out.ls _ (.head _)) HL.out (Nat.le_refl _)) rfl)
        have O4 := D4.out.ls _ (.head _)
        have OZ := D4.out.gr.size
        have hl4 : (xs.take t).length < 1000000000 := by rw [HLA.out]; omega
        clear D2 D3 a0 a2
        go_wp2_with (at_builtin; refine wpAppInt rfl _ _ rfl rfl O4 hl4 OZ (by rw [show (w1.alloc (.cells #[] 3)).heap.size = w1.heap.size + 1 by simp]; rfl) ?_)
        intro v4 w4 o4 g4 hv4
        obtain ⟨g4', c4, e4⟩ := own_some o4 (by rw [List.length_append]; simp)
        have hl5 : (xs.take t ++ [(t : Int)]).length = t + 1 := by rw [List.length_append, HLA.out]; rfl
        rw [hl5] at e4
        subst e4
        have hc4 : t + 1 ≤ c4 := Own.capped o4 _ _ _ rfl
        have D5 := Lib.hid (D4.out.app o4 g4 rfl (by rw [show (w1.alloc (.cells #[] 3)).heap.size = w1.heap.size + 1 by simp]; exact hv4))
        have P5 : Hid (PmTo (xs.take t ++ [(t : Int)]) (t + 1)) := Lib.hid (by
          have := PM.out.ins (t := t)
          rwa [List.eq_nil_of_length_eq_zero (show (xs.drop t).length = 0 by rw [List.length_drop, HL.out]; omega)] at this)
        clear o4 g4 hv4 O4 OZ D4 hl4 hl5
        go_wp2
        go_roundw
        case rel => exact ⟨t + 1, by omega, by go_num, Lib.hid ⟨_, _, _, _, rfl, D5.out, P5.out, by omega⟩⟩
        case measure => simp [intOf]; omega
      · have hct' : ¬ c = t := fun e => hct e.symm
        have O2 := own_made' w1
        have hdl : (xs.drop t).length = q - t := by rw [List.length_drop, HL.out]
        have hcs : ∀ j, j < q - t → (w1.alloc (.cells #[] 3)).cell? ⟨g, t + j, none⟩ = some (.int .i64 (nth (xs.drop t) j)) := fun j hj => by
          have hx := ((D2.out.on (below_grow w1 (.cells #[] 3))).ls _ (.head _))
          have hc := @World.ownsRow.cells _ _ _ _ _ _ _ hx
          have hadd : (⟨g, 0, none⟩ : Addr).add (t + j) = ⟨g, t + j, none⟩ := by unfold Addr.add; split <;> simp_all
          rw [← hadd]
          refine hc rfl (t + j) _ ?_
          rw [nth_drop, List.getElem?_map, List.getElem?_eq_getElem (by rw [HL.out]; omega), nth_get (by rw [HL.out]; omega)]; rfl
        have HCS := Lib.hid hcs
        have HDL := Lib.hid hdl
        clear hcs hdl a0 a2
        go_wp2_with (at_builtin; refine wpAppIntsO (xs := []) (ys := xs.drop t) rfl _ _ rfl rfl O2 HDL.out (by simp; omega) (by simp) rfl HCS.out ?_)
        intro v3 w3 o3 g3 _
        have B3 := Lib.hid (below_app g3)
        have O3 : Hid (Own w3 w1.heap.size v3 (xs.drop t)) := Lib.hid o3
        have D3 := Lib.hid (D2.out.on B3.out)
        have HG1 : Hid (g < w1.heap.size) := Lib.hid ((D2.out.ls _ (.head _)).lt g rfl).2
        have D4 := Lib.hid (D3.out.re (Own.head (D3.out.ls _ (.head _)) HL.out htq) rfl)
        have O4 := D4.out.ls _ (.head _)
        have OZ := D4.out.gr.size
        have hl4 : (xs.take t).length < 1000000000 := by rw [List.length_take]; omega
        clear o3 g3 O2 D2 HCS
        have HTK : Hid ((xs.take t).length = t) := Lib.hid (by rw [List.length_take, HL.out]; omega)
        have HC3 := own_cases O3.out
        rw [HDL.out] at HC3
        rcases HC3 with ⟨rfl, h0⟩ | ⟨G, C, rfl, hGlo, hGhi⟩
        · go_wp2_with (at_builtin; refine wpAppInt rfl _ _ rfl rfl O4 hl4 OZ rfl ?_)
          intro v4 w4 o4 g4 hv4
          obtain ⟨g4', c4, e4⟩ := own_some o4 (by rw [List.length_append]; simp)
          have hl5 : (xs.take t ++ [(q : Int)]).length = q + 1 := by
            rw [List.length_append, HTK.out]; simp; omega
          rw [hl5] at e4
          subst e4
          have hc4 : q + 1 ≤ c4 := Own.capped o4 _ _ _ rfl
          have D5 := Lib.hid (D4.out.app o4 g4 rfl hv4)
          have P5 : Hid (PmTo (xs.take t ++ [(q : Int)]) (q + 1)) := Lib.hid (by
            have := PM.out.ins (t := t)
            rwa [List.eq_nil_of_length_eq_zero (show (xs.drop t).length = 0 by rw [HDL.out]; exact h0)] at this)
          clear o4 g4 hv4 O4 OZ D3 D4 hl4 h0 hl5
          go_wp2_with (at_builtin; refine wpAppNil rfl _ _ rfl rfl rfl hc4 ?_)
          go_wp2
          go_roundw
          case rel => exact ⟨q + 1, by omega, by go_num, Lib.hid ⟨_, _, _, _, rfl, D5.out, P5.out, by omega⟩⟩
          case measure => simp [intOf]; omega
        · go_wp2_with (at_builtin; refine wpAppInt rfl _ _ rfl rfl O4 hl4 OZ rfl ?_)
          intro v4 w4 o4 g4 hv4
          obtain ⟨g4', c4, e4⟩ := own_some o4 (by rw [List.length_append]; simp)
          have hl5 : (xs.take t ++ [(q : Int)]).length = t + 1 := by rw [List.length_append, HTK.out]; rfl
          rw [hl5] at e4
          subst e4
          have D5 := Lib.hid (D4.out.app o4 g4 rfl hv4)
          have O5 := D5.out.ls _ (.head _)
          have OZ5 := D5.out.gr.size
          have HR := Lib.hid (own_heap O3.out fun j hj => g4.block j (O3.out.lt j hj).2 (by
            intro e
            have e' : some j = some g := e
            have e2 := Option.some.inj e'
            have := (O3.out.lt j hj).1
            have := HG1.out
            omega))
          have HCR : Hid (∀ j, j < q - t → w4.cell? ⟨G, j, none⟩ = some (.int .i64 (nth (xs.drop t) j))) := Lib.hid fun j hj => by
            have hc := @World.ownsRow.cells _ _ _ _ _ _ _ HR.out
            have hadd : (⟨G, 0, none⟩ : Addr).add j = ⟨G, j, none⟩ := by unfold Addr.add; split <;> simp_all
            rw [← hadd]
            refine hc rfl j _ ?_
            rw [List.getElem?_map, List.getElem?_eq_getElem (by rw [HDL.out]; exact hj), nth_get (by rw [HDL.out]; exact hj)]; rfl
          have P5 : Hid (PmTo (xs.take t ++ (q : Int) :: xs.drop t) (q + 1)) := Lib.hid (PM.out.ins (t := t))
          clear o4 g4 hv4 O4 OZ D3 D4 hl4 hGlo hGhi HR O3
          go_wp2_with (at_builtin; refine wpAppInts2 (ys := xs.drop t) rfl _ _ rfl rfl O5 HDL.out (by rw [hl5]; omega) OZ5 rfl HCR.out ?_)
          intro v6 w6 o6 g6 hv6
          obtain ⟨g6', c6, e6⟩ := own_some o6 (by rw [P5.out.len]; omega)
          rw [P5.out.len] at e6
          subst e6
          have D6 := Lib.hid (D5.out.app o6 g6 rfl hv6)
          clear o6 g6 hv6 O5 OZ5 D5 HCR hl5
          go_wp2
          go_roundw
          case rel => exact ⟨q + 1, by omega, by go_num, Lib.hid ⟨_, _, _, _, rfl, D6.out, P5.out, by omega⟩⟩
          case measure => simp [intOf]; omega
    · obtain rfl : q = m := by omega
      by_cases hn : n < 1
      · go_wp2_with fail
        refine (odd_zero R n _ hn).mono ?_
        rintro e w5 ⟨rfl, rfl⟩
        go_wp2
        go_ret
        exact ⟨_, xs, k1, rfl, D1.out.ls _ (.head _), by rw [HL.out]; omega, PM.out.small m5, fun _ => PM.out.od m1 m5, by omega, D1.out.gr, D1.out.rd⟩
      · go_wp2_with fail
        refine (odd_any R k1 n wo D1.out.rd (by omega) (by omega) (by omega)).mono ?_
        rintro e w5 ⟨bb, rfl, mm, hw⟩
        have D5 := Lib.hid (D1.out.next hw)
        clear hw D1
        cases bb
        · go_wp2
          go_ret
          exact ⟨_, xs, _, rfl, D5.out.ls _ (.head _), by rw [HL.out]; omega, PM.out.small m5, fun h => absurd h (by omega), by omega, D5.out.gr, D5.out.rd⟩
        go_wp2_with fail
        refine (pick_any _ _ 2 _ D5.out.rd (by omega)).mono ?_
        rintro e w6 ⟨b, rfl, b0, b1, mm, hw⟩
        have b2 := b1 (by omega)
        have D6 := Lib.hid (D5.out.next hw)
        clear hw b1 D5
        by_cases hb : b = 0
        · have hd : (b == 0) = true := by simp [hb]
          have ov := D6.out.ls _ (.head _)
          have oz := D6.out.gr.size
          have hxl : xs.length < 1000000000 := by rw [HL.out]; omega
          clear hb
          go_wp2_with (at_builtin; refine wpAppInt rfl _ _ rfl rfl ov hxl oz rfl ?_)
          intro v7 w7 o7 g7 hv7
          have D7 := Lib.hid (D6.out.app o7 g7 rfl hv7)
          clear o7 g7 hv7 ov oz
          go_wp2
          go_ret
          refine ⟨_, xs ++ [0], _, rfl, D7.out.ls _ (.head _), by rw [List.length_append, HL.out]; simp; omega, fun j hj => ?_, fun h => absurd h (by omega), by omega, D7.out.gr, D7.out.rd⟩
          by_cases e : j < xs.length
          · rw [nth_left e]; exact PM.out.small m5 j e
          · rw [List.length_append] at hj
            simp at hj
            obtain rfl : j = xs.length := by omega
            rw [nth_last]; omega
        · have hd : (b == 0) = false := by simp [hb]
          have hB := below_grow w6 (.cells #[.int .i64 0, .int .i64 0] 3)
          have D7 := Lib.hid (D6.out.on hB)
          have O7 : Hid (Own (w6.alloc (.cells #[.int .i64 0, .int .i64 0] 3)) w.heap.size (.slice (some ⟨w6.heap.size, 0, none⟩) 2 2) [0, 0]) := Lib.hid (own_mono (World.ownsRow_lit (base := w6.heap.size) (e := 3) (size := 1) w6 #[.int .i64 0, .int .i64 0] 2 (Nat.le_refl _) (by decide) rfl) D6.out.gr.size)
          clear hb hB
          go_wp2
          go_ret
          refine ⟨_, [0, 0], _, rfl, O7.out, by simp, fun j hj => ?_, fun h => absurd h (by omega), by omega, D7.out.gr, D7.out.rd⟩
          match j, hj with
          | 0, _ => exact ⟨Int.le_refl 0, (by show (0 : Int) ≤ 10; omega)⟩
          | 1, _ => exact ⟨Int.le_refl 0, (by show (0 : Int) ≤ 10; omega)⟩

def GphDr (R k d : Nat) (m : Int) (w : World) (e : Ending) (w' : World) : Prop :=
  ∃ p v es k', e = .returned (.agg #[.int .i64 p, v]) ∧ Own w' w.heap.size v es ∧ es.length ≤ 30 ∧ (∀ j, j < es.length → 0 ≤ nth es j ∧ nth es j ≤ 200) ∧ (p = m ∨ p = 0) ∧ k' ≤ k + d ∧ w.grownBy w' (some R) ∧ Rd w' R k'
theorem two_ne {w : World} {cs : List Value} : ∀ b, b ∈ [(w.heap.size, cs)] → b.1 ≠ w.heap.size + 1 := fun b m => by
  rcases List.mem_cons.1 m with rfl | m
  · show w.heap.size ≠ w.heap.size + 1; omega
  · cases m
def Sml (es : List Int) : Prop := ∀ j, j < es.length → 0 ≤ nth es j ∧ nth es j ≤ 200
theorem Sml.app {es : List Int} {y : Int} (h : Sml es) (h0 : 0 ≤ y) (h1 : y ≤ 200) : Sml (es ++ [y]) := fun j hj => by
  by_cases e : j < es.length
  · rw [nth_left e]; exact h j e
  · rw [List.length_append] at hj
    simp at hj
    obtain rfl : j = es.length := by omega
    rw [nth_last]; omega
theorem Sml.cons {es : List Int} {y : Int} (h : Sml es) (h0 : 0 ≤ y) (h1 : y ≤ 200) : Sml (y :: es) := fun j hj => by
  match j, hj with
  | 0, _ => exact ⟨h0, h1⟩
  | j + 1, hj => exact h j (by simpa using hj)
/-- A graph under way: its box behind the answer's. -/
def Gz (w : World) (R : Nat) (p : Int) (k n : Nat) (wr : World) : Prop := ∃ ev es k1, Dx w R [(w.heap.size + 1, [.int .i64 p, ev]), (w.heap.size, [.int .i64 0, .slice none 0 0])] [(ev, es)] k1 wr ∧ Sml es ∧ es.length ≤ n ∧ k1 ≤ k + n
/-- The graph as it is, answered. -/
theorem drgph_end {w w' : World} {R k k1 d : Nat} {p : Int} {ev : Value} {es : List Int} (D : Dx w R [(w.heap.size + 1, [.int .i64 p, ev]), (w.heap.size, [.int .i64 0, .slice none 0 0])] [(ev, es)] k1 w') (hs : Sml es) (hl : es.length ≤ 30) (hk : k1 ≤ k + d) :
    GphDr R k d p w (.returned (.agg #[.int .i64 p, ev])) ((w'.setCell ⟨w.heap.size, 0, none⟩ (.int .i64 p)).setCell ⟨w.heap.size, 1, none⟩ ev) := by
  have D1 : Dx w R [(w.heap.size, [.int .i64 0, .slice none 0 0])] [(ev, es)] k1 w' := D.sub (fun b m => by
    rcases List.mem_cons.1 m with rfl | m
    · exact .tail _ (.head _)
    · cases m) (fun x m => m)
  have D2 := (D1.put (fun b m => (by cases m)) 0 (.int .i64 p)).put (fun b m => (by cases m)) 1 ev
  exact ⟨p, ev, es, k1, rfl, D2.ls _ (.head _), hl, hs, .inl rfl, hk, D2.gr, D2.rd⟩

set_option maxHeartbeats 6400000 in
theorem drgph_any (R k : Nat) (m : Nat) (n : Int) (w : World) (h : Rd w R k) (hk : k ≤ 80000) (m1 : 1 ≤ m) (m5 : m ≤ 5) (n2 : n ≤ 1000) :
    Calls Tryd.prog 57 #[.pointer (some ⟨R, 0, none⟩), .int .i64 m, .int .i64 n] w (GphDr R k 32 m w) := by
  have D0 : Hid (Gz w R m k 0 ((w.alloc (.cells #[.int .i64 0, .slice none 0 0] 25)).alloc (.cells #[.int .i64 m, .slice none 0 0] 25))) := Lib.hid (by
    have h1 := (Dx.start h).box (T := 25) [.int .i64 0, .slice none 0 0]
    have h2 := h1.box (T := 25) [.int .i64 m, .slice none 0 0]
    rw [show (w.alloc (.cells [Value.int .i64 0, .slice none 0 0].toArray 25)).heap.size = w.heap.size + 1 by simp] at h2
    exact ⟨_, [], k, h2.add (World.ownsRow_nil _ _ _ _) (Nat.le_refl _) (fun b mb q hq => by cases hq), fun j hj => by simp at hj, by simp, by omega⟩)
  have HKK := Lib.hid hk
  clear h hk
  go_enter Tryd.func57, Tryd.ntmps57
  go_wp2
  go_loopw [8] (fun i wr => ∃ a : Nat, a ≤ m ∧ i = .int .i64 a ∧ Hid (Gz w R m k (5 * a) wr)) (fun i _ => m - (intOf i).toNat)
  case atStart => exact ⟨0, by omega, rfl, D0⟩
  case round =>
    obtain ⟨a, ha, rfl, hG⟩ := hrel
    obtain ⟨wo, rfl⟩ : ∃ wo : World, wo = wr := ⟨_, rfl⟩
    clear D0
    by_cases hlt : a < m
    · have hlt1 : (a : Int) < (m : Int) := by omega
      go_wp2
      go_loopw [9] (fun i wr => ∃ b : Nat, a + 1 ≤ b ∧ b ≤ m ∧ i = .int .i64 b ∧ Hid (Gz w R m k (5 * a + (b - (a + 1))) wr)) (fun i _ => m - (intOf i).toNat)
      case atStart => exact ⟨a + 1, by omega, by omega, by go_num, Lib.hid (by rw [Nat.sub_self, Nat.add_zero]; exact hG.out)⟩
      case round =>
        obtain ⟨b, hb1, hb2, rfl, hB⟩ := hrel
        obtain ⟨wi, rfl⟩ : ∃ wi : World, wi = wr := ⟨_, rfl⟩
        clear hG
        obtain ⟨ev, es, k1, dx, hs, hl, hk1⟩ := hB.out
        have D1 := Lib.hid dx
        have HS := Lib.hid hs
        have HL := Lib.hid hl
        have HK := Lib.hid hk1
        have hkk : k1 ≤ 80030 := by have := HKK.out; omega
        clear dx hs hl hk1 hB
        by_cases hbl : b < m
        · have hbl1 : (b : Int) < (m : Int) := by omega
          go_wp2_with fail
          refine (pick_any _ _ 2 _ D1.out.rd (by omega)).mono ?_
          rintro e w1 ⟨v, rfl, v0, v1, mm, hw⟩
          have v2 := v1 (by omega)
          have DQ := Lib.hid (D1.out.next hw)
          clear hw v1 D1
          by_cases hv : v = 0
          · have hd : (v == 0) = true := by simp [hv]
            have hxl : es.length < 1000000000 := by have := HL.out; omega
            clear hv v0 v2
            have bo := (DQ.out.bx _ (.head _)).2.cell 1
            simp at bo
            have ov := DQ.out.ls _ (.head _)
            have oz := DQ.out.gr.size
            go_wp2_with (at_builtin; refine wpAppInt rfl _ _ rfl rfl ov hxl oz rfl ?_)
            intro v2 w2 o2 g2 hv2
            have HLN := Lib.hid (show (es ++ [(10 * (a : Int) + (b : Int))]).length = es.length + 1 by simp)
            obtain ⟨va, vc, e2⟩ := Own.form o2
            obtain ⟨vn, hvn⟩ : ∃ vn, (es ++ [(10 * (a : Int) + (b : Int))]).length = vn := ⟨_, rfl⟩
            rw [hvn] at e2
            subst e2
            have D2 := Lib.hid (DQ.out.app o2 g2 rfl hv2)
            have bn := (D2.out.bx _ (.head _)).2.cell 1
            have bf := (D2.out.bx _ (.head _)).2.frozen 1
            simp at bn
            have D3 := Lib.hid (D2.out.put two_ne 1 (.slice va vn vc))
            clear o2 g2 hv2 ov oz bo D2
            have G3 : Hid (Gz w R m k (5 * a + (b + 1 - (a + 1))) (w2.setCell ⟨w.heap.size + 1, 1, none⟩ (.slice va vn vc))) := Lib.hid ⟨_, es ++ [10 * (a : Int) + (b : Int)], _, D3.out, HS.out.app (by omega) (by omega), by rw [HLN.out]; have := HL.out; omega, by have := HK.out; omega⟩
            clear D3 hvn
            go_wp2
            go_roundw
            case rel => exact ⟨b + 1, by omega, by omega, by go_num, G3⟩
            case measure => simp [intOf]; omega
          · have hd : (v == 0) = false := by simp [hv]
            have G3 : Hid (Gz w R m k (5 * a + (b + 1 - (a + 1))) w1) := Lib.hid ⟨_, es, _, DQ.out, HS.out, by have := HL.out; omega, by have := HK.out; omega⟩
            clear hv v0 v2
            go_wp2
            go_roundw
            case rel => exact ⟨b + 1, by omega, by omega, by go_num, G3⟩
            case measure => simp [intOf]; omega
        · obtain rfl : m = b := by omega
          have G3 : Hid (Gz w R m k (5 * (a + 1)) wi) := Lib.hid ⟨_, es, _, D1.out, HS.out, by have := HL.out; omega, by have := HK.out; omega⟩
          go_wp2
          go_roundw
          case rel => exact ⟨a + 1, by omega, by go_num, G3⟩
          case measure => simp [intOf]; omega
    · obtain rfl : m = a := by omega
      obtain ⟨ev, es, k1, dx, hs, hl, hk1⟩ := hG.out
      have D1 := Lib.hid dx
      have HS := Lib.hid hs
      have HL := Lib.hid (show es.length ≤ 25 by omega)
      have HK := Lib.hid hk1
      have hkk : k1 ≤ 80030 := by have := HKK.out; omega
      obtain ⟨ea, ec, hev⟩ := Own.form (show Own wo w.heap.size ev es from dx.ls _ (.head _))
      subst hev
      obtain ⟨en, hen⟩ : ∃ en, es.length = en := ⟨_, rfl⟩
      have HEN := Lib.hid hen
      rw [hen] at D1
      clear dx hs hl hk1 hG hen
      by_cases hn : n < 1
      · go_wp2_with fail
        refine (odd_zero R n _ hn).mono ?_
        rintro e w5 ⟨rfl, rfl⟩
        clear hn
        have c0 := (D1.out.bx _ (.head _)).2.cell 0
        have c1 := (D1.out.bx _ (.head _)).2.cell 1
        have r0 := (D1.out.bx _ (.tail _ (.head _))).2.cell 0
        have r1 := (D1.out.bx _ (.tail _ (.head _))).2.cell 1
        have f0 := (D1.out.bx _ (.tail _ (.head _))).2.frozen 0
        have f1 := (D1.out.bx _ (.tail _ (.head _))).2.frozen 1
        simp at c0 c1 r0 r1
        go_wp2
        refine bodyPost_ret ?_ rfl (drgph_end (k := k) (d := 32) D1.out HS.out (by have := HL.out; omega) (by have := HK.out; omega))
        simp [results, Tryd.results57, go_sem, r0, r1]
      go_wp2_with fail
      refine (odd_any R k1 n wo D1.out.rd (by omega) (by omega) (by omega)).mono ?_
      rintro e w5 ⟨bb, rfl, mm, hw⟩
      have D5 := Lib.hid (D1.out.next hw)
      clear hw D1 hn
      cases bb
      · skip
        have c0 := (D5.out.bx _ (.head _)).2.cell 0
        have c1 := (D5.out.bx _ (.head _)).2.cell 1
        have r0 := (D5.out.bx _ (.tail _ (.head _))).2.cell 0
        have r1 := (D5.out.bx _ (.tail _ (.head _))).2.cell 1
        have f0 := (D5.out.bx _ (.tail _ (.head _))).2.frozen 0
        have f1 := (D5.out.bx _ (.tail _ (.head _))).2.frozen 1
        simp at c0 c1 r0 r1
        go_wp2
        refine bodyPost_ret ?_ rfl (drgph_end (k := k) (d := 32) D5.out HS.out (by have := HL.out; omega) (by have := HK.out; omega))
        simp [results, Tryd.results57, go_sem, r0, r1]
      go_wp2_with fail
      refine (pick_any _ _ 3 _ D5.out.rd (by omega)).mono ?_
      rintro e w6 ⟨s, rfl, s0, s1, mm, hw⟩
      have s2 := s1 (by omega)
      have DQ := Lib.hid (D5.out.next hw)
      clear hw s1 D5
      by_cases s0' : s = 0
      · have hd : (s == 0) = true := by simp [s0']
        clear s0' s0 s2
        have D7 : Hid (Dx w R [(w.heap.size, [.int .i64 0, .slice none 0 0])] [(.slice none 0 0, [])] (k1 + 1 + 1) w6) := Lib.hid ((DQ.out.sub (L' := []) (fun b mb => by
          rcases List.mem_cons.1 mb with rfl | mb
          · exact .tail _ (.head _)
          · cases mb) (fun x mx => (by cases mx))).add (World.ownsRow_nil _ _ _ _) (Nat.le_refl _) (fun b mb q hq => by cases hq))
        have r0 := (D7.out.bx _ (.head _)).2.cell 0
        have r1 := (D7.out.bx _ (.head _)).2.cell 1
        have f0 := (D7.out.bx _ (.head _)).2.frozen 0
        have f1 := (D7.out.bx _ (.head _)).2.frozen 1
        simp at r0 r1
        go_wp2
        refine bodyPost_ret (v := .agg #[.int .i64 0, .slice none 0 0]) ?_ rfl ?_
        · simp [results, Tryd.results57, go_sem, r0, r1]
        · have D8 := (D7.out.put (fun b mb => (by cases mb)) 0 (.int .i64 0)).put (fun b mb => (by cases mb)) 1 (.slice none 0 0)
          exact ⟨0, _, [], _, rfl, D8.ls _ (.head _), by simp, fun j hj => by simp at hj, .inr rfl, by have := HK.out; omega, D8.gr, D8.rd⟩
      have hd0 : (s == 0) = false := by simp [s0']
      by_cases s1' : s = 1
      · have hd1 : (s == 1) = true := by simp [s1']
        have hxl : es.length < 1000000000 := by have := HL.out; omega
        clear s0' s1' s0 s2
        have bo := (DQ.out.bx _ (.head _)).2.cell 1
        simp at bo
        have ov := DQ.out.ls _ (.head _)
        have oz := DQ.out.gr.size
        go_wp2_with (at_builtin; refine wpAppInt rfl _ _ rfl rfl ov hxl oz rfl ?_)
        intro v2 w2 o2 g2 hv2
        have HLN := Lib.hid (show (es ++ [(90 + (m : Int))]).length = es.length + 1 by simp)
        obtain ⟨va, vc, e2⟩ := Own.form o2
        obtain ⟨vn, hvn⟩ : ∃ vn, (es ++ [(90 + (m : Int))]).length = vn := ⟨_, rfl⟩
        rw [hvn] at e2
        subst e2
        have D2 := Lib.hid (DQ.out.app o2 g2 rfl hv2)
        have bn := (D2.out.bx _ (.head _)).2.cell 1
        have bf := (D2.out.bx _ (.head _)).2.frozen 1
        simp at bn
        have D3 := Lib.hid (D2.out.put two_ne 1 (.slice va vn vc))
        clear o2 g2 hv2 ov oz bo D2
        have HS3 := Lib.hid (HS.out.app (y := 90 + (m : Int)) (by omega) (by omega))
        clear hvn
        have c0 := (D3.out.bx _ (.head _)).2.cell 0
        have c1 := (D3.out.bx _ (.head _)).2.cell 1
        have r0 := (D3.out.bx _ (.tail _ (.head _))).2.cell 0
        have r1 := (D3.out.bx _ (.tail _ (.head _))).2.cell 1
        have f0 := (D3.out.bx _ (.tail _ (.head _))).2.frozen 0
        have f1 := (D3.out.bx _ (.tail _ (.head _))).2.frozen 1
        simp at c0 c1 r0 r1
        go_wp2
        refine bodyPost_ret ?_ rfl (drgph_end (k := k) (d := 32) D3.out HS3.out (by rw [HLN.out]; have := HL.out; omega) (by have := HK.out; omega))
        simp [results, Tryd.results57, go_sem, r0, r1]
      · have hd1 : (s == 1) = false := by simp [s1']
        clear s0' s1' s0 s2
        have bo := (DQ.out.bx _ (.head _)).2.cell 1
        simp at bo
        have O6 : Hid (Own (w6.alloc (.cells #[.int .i64 11] 3)) w.heap.size (.slice (some ⟨w6.heap.size, 0, none⟩) 1 1) [11]) := Lib.hid (own_mono (World.ownsRow_lit (base := w6.heap.size) (e := 3) (size := 1) w6 #[.int .i64 11] 1 (Nat.le_refl _) (by decide) rfl) DQ.out.gr.size)
        have D6 : Hid (Dx w R [(w.heap.size + 1, [.int .i64 m, .slice ea en ec]), (w.heap.size, [.int .i64 0, .slice none 0 0])] [(.slice (some ⟨w6.heap.size, 0, none⟩) 1 1, [11])] (k1 + 1 + 1) (w6.alloc (.cells #[.int .i64 11] 3))) := Lib.hid (((DQ.out.on (below_grow w6 (.cells #[.int .i64 11] 3))).sub (L' := []) (fun b mb => mb) (fun x mx => (by cases mx))).add O6.out (Nat.le_refl _) (fun b mb q hq => by
          have e : some w6.heap.size = some q := hq
          have e2 := Option.some.inj e
          have := (DQ.out.bx b mb).2.lt
          omega))
        clear bo
        have bo := (D6.out.bx _ (.head _)).2.cell 1
        simp at bo
        have HC3 := own_cases (DQ.out.ls _ (.head _))
        rw [show ((Value.slice ea en ec, es) : Value × List Int).2.length = en from HEN.out] at HC3
        rcases HC3 with ⟨e3, h0⟩ | ⟨G, C, e3, hGlo, hGhi⟩
        · have e3' : Value.slice ea en ec = .slice none 0 0 := e3
          cases e3'
          have D7 := Lib.hid (D6.out.put two_ne 1 (.slice (some ⟨w6.heap.size, 0, none⟩) 1 1))
          have bn := (D6.out.bx _ (.head _)).2.cell 1
          have bf := (D6.out.bx _ (.head _)).2.frozen 1
          simp at bn
          have HS7 : Hid (Sml [11]) := Lib.hid (Sml.cons (fun j hj => by simp at hj) (by omega) (by omega))
          have c0 := (D7.out.bx _ (.head _)).2.cell 0
          have c1 := (D7.out.bx _ (.head _)).2.cell 1
          have r0 := (D7.out.bx _ (.tail _ (.head _))).2.cell 0
          have r1 := (D7.out.bx _ (.tail _ (.head _))).2.cell 1
          have f0 := (D7.out.bx _ (.tail _ (.head _))).2.frozen 0
          have f1 := (D7.out.bx _ (.tail _ (.head _))).2.frozen 1
          simp at c0 c1 r0 r1
          go_wp2_with (at_builtin; refine wpAppNil rfl _ _ rfl rfl rfl (Nat.le_refl _) ?_)
          refine bodyPost_ret ?_ rfl (drgph_end (k := k) (d := 32) D7.out HS7.out (by simp) (by have := HK.out; omega))
          simp [results, Tryd.results57, go_sem, r0, r1]
        · have e3' : Value.slice ea en ec = .slice (some ⟨G, 0, none⟩) en C := e3
          cases e3'
          have HCS : Hid (∀ j, j < en → (w6.alloc (.cells #[.int .i64 11] 3)).cell? ⟨G, j, none⟩ = some (.int .i64 (nth es j))) := Lib.hid fun j hj => by
            have hx : Own (w6.alloc (.cells #[.int .i64 11] 3)) w.heap.size (.slice (some ⟨G, 0, none⟩) en ec) es := (DQ.out.on (below_grow w6 (.cells #[.int .i64 11] 3))).ls _ (.head _)
            have hc := @World.ownsRow.cells _ _ _ _ _ _ _ hx
            have hadd : (⟨G, 0, none⟩ : Addr).add j = ⟨G, j, none⟩ := by unfold Addr.add; split <;> simp_all
            rw [← hadd]
            refine hc rfl j _ ?_
            rw [List.getElem?_map, List.getElem?_eq_getElem (by rw [HEN.out]; exact hj), nth_get (by rw [HEN.out]; exact hj)]; rfl
          have O6' := O6.out
          have oz : w.heap.size ≤ (w6.alloc (.cells #[.int .i64 11] 3)).heap.size := D6.out.gr.size
          have hl6 : ([11] : List Int).length + en < 1000000000 := by have := HL.out; have := HEN.out; simp; omega
          clear hGlo hGhi
          go_wp2_with (at_builtin; refine wpAppInts2 (xs := [11]) (ys := es) rfl _ _ rfl rfl O6' HEN.out hl6 oz rfl HCS.out ?_)
          intro v2 w2 o2 g2 hv2
          obtain ⟨va, vc, e2⟩ := Own.form o2
          obtain ⟨vn, hvn⟩ : ∃ vn, ((11 : Int) :: es).length = vn := ⟨_, rfl⟩
          have hvn' : ([11] ++ es).length = vn := hvn
          have e2' : v2 = .slice va vn vc := by rw [← hvn']; exact e2
          subst e2'
          have D2 := Lib.hid (D6.out.app o2 g2 rfl (by rw [show (w6.alloc (.cells #[.int .i64 11] 3)).heap.size = w6.heap.size + 1 by simp]; exact hv2))
          have bn := (D2.out.bx _ (.head _)).2.cell 1
          have bf := (D2.out.bx _ (.head _)).2.frozen 1
          simp at bn
          have D7 := Lib.hid (D2.out.put two_ne 1 (.slice va vn vc))
          have HS7 : Hid (Sml (11 :: es)) := Lib.hid (HS.out.cons (by omega) (by omega))
          clear o2 g2 hv2 O6' oz bo D2 D6 O6 HCS e2 hvn hvn' hl6
          have c0 := (D7.out.bx _ (.head _)).2.cell 0
          have c1 := (D7.out.bx _ (.head _)).2.cell 1
          have r0 := (D7.out.bx _ (.tail _ (.head _))).2.cell 0
          have r1 := (D7.out.bx _ (.tail _ (.head _))).2.cell 1
          have f0 := (D7.out.bx _ (.tail _ (.head _))).2.frozen 0
          have f1 := (D7.out.bx _ (.tail _ (.head _))).2.frozen 1
          simp at c0 c1 r0 r1
          go_wp2
          refine bodyPost_ret ?_ rfl (drgph_end (k := k) (d := 32) D7.out HS7.out (by have := HL.out; simp; omega) (by have := HK.out; omega))
          simp [results, Tryd.results57, go_sem, r0, r1]
end Go.Proofs.YtlcegpmhlnilfabDoor
