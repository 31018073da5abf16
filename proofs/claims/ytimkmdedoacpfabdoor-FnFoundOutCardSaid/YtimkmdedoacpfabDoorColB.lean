/- impl: renamed, two colourings compared, BestCheat. -/
import Derived.Test.YtimkmdedoacpfabDoorColM
import Derived.ChangeKeysEq
namespace Go.Proofs.YtimkmdedoacpfabDoor
open Go.RowKit

theorem colElems : Tryd.prog.underlying 67 = some (.array 5 3) := by kernel_rfl
theorem run_equal_col (x0 x1 x2 x3 x4 y0 y1 y2 y3 y4 : Int) (w : World) : (Op.equalIn 10000 67 (.agg #[.int .i64 x0, .int .i64 x1, .int .i64 x2, .int .i64 x3, .int .i64 x4]) (.agg #[.int .i64 y0, .int .i64 y1, .int .i64 y2, .int .i64 y3, .int .i64 y4])).run Tryd.prog w = .ok (decide (x0 = y0) && (decide (x1 = y1) && (decide (x2 = y2) && (decide (x3 = y3) && decide (x4 = y4))))) w := by
  obtain ⟨i0, hi, hz0, hz1, hz2⟩ := info_parts infoInt
  have hc : Tryd.prog.cellsOf 3 = 1 := by kernel_rfl
  rw [run_equalIn_array w 9999 _ _ colElems hi, hc, show List.range 5 = [0, 1, 2, 3, 4] from rfl]
  have pt : ∀ (xs : Array Value) (j : Nat) (x : Int), xs[j]? = some (.int .i64 x) → (part 3 xs j).run Tryd.prog w = .ok (.int .i64 x) w := fun xs j x h => by
    simp [part, isAgg, run_underlying Tryd.underlying3, h]
  have eq : ∀ x y : Int, (Op.equalIn 9999 3 (.int .i64 x) (.int .i64 y)).run Tryd.prog w = .ok (decide (x = y)) w := fun x y => by
    rw [run_equalIn_int w 9998 3 .i64 .i64 x y Tryd.underlying3]
    by_cases h : x = y <;> simp [h]
  have st : ∀ (xs ys : Array Value) (i : Nat) (x y : Int) (is : List Nat), xs[i]? = some (.int .i64 x) → ys[i]? = some (.int .i64 y) → (Op.eqItems 9999 3 1 xs ys (i :: is)).run Tryd.prog w = if x = y then (Op.eqItems 9999 3 1 xs ys is).run Tryd.prog w else .ok false w := fun xs ys i x y is h h' => by
    simp only [Op.eqItems, Nat.mul_one, Sem.run_bind, pt xs i x h, pt ys i y h', eq, Result.andThen_ok]
    by_cases e : x = y <;> simp [e]
  rw [st #[.int .i64 x0, .int .i64 x1, .int .i64 x2, .int .i64 x3, .int .i64 x4] #[.int .i64 y0, .int .i64 y1, .int .i64 y2, .int .i64 y3, .int .i64 y4] 0 x0 y0 _ rfl rfl]
  by_cases e0 : x0 = y0
  case neg => simp [e0]
  rw [if_pos e0]
  rw [st #[.int .i64 x0, .int .i64 x1, .int .i64 x2, .int .i64 x3, .int .i64 x4] #[.int .i64 y0, .int .i64 y1, .int .i64 y2, .int .i64 y3, .int .i64 y4] 1 x1 y1 _ rfl rfl]
  by_cases e1 : x1 = y1
  case neg => simp [e1]
  rw [if_pos e1]
  rw [st #[.int .i64 x0, .int .i64 x1, .int .i64 x2, .int .i64 x3, .int .i64 x4] #[.int .i64 y0, .int .i64 y1, .int .i64 y2, .int .i64 y3, .int .i64 y4] 2 x2 y2 _ rfl rfl]
  by_cases e2 : x2 = y2
  case neg => simp [e2]
  rw [if_pos e2]
  rw [st #[.int .i64 x0, .int .i64 x1, .int .i64 x2, .int .i64 x3, .int .i64 x4] #[.int .i64 y0, .int .i64 y1, .int .i64 y2, .int .i64 y3, .int .i64 y4] 3 x3 y3 _ rfl rfl]
  by_cases e3 : x3 = y3
  case neg => simp [e3]
  rw [if_pos e3]
  rw [st #[.int .i64 x0, .int .i64 x1, .int .i64 x2, .int .i64 x3, .int .i64 x4] #[.int .i64 y0, .int .i64 y1, .int .i64 y2, .int .i64 y3, .int .i64 y4] 4 x4 y4 _ rfl rfl]
  by_cases e4 : x4 = y4
  case neg => simp [e4]
  rw [if_pos e4]
  simp [Op.eqItems, e0, e1, e2, e3, e4]
/-- Colours of as many points are the same if their arrays are. -/
theorem five_inj {c d : List Int} (h5 : c.length ≤ 5) (hl : c.length = d.length) (h : five c = five d) : c = d := by
  refine list_eq hl fun j hj => ?_
  have a := five_get (cs := c) (k := j) (by omega)
  have b := five_get (cs := d) (k := j) (by omega)
  rw [h, b] at a
  simpa using a.symm
theorem five_same {c d : List Int} {x0 x1 x2 x3 x4 y0 y1 y2 y3 y4 : Int} (h5 : c.length ≤ 5) (hl : c.length = d.length) (hc : five c = [.int .i64 x0, .int .i64 x1, .int .i64 x2, .int .i64 x3, .int .i64 x4]) (hd : five d = [.int .i64 y0, .int .i64 y1, .int .i64 y2, .int .i64 y3, .int .i64 y4]) : (decide (x0 = y0) && (decide (x1 = y1) && (decide (x2 = y2) && (decide (x3 = y3) && decide (x4 = y4))))) = decide (c = d) := by
  by_cases e : c = d
  · subst e
    rw [hc] at hd
    simp at hd
    simp [hd]
  · have : decide (c = d) = false := by simpa using e
    rw [this, Bool.eq_false_iff]
    intro hh
    simp at hh
    exact e (five_inj h5 hl (by rw [hc, hd]; simp [hh]))

/-! ### renamed -/
structure RnS (w : World) (cs : List Int) (g cap : Nat) (k : Nat) (wr : World) : Prop where
  be : Below w.heap.size w wr
  bc : Box wr w.heap.size (five cs)
  br : Box wr (w.heap.size + 1) (five [])
  ow : Own wr (w.heap.size + 2) (.slice (some ⟨g, 0, none⟩) 3 cap) (renTo cs k).1
theorem renTo_len (cs : List Int) : ∀ k, (renTo cs k).1.length = 3
  | 0 => rfl
  | k + 1 => by
    rw [renTo]; split
    · rw [List.length_set]; exact renTo_len cs k
    · exact renTo_len cs k
theorem renTo_few (cs : List Int) : ∀ k, (renTo cs k).2 ≤ k
  | 0 => Nat.le_refl _
  | k + 1 => by
    have := renTo_few cs k
    rw [renTo]; split
    · simp only; omega
    · omega
theorem renTo_new {cs : List Int} {k : Nat} (h : app (renTo cs k).1 (nth cs k) < 0) : renTo cs (k + 1) = ((renTo cs k).1.set (nth cs k).toNat ((renTo cs k).2 : Int), (renTo cs k).2 + 1) := by rw [renTo, if_pos h]
theorem renTo_old {cs : List Int} {k : Nat} (h : ¬ app (renTo cs k).1 (nth cs k) < 0) : renTo cs (k + 1) = renTo cs k := by rw [renTo, if_neg h]
theorem RnS.put {w : World} {cs : List Int} {g cap k X : Nat} {wr : World} (h : RnS w cs g cap k wr) (hX : nth cs k = (X : Int)) (h3 : X < 3) (hn : app (renTo cs k).1 (nth cs k) < 0) : RnS w cs g cap (k + 1) (wr.setCell ⟨g, X, none⟩ (.int .i64 ((renTo cs k).2 : Int))) := by
  obtain ⟨_, o2, g2⟩ := Own.set (k := X) h.ow (renTo_len cs k) h3 ((renTo cs k).2 : Int)
  have hg := (h.ow.lt g rfl).1
  refine ⟨h.be.grown g2 h.be.size fun q e => by cases e; omega, h.bc.far (by omega) _, h.br.far (by omega) _, ?_⟩
  rw [renTo_new hn, hX]; exact o2

set_option maxRecDepth 20000 in
set_option maxHeartbeats 3200000 in
theorem irn_any (n : Nat) (cs : List Int) (x0 x1 x2 x3 x4 : Int) (w : World) (hl : cs.length = n) (h5 : n ≤ 5) (hF : five cs = [.int .i64 x0, .int .i64 x1, .int .i64 x2, .int .i64 x3, .int .i64 x4]) (hb : ∀ j, j < n → 0 ≤ nth cs j ∧ nth cs j ≤ 2) :
    Calls Tryd.prog 77 #[.agg #[.int .i64 x0, .int .i64 x1, .int .i64 x2, .int .i64 x3, .int .i64 x4], .int .i64 n] w (PnPost (ren cs) w) := by
  obtain ⟨b0, b1, bl⟩ := boxes2 (w := w) (P := [.int .i64 x0, .int .i64 x1, .int .i64 x2, .int .i64 x3, .int .i64 x4]) (R := [.int .i64 0, .int .i64 0, .int .i64 0, .int .i64 0, .int .i64 0]) (T1 := 67) (T2 := 67) (Below.refl _ _)
  have hz : ((w.alloc (.cells #[.int .i64 x0, .int .i64 x1, .int .i64 x2, .int .i64 x3, .int .i64 x4] 67)).alloc (.cells #[.int .i64 0, .int .i64 0, .int .i64 0, .int .i64 0, .int .i64 0] 67)).heap.size = w.heap.size + 2 := by simp
  have bg := below_grow ((w.alloc (.cells #[.int .i64 x0, .int .i64 x1, .int .i64 x2, .int .i64 x3, .int .i64 x4] 67)).alloc (.cells #[.int .i64 0, .int .i64 0, .int .i64 0, .int .i64 0, .int .i64 0] 67)) (.cells #[.int .i64 (-1), .int .i64 (-1), .int .i64 (-1)] 3)
  have O0 := World.ownsRow_lit (base := ((w.alloc (.cells #[.int .i64 x0, .int .i64 x1, .int .i64 x2, .int .i64 x3, .int .i64 x4] 67)).alloc (.cells #[.int .i64 0, .int .i64 0, .int .i64 0, .int .i64 0, .int .i64 0] 67)).heap.size) (e := 3) (size := 1) ((w.alloc (.cells #[.int .i64 x0, .int .i64 x1, .int .i64 x2, .int .i64 x3, .int .i64 x4] 67)).alloc (.cells #[.int .i64 0, .int .i64 0, .int .i64 0, .int .i64 0, .int .i64 0] 67)) #[.int .i64 (-1), .int .i64 (-1), .int .i64 (-1)] 3 (Nat.le_refl _) (by decide) rfl
  rw [hz] at O0
  have S0 := Lib.hid (show RnS w cs (w.heap.size + 2) 3 0 (((w.alloc (.cells #[.int .i64 x0, .int .i64 x1, .int .i64 x2, .int .i64 x3, .int .i64 x4] 67)).alloc (.cells #[.int .i64 0, .int .i64 0, .int .i64 0, .int .i64 0, .int .i64 0] 67)).alloc (.cells #[.int .i64 (-1), .int .i64 (-1), .int .i64 (-1)] 3)) from
    ⟨Below.on bl bg, by rw [hF]; exact b0.on bg, b1.on bg, O0⟩)
  have HX := Lib.hid (show ∀ k, k < n → ∃ X : Nat, nth cs k = (X : Int) ∧ X < 3 from fun k hk => by have := hb k hk; exact ⟨(nth cs k).toNat, by omega, by omega⟩)
  have HF := Lib.hid hF
  have HL := Lib.hid hl
  clear b0 b1 bl bg O0 hz hF hl hb
  go_enter Tryd.func77, Tryd.ntmps77
  go_wp2
  go_loopw [6, 10] (fun m i wr => ∃ k : Nat, k ≤ n ∧ i = .int .i64 k ∧ m = .int .i64 ((renTo cs k).2 : Int) ∧ Hid (RnS w cs (w.heap.size + 2) 3 k wr)) (fun _ i _ => n - (intOf i).toNat)
  case atStart => exact ⟨0, by omega, rfl, rfl, S0⟩
  case round =>
    obtain ⟨k, hk, rfl, rfl, hS⟩ := hrel
    obtain ⟨wo, rfl⟩ : ∃ wo : World, wo = wr := ⟨_, rfl⟩
    clear S0
    by_cases hlt : k < n
    · obtain ⟨X, hX, hX3⟩ := HX.out k hlt
      have z0 := hS.out.bc.col (k := k) (by omega)
      rw [hX] at z0
      have hs := Own.set (k := X) hS.out.ow (renTo_len cs k) hX3 ((renTo cs k).2 : Int)
      obtain ⟨⟨z1, z2⟩, _, _⟩ := hs
      have hfew := renTo_few cs k
      have k5 : (k : Int) < 5 := by omega
      have hlt1 : (k : Int) < (n : Int) := by omega
      have hX1 : (X : Int) < 3 := by omega
      by_cases hn : app (renTo cs k).1 (nth cs k) < 0
      · have S1 := Lib.hid (hS.out.put hX hX3 hn)
        have HM : Hid (((renTo cs (k + 1)).2 : Int) = ((renTo cs k).2 : Int) + 1) := Lib.hid (by rw [renTo_new hn]; simp)
        rw [hX] at hn
        simp only [app, Int.toNat_natCast] at hn
        obtain ⟨y, hy⟩ : ∃ y, nth (renTo cs k).1 X = y := ⟨_, rfl⟩
        rw [hy] at z2 hn
        obtain ⟨M, hM⟩ : ∃ M, (renTo cs k).2 = M := ⟨_, rfl⟩
        rw [hM] at S1 HM hfew ⊢
        have hd : decide (y < 0) = true := by simpa using hn
        clear hX hn hy hM hS
        go_wp2
        go_roundw
        case rel => exact ⟨k + 1, by omega, by go_num, by rw [HM.out], S1⟩
        case measure => simp [intOf]; omega
      · have S1 : Hid (RnS w cs (w.heap.size + 2) 3 (k + 1) wo) := Lib.hid ⟨hS.out.be, hS.out.bc, hS.out.br, by rw [renTo_old hn]; exact hS.out.ow⟩
        have HM : Hid (((renTo cs (k + 1)).2 : Int) = ((renTo cs k).2 : Int)) := Lib.hid (by rw [renTo_old hn])
        rw [hX] at hn
        simp only [app, Int.toNat_natCast] at hn
        obtain ⟨y, hy⟩ : ∃ y, nth (renTo cs k).1 X = y := ⟨_, rfl⟩
        rw [hy] at z2 hn
        obtain ⟨M, hM⟩ : ∃ M, (renTo cs k).2 = M := ⟨_, rfl⟩
        rw [hM] at HM hfew ⊢
        have hd : decide (y < 0) = false := by simpa using hn
        clear hX hn hy hM hS
        go_wp2
        go_roundw
        case rel => exact ⟨k + 1, by omega, by go_num, by rw [HM.out], S1⟩
        case measure => simp [intOf]; omega
    · obtain rfl : k = n := by omega
      have q := hS.out.bc
      rw [HF.out] at q
      have s0 := q.cell 0
      have s1 := q.cell 1
      have s2 := q.cell 2
      have s3 := q.cell 3
      have s4 := q.cell 4
      simp at s0 s1 s2 s3 s4
      have HI := Lib.hid (Ints.of_own hS.out.ow (by rw [renTo_len]; unfold maxLen; omega))
      obtain ⟨y0, y1, y2, y3, y4, h6⟩ := five_letters (ren cs)
      have H6 := Lib.hid h6
      have HRN : Hid (thn cs (renTo cs k).1 = ren cs) := Lib.hid (by unfold ren; rw [HL.out])
      clear q h6
      go_wp2_with fail
      refine (ipn_any k _ (renTo cs k).1 cs x0 x1 x2 x3 x4 wo HI.out HL.out h5 HF.out (fun j hj => by obtain ⟨X, hX, h3⟩ := HX.out j hj; rw [renTo_len]; omega)).mono ?_
      rintro e w1 ⟨he, hbw⟩
      rw [HRN.out, H6.out] at he
      subst he
      have q := hS.out.br.on hbw
      have r0 := q.cell 0
      have r1 := q.cell 1
      have r2 := q.cell 2
      have r3 := q.cell 3
      have r4 := q.cell 4
      simp [five, nth] at r0 r1 r2 r3 r4
      have f0 := q.frozen 0
      have f1 := q.frozen 1
      have f2 := q.frozen 2
      have f3 := q.frozen 3
      have f4 := q.frozen 4
      have BB := Lib.hid (Below.on hS.out.be hbw)
      clear q hbw s0 s1 s2 s3 s4 hS
      go_wp2
      refine bodyPost_ret (v := .agg #[.int .i64 y0, .int .i64 y1, .int .i64 y2, .int .i64 y3, .int .i64 y4]) ?_ rfl ?_
      · simp [results, Tryd.results77, go_sem, r0, r1, r2, r3, r4]
      · exact ⟨by rw [H6.out], below_set5 BB.out (by omega)⟩

/-! ### BestCheat -/
def BcPost (p : Int) (es : List Int) (w : World) (e : Ending) (w' : World) : Prop := ∃ v, e = .returned (.tuple #[v, .int .i64 (bstB p es).2]) ∧ Own w' w.heap.size v (bstB p es).1 ∧ Below w.heap.size w w'
/-- Between two rounds. -/
structure BcS (w : World) (P : List Value) (N : Nat) (lv : Value) (L : List (List Int)) (b : List Int) (wr : World) : Prop where
  be : Below w.heap.size w wr
  b1 : Box wr w.heap.size P
  bb : Box wr N (five b)
  ol : OwnC wr (N + 1) lv L
  hN : w.heap.size < N
theorem BcS.on {w : World} {P : List Value} {N : Nat} {lv : Value} {L : List (List Int)} {b : List Int} {wr w3 : World} (h : BcS w P N lv L b wr) (hb : Below wr.heap.size wr w3) : BcS w P N lv L b w3 := ⟨Below.on h.be hb, h.b1.on hb, h.bb.on hb, ownC_below h.ol hb, h.hN⟩
theorem BcS.put {w : World} {P : List Value} {N : Nat} {lv : Value} {L : List (List Int)} {b c : List Int} {wr : World} {x0 x1 x2 x3 x4 : Int} (h : BcS w P N lv L b wr) (hc : five c = [.int .i64 x0, .int .i64 x1, .int .i64 x2, .int .i64 x3, .int .i64 x4]) :
    BcS w P N lv L c (((((wr.setCell ⟨N, 0, none⟩ (.int .i64 x0)).setCell ⟨N, 1, none⟩ (.int .i64 x1)).setCell ⟨N, 2, none⟩ (.int .i64 x2)).setCell ⟨N, 3, none⟩ (.int .i64 x3)).setCell ⟨N, 4, none⟩ (.int .i64 x4)) := by
  have hN := h.hN
  refine ⟨below_set5 h.be (by omega), ((((h.b1.far (by omega) _).far (by omega) _).far (by omega) _).far (by omega) _).far (by omega) _, by rw [hc]; exact h.bb.set5, ownC_heap h.ol fun k hk => ?_, h.hN⟩
  have hne : k ≠ N := by have := (h.ol.lt k hk).1; omega
  rw [Below.heap_setCell _ _ _ _ hne, Below.heap_setCell _ _ _ _ hne, Below.heap_setCell _ _ _ _ hne, Below.heap_setCell _ _ _ _ hne, Below.heap_setCell _ _ _ _ hne]
/-- What the best ones so far are. -/
def BcI (es : List Int) (L : List (List Int)) (k : Nat) (b : List Int) (F : Int) : Prop := (k = 0 ∧ b = [] ∧ F = (es.length : Int) + 1) ∨ (0 < k ∧ b = (bstTo (nfl es) L k).1 ∧ F = (bstTo (nfl es) L k).2)
theorem BcI.skip {es : List Int} {L : List (List Int)} {k j : Nat} {b : List Int} {F : Int} (h : BcI es L k b F) (hj : j < k) (e : nfl es (row L j) = nfl es (row L k)) : BcI es L (k + 1) b F := by
  rcases h with ⟨h0, _⟩ | ⟨_, h1, h2⟩
  · omega
  · exact .inr ⟨by omega, by rw [bstTo_skip hj e]; exact h1, by rw [bstTo_skip hj e]; exact h2⟩
theorem BcI.take {es : List Int} {L : List (List Int)} {k : Nat} {b : List Int} {F : Int} (h : BcI es L k b F) (hf : (nfl es (row L k) : Int) < F) : BcI es L (k + 1) (row L k) (nfl es (row L k) : Int) := by
  rcases h with ⟨rfl, _, _⟩ | ⟨h0, h1, h2⟩
  · exact .inr ⟨by omega, by rw [bstTo_take (.inl (by simp [bstTo]))], by rw [bstTo_take (.inl (by simp [bstTo]))]⟩
  · exact .inr ⟨by omega, by rw [bstTo_take (.inr (by rw [← h2]; exact hf))], by rw [bstTo_take (.inr (by rw [← h2]; exact hf))]⟩
theorem BcI.keep {es : List Int} {L : List (List Int)} {k : Nat} {b : List Int} {F : Int} (h : BcI es L k b F) (hf : ¬ (nfl es (row L k) : Int) < F) : BcI es L (k + 1) b F := by
  rcases h with ⟨rfl, _, h2⟩ | ⟨h0, h1, h2⟩
  · exfalso
    have : nfl es (row L 0) ≤ es.length := fls_len _ _
    omega
  · have hge := (bstTo_bst (nfl es) L k h0).ge
    have : ¬ ((bstTo (nfl es) L k).2 < 0 ∨ (nfl es (row L k) : Int) < (bstTo (nfl es) L k).2) := by rw [← h2] at hge ⊢; omega
    exact .inr ⟨by omega, by rw [bstTo_keep this]; exact h1, by rw [bstTo_keep this]; exact h2⟩

set_option maxRecDepth 20000 in
set_option maxHeartbeats 6400000 in
theorem ibc_any (p : Int) (v : Value) (es : List Int) (w : World) (h : Ints w v es) (hs : ∀ j, j < es.length → intIn (nth es j)) : Calls Tryd.prog 40 #[.agg #[.int .i64 p, v]] w (BcPost p es w) := by
  obtain ⟨ga, gc, rfl, h1⟩ := h.opened
  have hgm := h1.max
  obtain ⟨gn, hgn⟩ : ∃ gn, es.length = gn := ⟨_, rfl⟩
  have HGN := Lib.hid hgn
  rw [hgn] at h hgm ⊢
  unfold maxLen at hgm
  clear h1
  have b0 := Box.made w [.int .i64 p, .slice ga gn gc] 25
  have bl := below_grow w (.cells #[.int .i64 p, .slice ga gn gc] 25)
  have HG := Lib.hid (show ∀ w', Below w.heap.size w w' → Ints w' (.slice ga gn gc) es from fun w' hb => h.below hb)
  have HS := Lib.hid hs
  have a0 := b0.cell 0
  have a1 := b0.cell 1
  simp at a0 a1
  have B0 := Lib.hid b0
  have BL := Lib.hid bl
  clear h hs b0 bl hgn
  cases hf : gkB p es
  · have HX := Lib.hid (bstB_no hf)
    have HF := Lib.hid hf
    clear hf
    go_enter Tryd.func40, Tryd.ntmps40
    go_wp2_with fail
    refine (igk_is HF.out (HG.out _ BL.out) HS.out).mono ?_
    rintro e w1 ⟨rfl, hb⟩
    have B1 := Lib.hid (Below.on BL.out hb)
    clear hb a0 a1
    go_wp2
    go_ret2
    exact ⟨_, by rw [HX.out]; rfl, by rw [HX.out]; exact World.ownsRow_nil _ _ _ _, B1.out⟩
  have HF := Lib.hid hf
  have hgk := gkB_true.1 hf
  have HGK := Lib.hid hgk
  obtain ⟨m, hm⟩ := Int.eq_ofNat_of_zero_le (show 0 ≤ p by have := hgk.p1; omega)
  subst hm
  have HM5 : Hid (m ≤ 5) := Lib.hid (by have := hgk.p5; omega)
  obtain ⟨L, hL⟩ : ∃ L, lots 3 m = L := ⟨_, rfl⟩
  obtain ⟨n, hn⟩ : ∃ n, L.length = n := ⟨_, rfl⟩
  have h3 : n = 3 ^ m := by rw [← hn, ← hL, lots_len]
  have HX : Hid (bstB m es = bstTo (nfl es) L n) := Lib.hid (by rw [bstB_yes hf]; unfold bst; rw [Int.toNat_natCast, hL, h3])
  have HN0 : Hid (0 < n) := Lib.hid (by rw [h3]; exact pow3 m)
  have HBF := Lib.hid (bst_facts hgk)
  have HBS : Hid (bst m es = bstTo (nfl es) L n) := Lib.hid (by unfold bst; rw [Int.toNat_natCast, hL, h3])
  have HRB := Lib.hid (show ∀ k, k < n → row L k ≠ ren (row L k) → ∃ j, j < k ∧ nfl es (row L j) = nfl es (row L k) from fun k hk hne => by
    have := ren_before hgk (k := k) (by rw [Int.toNat_natCast, ← h3]; exact hk) (by rw [Int.toNat_natCast, hL]; exact hne)
    rwa [Int.toNat_natCast, hL] at this)
  have HCG := Lib.hid (show ∀ w', Calls Tryd.prog 69 #[.int .i64 m] w' (CsPost L w') from fun w' => by rw [← hL]; exact icgs_any m w' HM5.out)
  have HFT := Lib.hid (show ∀ j, j < n → Fit m es (row L j) from fun j hj => (lots_fit hgk).1 (by rw [Int.toNat_natCast, hL]; exact row_mem (by rw [hn]; exact hj)))
  have hn243 : n ≤ 243 := by rw [← hn, ← hL]; exact lots3_len HM5.out
  have HN := Lib.hid hn
  have hgn50 : gn ≤ 50 := by rw [← HGN.out]; exact hgk.few
  clear hf hgk hL hn h3
  go_enter Tryd.func40, Tryd.ntmps40
  go_wp2_with fail
  refine (igk_is HF.out (HG.out _ BL.out) HS.out).mono ?_
  rintro e w1 ⟨rfl, hb⟩
  have B1 := Lib.hid (Below.on BL.out hb)
  have P1 := Lib.hid (B0.out.on hb)
  have hlt1 := P1.out.lt
  have bg := below_grow w1 (.cells #[.int .i64 0, .int .i64 0, .int .i64 0, .int .i64 0, .int .i64 0] 67)
  have BB := Lib.hid (Box.made w1 [.int .i64 0, .int .i64 0, .int .i64 0, .int .i64 0, .int .i64 0] 67)
  have P2 := Lib.hid (P1.out.on bg)
  have B2 := Lib.hid (Below.on B1.out bg)
  have s0 := P2.out.cell 0
  have s1 := P2.out.cell 1
  simp at s0 s1
  have HZ1 : Hid ((w1.alloc (.cells #[.int .i64 0, .int .i64 0, .int .i64 0, .int .i64 0, .int .i64 0] 67)).heap.size = w1.heap.size + 1) := Lib.hid (by simp)
  have HLT := Lib.hid hlt1
  clear hb a0 a1 bg hlt1
  go_wp2_with fail
  refine (HCG.out _).mono ?_
  rintro e w2 ⟨lv, rfl, ol, hb⟩
  rw [HZ1.out] at ol
  obtain ⟨a, c, hv⟩ := ownC_form ol
  rw [HN.out] at hv
  subst hv
  have S0 : Hid (∃ b, BcI es L 0 b ((gn : Int) + 1) ∧ BcS w [.int .i64 m, .slice ga gn gc] w1.heap.size (.slice a n c) L b w2) := Lib.hid
    ⟨[], .inl ⟨rfl, rfl, by rw [HGN.out]⟩, Below.on B2.out hb, P2.out.on hb, BB.out.on hb, ol, HLT.out⟩
  clear hb ol s0 s1
  go_wp2
  go_loopw [5, 20] (fun F i wr => ∃ k : Nat, k ≤ n ∧ i = .int .i64 k ∧ ∃ f : Int, F = .int .i64 f ∧ Hid (∃ b, BcI es L k b f ∧ BcS w [.int .i64 m, .slice ga gn gc] w1.heap.size (.slice a n c) L b wr)) (fun _ i _ => n - (intOf i).toNat)
  case atStart => exact ⟨0, by omega, rfl, _, rfl, S0⟩
  case round =>
    obtain ⟨k, hk, rfl, f, rfl, hT⟩ := hrel
    obtain ⟨wo, rfl⟩ : ∃ wo : World, wo = wr := ⟨_, rfl⟩
    clear S0
    obtain ⟨b, hI, hS⟩ := hT.out
    have HI := Lib.hid hI
    have HT := Lib.hid hS
    clear hT hI hS
    by_cases hlt : k < n
    · obtain ⟨G, cap, eG, _⟩ := ownC_some HT.out.ol (by rw [HN.out]; omega)
      rw [HN.out] at eG
      have hc : ∀ i, i < 5 → wo.cell? ⟨G, k * 5 + i, none⟩ = some (.int .i64 (nth (row L k) i)) := fun i hi => by
        have := HT.out.ol
        rw [eG] at this
        exact ownC_at this HN.out hlt hi
      obtain ⟨rfl, rfl⟩ : a = some ⟨G, 0, none⟩ ∧ c = cap := by cases eG; exact ⟨rfl, rfl⟩
      have c0 := hc 0 (by omega)
      have c1 := hc 1 (by omega)
      have c2 := hc 2 (by omega)
      have c3 := hc 3 (by omega)
      have c4 := hc 4 (by omega)
      obtain ⟨x0, x1, x2, x3, x4, h5'⟩ := five_letters (row L k)
      have e0 := congrArg (fun l => l[0]?) h5'
      have e1 := congrArg (fun l => l[1]?) h5'
      have e2 := congrArg (fun l => l[2]?) h5'
      have e3 := congrArg (fun l => l[3]?) h5'
      have e4 := congrArg (fun l => l[4]?) h5'
      simp [five] at e0 e1 e2 e3 e4
      rw [e0] at c0
      rw [e1] at c1
      rw [e2] at c2
      rw [e3] at c3
      rw [e4] at c4
      simp only [Nat.add_zero] at c0
      have H5 := Lib.hid h5'
      obtain ⟨y0, y1, y2, y3, y4, h6⟩ := five_letters (ren (row L k))
      have H6 := Lib.hid h6
      have BC := Lib.hid (Box.made wo [.int .i64 x0, .int .i64 x1, .int .i64 x2, .int .i64 x3, .int .i64 x4] 67)
      have T1 := Lib.hid (HT.out.on (below_grow wo (.cells #[.int .i64 x0, .int .i64 x1, .int .i64 x2, .int .i64 x3, .int .i64 x4] 67)))
      have HRL : Hid ((row L k).length = m) := Lib.hid (by have := (HFT.out k hlt).len; omega)
      have HRF := Lib.hid (HFT.out k hlt).bd
      have HNE := Lib.hid (five_same (c := row L k) (d := ren (row L k)) (by rw [HRL.out]; exact HM5.out) (by unfold ren; rw [thn_len]) h5' h6)
      have hlt1 : (k : Int) < (n : Int) := by omega
      clear hc h5' h6 e0 e1 e2 e3 e4 eG HT
      go_upto_region 8 with (fail)
      clear c0 c1 c2 c3 c4
      generalize hw3 : wo.alloc (.cells #[.int .i64 x0, .int .i64 x1, .int .i64 x2, .int .i64 x3, .int .i64 x4] 67) = w3 at *
      generalize hNN : wo.heap.size = NC at *
      clear hw3
      have HBD : Hid (Below w3.heap.size w3 w3.drew) := Lib.hid (Below.refl _ _).drew
      cases hsv : decide (row L k = ren (row L k))
      · have HV := Lib.hid hsv
        have HNV := Lib.hid (HNE.out.trans hsv)
        clear hsv
        go_wp2_with fail
        refine wp_region_cls (C := fun w' => Hid (Below w3.heap.size w3 w')) (by kernel_rfl) (by kernel_rfl) HBD ?_
        go_big_quiet_want
        go_big_quiet_op
        refine ⟨.agg #[.int .i64 x0, .int .i64 x1, .int .i64 x2, .int .i64 x3, .int .i64 x4], fun w' hw' => ?_, ?_⟩
        · have q := BC.out.on hw'.out
          have q0 := q.cell 0
          have q1 := q.cell 1
          have q2 := q.cell 2
          have q3 := q.cell 3
          have q4 := q.cell 4
          simp at q0 q1 q2 q3 q4
          simp [go_sem, q0, q1, q2, q3, q4]
        go_big_quiet_on
        go_big_quiet_want
        go_big_quiet_op
        refine ⟨.agg #[.int .i64 x0, .int .i64 x1, .int .i64 x2, .int .i64 x3, .int .i64 x4], fun w' hw' => ?_, ?_⟩
        · have q := BC.out.on hw'.out
          have q0 := q.cell 0
          have q1 := q.cell 1
          have q2 := q.cell 2
          have q3 := q.cell 3
          have q4 := q.cell 4
          simp at q0 q1 q2 q3 q4
          simp [go_sem, q0, q1, q2, q3, q4]
        go_big_quiet_on
        go_big_quiet_want; go_big_quiet_op; first | go_big_quiet_on | (refine ⟨_, fun _ _ => rfl, ?_⟩; go_big_quiet_on)
        go_big_quiet_want
        go_big_quiet_op
        refine ⟨.int .i64 m, fun w' hw' => ?_, ?_⟩
        · have q := T1.out.b1.on hw'.out
          have q0 := q.cell 0
          simp at q0
          simp [go_sem, q0]
        go_big_quiet_on
        go_big_quiet_want; go_big_quiet_op
        go_big_quiet_call ((intro hw; exact (irn_any m (row L k) x0 x1 x2 x3 x4 _ HRL.out HM5.out H5.out (fun j hj => HRF.out j (by rw [HRL.out]; exact hj))).mono fun _ _ ⟨he, hb⟩ => ⟨show _ = Ending.returned (.agg #[.int .i64 y0, .int .i64 y1, .int .i64 y2, .int .i64 y3, .int .i64 y4]) by rw [he, H6.out], Lib.hid (Below.on hw.out hb)⟩))
        go_big_quiet_want
        go_big_quiet_op
        refine ⟨.bool true, fun w' _ => ?_, ?_⟩
        · simp [go_sem, run_equal_col, HNV.out]
        go_big_quiet_on
        refine wpQuiet_nil ?_
        intro w4 hw4
        have T4 := Lib.hid (T1.out.on hw4.out)
        have C4 := Lib.hid (BC.out.on hw4.out)
        clear hw4 HBD T1 BC
        obtain ⟨j, hj, ej⟩ := HRB.out k hlt (by simpa using HV.out)
        have SN : Hid (∃ b, BcI es L (k + 1) b f ∧ BcS w [.int .i64 m, .slice ga gn gc] w1.heap.size (.slice (some ⟨G, 0, none⟩) n c) L b w4) := Lib.hid ⟨b, HI.out.skip hj ej, T4.out⟩
        clear hj ej
        go_wp2
        go_roundw
        case rel => exact ⟨k + 1, by omega, by go_num, f, rfl, SN⟩
        case measure => simp [intOf]; omega
      · have HV := Lib.hid hsv
        have HNV := Lib.hid (HNE.out.trans hsv)
        clear hsv
        go_wp2_with fail
        refine wp_region_cls (C := fun w' => Hid (Below w3.heap.size w3 w')) (by kernel_rfl) (by kernel_rfl) HBD ?_
        go_big_quiet_want
        go_big_quiet_op
        refine ⟨.agg #[.int .i64 x0, .int .i64 x1, .int .i64 x2, .int .i64 x3, .int .i64 x4], fun w' hw' => ?_, ?_⟩
        · have q := BC.out.on hw'.out
          have q0 := q.cell 0
          have q1 := q.cell 1
          have q2 := q.cell 2
          have q3 := q.cell 3
          have q4 := q.cell 4
          simp at q0 q1 q2 q3 q4
          simp [go_sem, q0, q1, q2, q3, q4]
        go_big_quiet_on
        go_big_quiet_want
        go_big_quiet_op
        refine ⟨.agg #[.int .i64 x0, .int .i64 x1, .int .i64 x2, .int .i64 x3, .int .i64 x4], fun w' hw' => ?_, ?_⟩
        · have q := BC.out.on hw'.out
          have q0 := q.cell 0
          have q1 := q.cell 1
          have q2 := q.cell 2
          have q3 := q.cell 3
          have q4 := q.cell 4
          simp at q0 q1 q2 q3 q4
          simp [go_sem, q0, q1, q2, q3, q4]
        go_big_quiet_on
        go_big_quiet_want; go_big_quiet_op; first | go_big_quiet_on | (refine ⟨_, fun _ _ => rfl, ?_⟩; go_big_quiet_on)
        go_big_quiet_want
        go_big_quiet_op
        refine ⟨.int .i64 m, fun w' hw' => ?_, ?_⟩
        · have q := T1.out.b1.on hw'.out
          have q0 := q.cell 0
          simp at q0
          simp [go_sem, q0]
        go_big_quiet_on
        go_big_quiet_want; go_big_quiet_op
        go_big_quiet_call ((intro hw; exact (irn_any m (row L k) x0 x1 x2 x3 x4 _ HRL.out HM5.out H5.out (fun j hj => HRF.out j (by rw [HRL.out]; exact hj))).mono fun _ _ ⟨he, hb⟩ => ⟨show _ = Ending.returned (.agg #[.int .i64 y0, .int .i64 y1, .int .i64 y2, .int .i64 y3, .int .i64 y4]) by rw [he, H6.out], Lib.hid (Below.on hw.out hb)⟩))
        go_big_quiet_want
        go_big_quiet_op
        refine ⟨.bool false, fun w' _ => ?_, ?_⟩
        · simp [go_sem, run_equal_col, HNV.out]
        go_big_quiet_on
        refine wpQuiet_nil ?_
        intro w4 hw4
        have T4 := Lib.hid (T1.out.on hw4.out)
        have C4 := Lib.hid (BC.out.on hw4.out)
        clear hw4 HBD T1 BC
        have q := C4.out
        have q0 := q.cell 0
        have q1 := q.cell 1
        have q2 := q.cell 2
        have q3 := q.cell 3
        have q4 := q.cell 4
        simp at q0 q1 q2 q3 q4
        have p0 := T4.out.b1.cell 0
        have p1 := T4.out.b1.cell 1
        simp at p0 p1
        clear q
        go_wp2_with fail
        refine (ifl_any m (.slice ga gn gc) es (row L k) x0 x1 x2 x3 x4 _ (HG.out _ T4.out.be) HGK.out H5.out).mono ?_
        rintro e w5 ⟨fv, rfl, of, hb⟩
        obtain ⟨fa, fc, hfv⟩ := Own.form of
        subst hfv
        have T5 := Lib.hid (T4.out.on hb)
        have C5 := Lib.hid (C4.out.on hb)
        obtain ⟨z, hz⟩ : ∃ z, (fls (row L k) es).length = z := ⟨_, rfl⟩
        have HZ : Hid (nfl es (row L k) = z) := Lib.hid hz
        rw [hz]
        clear of hb hz q0 q1 q2 q3 q4 p0 p1 T4 C4
        by_cases hzf : (z : Int) < f
        · have SN : Hid (∃ b, BcI es L (k + 1) b z ∧ BcS w [.int .i64 m, .slice ga gn gc] w1.heap.size (.slice (some ⟨G, 0, none⟩) n c) L b (((((w5.setCell ⟨w1.heap.size, 0, none⟩ (.int .i64 x0)).setCell ⟨w1.heap.size, 1, none⟩ (.int .i64 x1)).setCell ⟨w1.heap.size, 2, none⟩ (.int .i64 x2)).setCell ⟨w1.heap.size, 3, none⟩ (.int .i64 x3)).setCell ⟨w1.heap.size, 4, none⟩ (.int .i64 x4))) := Lib.hid
            ⟨row L k, by have := HI.out.take (by rw [HZ.out]; exact hzf); rwa [HZ.out] at this, T5.out.put H5.out⟩
          have hd : decide ((z : Int) < f) = true := by simpa using hzf
          have q := C5.out
          have q0 := q.cell 0
          have q1 := q.cell 1
          have q2 := q.cell 2
          have q3 := q.cell 3
          have q4 := q.cell 4
          simp at q0 q1 q2 q3 q4
          have qb := T5.out.bb
          obtain ⟨b0, b1, b2, b3, b4, h7⟩ := five_letters b
          rw [h7] at qb
          have r0 := qb.cell 0
          have r1 := qb.cell 1
          have r2 := qb.cell 2
          have r3 := qb.cell 3
          have r4 := qb.cell 4
          simp at r0 r1 r2 r3 r4
          have f0 := qb.frozen 0
          have f1 := qb.frozen 1
          have f2 := qb.frozen 2
          have f3 := qb.frozen 3
          have f4 := qb.frozen 4
          clear q qb h7
          go_wp2
          go_roundw
          case rel => exact ⟨k + 1, by omega, by go_num, z, rfl, SN⟩
          case measure => simp [intOf]; omega
        · have SN : Hid (∃ b, BcI es L (k + 1) b f ∧ BcS w [.int .i64 m, .slice ga gn gc] w1.heap.size (.slice (some ⟨G, 0, none⟩) n c) L b w5) := Lib.hid
            ⟨b, HI.out.keep (by rw [HZ.out]; exact hzf), T5.out⟩
          have hd : decide ((z : Int) < f) = false := by simpa using hzf
          go_wp2
          go_roundw
          case rel => exact ⟨k + 1, by omega, by go_num, f, rfl, SN⟩
          case measure => simp [intOf]; omega
    · obtain rfl : k = n := by omega
      have HB : Hid (b = (bst m es).1 ∧ f = (bst m es).2) := Lib.hid (by
        rcases HI.out with ⟨h0, _⟩ | ⟨_, h1, h2⟩
        · have := HN0.out; omega
        · rw [HBS.out]; exact ⟨h1, h2⟩)
      have HBL : Hid (b.length = m) := Lib.hid (by have := HBF.out.fit.len; rw [← HB.out.1] at this; omega)
      obtain ⟨x0, x1, x2, x3, x4, h5'⟩ := five_letters b
      have H5 := Lib.hid h5'
      have q := HT.out.bb
      rw [h5'] at q
      have q0 := q.cell 0
      have q1 := q.cell 1
      have q2 := q.cell 2
      have q3 := q.cell 3
      have q4 := q.cell 4
      simp at q0 q1 q2 q3 q4
      have p0 := HT.out.b1.cell 0
      simp at p0
      clear q h5'
      go_wp2_with fail
      refine (icin_any m b x0 x1 x2 x3 x4 wo HBL.out HM5.out H5.out).mono ?_
      rintro e w5 ⟨rv, rfl, orr, hb⟩
      have OR := Lib.hid (own_mono orr HT.out.be.size)
      have BR := Lib.hid (Below.on HT.out.be hb)
      clear orr hb q0 q1 q2 q3 q4 p0
      go_wp2
      go_ret2
      exact ⟨_, by rw [HX.out, ← HBS.out, ← HB.out.2]; rfl, by rw [HX.out, ← HBS.out, ← HB.out.1]; exact OR.out, BR.out⟩
end Go.Proofs.YtimkmdedoacpfabDoor
