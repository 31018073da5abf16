/- Draws: l20Table, l20Any, and those of chapter 6. -/
import Derived.Test.YtndknjjafoebhabDoorTabI
import Derived.Test.YtndknjjafoebhabDoorNumI
import Derived.Test.YtndknjjafoebhabDoorBDraw
namespace Go.Proofs.YtndknjjafoebhabDoor
open Go.RowKit

theorem own_pick {wr w' : World} {R B : Nat} {v : Value} {xs : List Int} (h : Own wr B v xs) (hR : R < B) (hg : wr.grownBy w' (some R)) : Own w' B v xs :=
  own_heap h fun q hq => hg.block q (h.lt q hq).2 fun e => by cases e; have := (h.lt _ hq).1; omega
theorem ownSS_pick {wr w' : World} {R lo hi : Nat} {v : Value} {us : List Value} {xss : List (List Int)} (h : OwnSS wr lo hi v us xss) (hR : R < lo) (hh : hi ≤ wr.heap.size) (hg : wr.grownBy w' (some R)) : OwnSS w' lo hi v us xss :=
  h.heap fun q h1 h2 => hg.block q (by omega) fun e => by cases e; omega
theorem grown_far {w wr w' : World} {R : Nat} {r : Option Nat} (hgr : w.grownBy wr (some R)) (hg : wr.grownBy w' r) (hlo : ∀ b, r = some b → w.heap.size ≤ b) : w.grownBy w' (some R) :=
  ⟨hg.os.trans hgr.os, hg.tape.trans hgr.tape, hg.output.trans hgr.output, Nat.le_trans hgr.size hg.size, fun q a b => (hg.block q (Nat.lt_of_lt_of_le a hgr.size) fun e => by have := hlo q e.symm; omega).trans (hgr.block q a b)⟩
theorem rd_far {wr w' : World} {R k : Nat} {r : Option Nat} (h : Rd wr R k) (hg : wr.grownBy w' r) (hlo : ∀ b, r = some b → R < b) : Rd w' R k := by
  have hb : ∀ q, q ≤ R → w'.heap[q]? = wr.heap[q]? := fun q hq => hg.block q (Nat.lt_of_le_of_lt hq h.lt) fun e => by have := hlo q e.symm; omega
  have hc : ∀ b o, b ≤ R → w'.cell? ⟨b, o, none⟩ = wr.cell? ⟨b, o, none⟩ := fun b o hbR => by simp only [World.cell?, hb b hbR]
  exact h.of_same (hc R 0 (Nat.le_refl _)) ((hc R 1 (Nat.le_refl _)).trans h.pos) (by have := h.free; simp only [World.frozen?, hb R (Nat.le_refl _)] at this ⊢; exact this) hg.size (fun b o hbR => hc b o (Nat.le_of_lt hbR))

/-- A row under way: the reader, and a list of the call's own, in blocks behind the world wj. -/
structure Rw (wj : World) (R : Nat) (wr : World) (k : Nat) (x : Value) (ys : List Int) : Prop where
  rd : Rd wr R k
  gr : wj.grownBy wr (some R)
  ow : Own wr wj.heap.size x ys
  rl : R < wj.heap.size
theorem Rw.draw {wj wr w' : World} {R k k' : Nat} {x : Value} {ys : List Int} (h : Rw wj R wr k x ys) (hg : wr.grownBy w' (some R)) (hr : Rd w' R k') : Rw wj R w' k' x ys := ⟨hr, grown_trans h.gr hg, own_pick h.ow h.rl hg, h.rl⟩
theorem Rw.app {wj wr w' : World} {R k : Nat} {x x' : Value} {ys zs : List Int} (h : Rw wj R wr k x ys) (ho : Own w' wj.heap.size x' zs) (hg : wr.grownBy w' x.ownBlock) : Rw wj R w' k x' zs :=
  ⟨rd_far h.rd hg fun b hb => Nat.lt_of_lt_of_le h.rl (h.ow.lt b hb).1, grown_far h.gr hg fun b hb => (h.ow.lt b hb).1, ho, h.rl⟩
/-- A table under way. -/
structure Tz (w : World) (R : Nat) (wr : World) (k : Nat) (v : Value) (us : List Value) (t : List (List Int)) : Prop where
  rd : Rd wr R k
  gr : w.grownBy wr (some R)
  o : OwnSS wr w.heap.size wr.heap.size v us t
  rl : R < w.heap.size
  rs : ∀ j, j < t.length → (row t j).length ≤ 9
theorem Tz.draw {w wr w' : World} {R k k' : Nat} {v : Value} {us : List Value} {t : List (List Int)} (h : Tz w R wr k v us t) (hg : wr.grownBy w' (some R)) (hr : Rd w' R k') : Tz w R w' k' v us t :=
  ⟨hr, grown_trans h.gr hg, (ownSS_pick h.o h.rl (Nat.le_refl _) hg).wider hg.size, h.rl, h.rs⟩
theorem Tz.start {w wr : World} {R k : Nat} {v : Value} {us : List Value} {t : List (List Int)} (h : Tz w R wr k v us t) : Rw wr R (wr.alloc (.cells #[] 3)) k (.slice (some ⟨wr.heap.size, 0, none⟩) 0 0) [] :=
  ⟨h.rd.below (below_grow _ _), grown_below R (below_grow _ _), own_made' wr, h.rd.lt⟩
theorem Tz.more {w wj w2 w4 : World} {R k k' : Nat} {v v' x : Value} {us : List Value} {t : List (List Int)} {ys : List Int} (h : Tz w R wj k v us t) (hr : Rw wj R w2 k' x ys) (hl : ys.length ≤ 9)
    (ho : w4.ownsRow w.heap.size 32 1 v' (us ++ [x]).length (us ++ [x])) (hg : w2.grownBy w4 v.ownBlock) (hk : v'.ownBlock = v.ownBlock ∨ ∃ k, v'.ownBlock = some k ∧ w2.heap.size ≤ k) : Tz w R w4 k' v' (us ++ [x]) (t ++ [ys]) := by
  have h2 := ownSS_pick h.o h.rl (Nat.le_refl _) hr.gr
  have hlo : ∀ b, v.ownBlock = some b → w.heap.size ≤ b := fun b hb => (h.o.outer.lt b hb).1
  refine ⟨rd_far hr.rd hg fun b hb => Nat.lt_of_lt_of_le h.rl (hlo b hb), grown_far (grown_trans h.gr hr.gr) hg hlo, ?_, h.rl, fun j hj => ?_⟩
  · exact OwnSS.app h2 (Nat.le_trans hr.gr.size hg.size) hg.size (Nat.le_refl _) (own_mono hr.ow h.gr.size) (fun j hj b h1 h3 => by have := h.o.his j hj b h1; have := (hr.ow.lt b h3).1; omega)
      (fun b h1 h3 => by have := h.o.hi0 b h3; have := (hr.ow.lt b h1).1; omega) ho hg hk
  · by_cases e : j < t.length
    · rw [row_app e]; exact h.rs j e
    · simp at hj
      obtain rfl : j = t.length := by omega
      rw [row_last]; exact hl
/-- The first entry of the first row written anew. -/
theorem Tz.set {w wr : World} {R k : Nat} {v : Value} {us : List Value} {t : List (List Int)} (h : Tz w R wr k v us t) (h1 : 0 < t.length) (h2 : 0 < (row t 0).length) (y : Int) :
    ∃ g c G n C, v = .slice (some ⟨g, 0, none⟩) t.length c ∧ wr.cell? ⟨g, 0, none⟩ = some (.slice (some ⟨G, 0, none⟩) n C) ∧ 0 < n ∧ wr.frozen? ⟨G, 0, none⟩ = false ∧ (∃ z, wr.cell? ⟨G, 0, none⟩ = some (.int .i64 z)) ∧
      ∃ t', t'.length = t.length ∧ Tz w R (wr.setCell ⟨G, 0, none⟩ (.int .i64 y)) k v us t' := by
  have hu : 0 < us.length := by rw [h.o.len]; exact h1
  obtain ⟨a, c, e, hcell⟩ := outer_cell h.o.outer
  obtain ⟨g, rfl, _, hc⟩ := hcell 0 hu
  have hr := h.o.rows 0 hu
  rcases id hr.2 with ⟨_, h0⟩ | ⟨G, C, cur, e2, _⟩
  · rw [h0] at h2; omega
  have hr' : Own wr w.heap.size (.slice (some ⟨G, 0, none⟩) (row t 0).length C) (row t 0) := by rw [← e2]; exact hr
  obtain ⟨⟨f1, f2⟩, s1, s2⟩ := Own.set (k := 0) hr' rfl h2 y
  have hGl := (hr'.lt G rfl).1
  have hob : (val us 0).ownBlock = some G := by rw [e2]; rfl
  have hs := h.o.set (w' := wr.setCell ⟨G, 0, none⟩ (.int .i64 y)) (ys := (row t 0).set 0 y) hu (by rw [e2]; exact s1) (by rw [hob]; exact s2)
  have hsz : (wr.setCell ⟨G, 0, none⟩ (.int .i64 y)).heap.size = wr.heap.size := by simp [World.setCell]
  refine ⟨g, c, G, (row t 0).length, C, by rw [e, h.o.len], by rw [hc, e2], h2, f1, ⟨_, f2⟩, t.set 0 ((row t 0).set 0 y), List.length_set, rd_far h.rd s2 (fun b hb => by cases hb; have := h.rl; omega), grown_far h.gr s2 (fun b hb => by cases hb; exact hGl), by rw [hsz]; exact hs, h.rl, fun j hj => ?_⟩
  rw [List.length_set] at hj
  by_cases e0 : 0 = j
  · subst e0; rw [row_set hj, List.length_set]; exact h.rs 0 hj
  · rw [row_set_ne e0]; exact h.rs j hj
def cappedB (v : Value) : Prop := ∃ a n c, v = .slice a n c ∧ n ≤ c
theorem cap_row {w : World} {B m n : Nat} {T : TypeId} {v : Value} {us : List Value} (h : w.ownsRow B T m v n us) : cappedB v := by
  rcases h.2 with ⟨e, _⟩ | ⟨g, cap, cur, e, _, _, hn, _⟩
  · exact ⟨none, 0, 0, e, Nat.le_refl _⟩
  · exact ⟨_, _, _, e, hn⟩
/-- A table, or what is none, was drawn. -/
def TabPost (R k d : Nat) (w : World) (e : Ending) (w' : World) : Prop :=
  ∃ v us t, e = .returned v ∧ t.length ≤ 14 ∧ ∃ k', k' ≤ k + d ∧ Tz w R w' k' v us t
theorem Tz.empty {w wr : World} {R k : Nat} {v : Value} {us : List Value} {t : List (List Int)} (h : Tz w R wr k v us t) : Tz w R (wr.alloc (.cells #[] 32)) k (.slice (some ⟨wr.heap.size, 0, none⟩) 0 0) [] [] := by
  have ho := World.ownsRow_lit (base := wr.heap.size) (e := 32) (size := 1) wr #[] 0 (Nat.le_refl _) (by decide) rfl
  refine ⟨h.rd.below (below_grow _ _), grown_trans h.gr (grown_below R (below_grow _ _)), ?_, h.rl, fun j hj => by simp at hj⟩
  exact OwnSS.lower (lo := wr.heap.size) ⟨ho, rfl, fun k hk => (ho.lt k hk).2, fun j hj => by simp at hj, fun j hj => by simp at hj, fun i j _ hj => by simp at hj, fun j hj => by simp at hj⟩ h.gr.size
theorem Tz.first {w : World} {R k : Nat} (h : Rd w R k) : Tz w R (w.alloc (.cells #[] 32)) k (.slice (some ⟨w.heap.size, 0, none⟩) 0 0) [] [] := by
  have ho := World.ownsRow_lit (base := w.heap.size) (e := 32) (size := 1) w #[] 0 (Nat.le_refl _) (by decide) rfl
  exact ⟨h.below (below_grow _ _), grown_below R (below_grow _ _), ⟨ho, rfl, fun k hk => (ho.lt k hk).2, fun j hj => by simp at hj, fun j hj => by simp at hj, fun i j _ hj => by simp at hj, fun j hj => by simp at hj⟩, h.lt, fun j hj => by simp at hj⟩

set_option maxHeartbeats 6400000 in
theorem table_any (R k : Nat) (rows asks : Nat) (n : Int) (w : World) (h : Rd w R k) (hk : k ≤ 80000) (r1 : 1 ≤ rows) (r2 : rows ≤ 13) (a1 : 1 ≤ asks) (a2 : asks ≤ 9) (n1 : 1 ≤ n) (n2 : n ≤ 1000) :
    Calls Tryd.prog 9 #[.pointer (some ⟨R, 0, none⟩), .int .i64 rows, .int .i64 asks, .int .i64 n] w (TabPost R k 140 w) := by
  have T0 := Lib.hid (Tz.first h)
  clear h
  go_enter Tryd.func9, Tryd.ntmps9
  go_wp2_with fail
  refine (pick_any _ _ 4 _ T0.out.rd (by omega)).mono ?_
  rintro e w1 ⟨c, rfl, c0, c1, m, hw⟩
  have hp : (w.alloc (.cells #[] 32)).grownBy w1 (some R) := by rw [hw]; exact grown_pick _ _ _ _
  have hq : Rd w1 R (k + 1) := by rw [hw]; exact Rd.next T0.out.rd m
  have c2 := c1 (by omega)
  have T1 := Lib.hid (T0.out.draw hp hq)
  clear hp hq hw c1 T0
  go_wp2
  go_loopw [9, 11] (fun x i wr => ∃ q : Nat, q ≤ rows ∧ i = .int .i64 q ∧ Hid (∃ p us t, p ≤ k + 1 + 10 * q ∧ t.length = q ∧ (0 < q → (row t 0).length = asks) ∧ Tz w R wr p x us t)) (fun _ i _ => rows - (intOf i).toNat)
  case atStart => exact ⟨0, by omega, rfl, Lib.hid ⟨k + 1, _, [], by omega, rfl, fun h => by omega, T1.out⟩⟩
  case round =>
    obtain ⟨q, hq, rfl, hT⟩ := hrel
    obtain ⟨wo, rfl⟩ : ∃ wo : World, wo = wr := ⟨_, rfl⟩
    clear T1
    by_cases hlt : q < rows
    · obtain ⟨p, us, t, hpb, htl, hta, tz⟩ := hT.out
      have TZ := Lib.hid tz
      have HTL := Lib.hid htl
      have HTA := Lib.hid hta
      have RW := Lib.hid tz.start
      have hlt1 : (q : Int) < (rows : Int) := by omega
      have hul : us.length < 1000000000 := by rw [tz.o.len, htl]; omega
      clear tz htl hta hT
      obtain ⟨wj, rfl⟩ : ∃ wj : World, wj = wo := ⟨_, rfl⟩
      go_wp2_with fail
      refine (pick_any _ _ asks _ RW.out.rd (by omega)).mono ?_
      rintro e w2 ⟨one, rfl, one0, one1, m, hw⟩
      have hp : (wj.alloc (.cells #[] 3)).grownBy w2 (some R) := by rw [hw]; exact grown_pick _ _ _ _
      have hq : Rd w2 R (p + 1) := by rw [hw]; exact Rd.next RW.out.rd m
      have one2 := one1 (by omega)
      have R2 := Lib.hid (RW.out.draw hp hq)
      clear hp hq hw one1 RW
      go_wp2
      go_loopw [12, 14] (fun x i wr => ∃ j : Nat, j ≤ asks ∧ i = .int .i64 j ∧ Hid (∃ p ys, p ≤ k + 2 + 10 * q + j ∧ ys.length = j ∧ Rw wj R wr p x ys)) (fun _ i _ => asks - (intOf i).toNat)
      case atStart => exact ⟨0, by omega, rfl, Lib.hid ⟨_, [], by omega, rfl, R2.out⟩⟩
      case round =>
        obtain ⟨j, hj, rfl, hR⟩ := hrel
        obtain ⟨wi, rfl⟩ : ∃ wi : World, wi = wr := ⟨_, rfl⟩
        clear R2
        by_cases hjl : j < asks
        · obtain ⟨pj, ys, hpj, hyl, rw0⟩ := hR.out
          have HYL := Lib.hid hyl
          have RW := Lib.hid rw0
          have hjl1 : (j : Int) < (asks : Int) := by omega
          have hyl9 : ys.length < 1000000000 := by omega
          clear hyl rw0 hR
          by_cases k0 : c = 0
          · have e0 : (c == 0) = true := by simp [k0]
            clear k0
            by_cases ho : (j : Int) = one
            · have e1 : ((j : Int) == one) = true := by simp [ho]
              clear ho
              have ov := RW.out.ow
              have oz := RW.out.gr.size
              go_wp2_with (at_builtin; refine wpAppInt rfl _ _ rfl rfl ov (by omega) oz rfl ?_)
              intro v9 w9 o9 g9 _
              have R9 : Hid (∃ p ys, p ≤ k + 2 + 10 * q + (j + 1) ∧ ys.length = j + 1 ∧ Rw wj R w9 p v9 ys) := Lib.hid ⟨_, _, by omega, by simp [HYL.out], RW.out.app o9 g9⟩
              clear o9 g9 ov oz
              go_wp2
              go_roundw
              case rel => exact ⟨j + 1, by omega, by go_num, R9⟩
              case measure => simp [intOf]; omega
            · have e1 : ((j : Int) == one) = false := by simp [ho]
              clear ho
              have ov := RW.out.ow
              have oz := RW.out.gr.size
              go_wp2_with (at_builtin; refine wpAppInt rfl _ _ rfl rfl ov (by omega) oz rfl ?_)
              intro v9 w9 o9 g9 _
              have R9 : Hid (∃ p ys, p ≤ k + 2 + 10 * q + (j + 1) ∧ ys.length = j + 1 ∧ Rw wj R w9 p v9 ys) := Lib.hid ⟨_, _, by omega, by simp [HYL.out], RW.out.app o9 g9⟩
              clear o9 g9 ov oz
              go_wp2
              go_roundw
              case rel => exact ⟨j + 1, by omega, by go_num, R9⟩
              case measure => simp [intOf]; omega
          have e0 : (c == 0) = false := by simp [k0]
          by_cases k1 : c = 1
          · have e1 : (c == 1) = true := by simp [k1]
            clear k0 k1
            go_wp2_with fail
            refine (pick_any _ _ 2 _ RW.out.rd (by omega)).mono ?_
            rintro e w5 ⟨b, rfl, b0, b1, m, hw⟩
            have hp : wi.grownBy w5 (some R) := by rw [hw]; exact grown_pick _ _ _ _
            have hq : Rd w5 R (pj + 1) := by rw [hw]; exact Rd.next RW.out.rd m
            have b2 := b1 (by omega)
            have R5 := Lib.hid (RW.out.draw hp hq)
            clear hp hq hw b1 RW
            have ov := R5.out.ow
            have oz := R5.out.gr.size
            go_wp2_with (at_builtin; refine wpAppInt rfl _ _ rfl rfl ov (by omega) oz rfl ?_)
            intro v9 w9 o9 g9 _
            have R9 : Hid (∃ p ys, p ≤ k + 2 + 10 * q + (j + 1) ∧ ys.length = j + 1 ∧ Rw wj R w9 p v9 ys) := Lib.hid ⟨_, _, by omega, by simp [HYL.out], R5.out.app o9 g9⟩
            clear o9 g9 ov oz
            go_wp2
            go_roundw
            case rel => exact ⟨j + 1, by omega, by go_num, R9⟩
            case measure => simp [intOf]; omega
          have e1 : (c == 1) = false := by simp [k1]
          by_cases k2 : c = 2
          · have e2 : (c == 2) = true := by simp [k2]
            clear k0 k1 k2
            go_wp2_with fail
            refine (pick_any _ _ 4 _ RW.out.rd (by omega)).mono ?_
            rintro e w5 ⟨b, rfl, b0, b1, m, hw⟩
            have hp : wi.grownBy w5 (some R) := by rw [hw]; exact grown_pick _ _ _ _
            have hq : Rd w5 R (pj + 1) := by rw [hw]; exact Rd.next RW.out.rd m
            have b2 := b1 (by omega)
            have R5 := Lib.hid (RW.out.draw hp hq)
            clear hp hq hw b1 RW
            have ov := R5.out.ow
            have oz := R5.out.gr.size
            go_wp2_with (at_builtin; refine wpAppInt rfl _ _ rfl rfl ov (by omega) oz rfl ?_)
            intro v9 w9 o9 g9 _
            have R9 : Hid (∃ p ys, p ≤ k + 2 + 10 * q + (j + 1) ∧ ys.length = j + 1 ∧ Rw wj R w9 p v9 ys) := Lib.hid ⟨_, _, by omega, by simp [HYL.out], R5.out.app o9 g9⟩
            clear o9 g9 ov oz
            go_wp2
            go_roundw
            case rel => exact ⟨j + 1, by omega, by go_num, R9⟩
            case measure => simp [intOf]; omega
          have e2 : (c == 2) = false := by simp [k2]
          clear k0 k1 k2
          go_wp2_with fail
          refine (pick_any _ _ 4 _ RW.out.rd (by omega)).mono ?_
          rintro e w5 ⟨b, rfl, b0, b1, m, hw⟩
          have hp : wi.grownBy w5 (some R) := by rw [hw]; exact grown_pick _ _ _ _
          have hq : Rd w5 R (pj + 1) := by rw [hw]; exact Rd.next RW.out.rd m
          have b2 := b1 (by omega)
          have R5 := Lib.hid (RW.out.draw hp hq)
          clear hp hq hw b1 RW
          by_cases hb1 : b ≤ 1
          · have ov := R5.out.ow
            have oz := R5.out.gr.size
            go_wp2_with (at_builtin; refine wpAppInt rfl _ _ rfl rfl ov (by omega) oz rfl ?_)
            intro v9 w9 o9 g9 _
            have R9 : Hid (∃ p ys, p ≤ k + 2 + 10 * q + (j + 1) ∧ ys.length = j + 1 ∧ Rw wj R w9 p v9 ys) := Lib.hid ⟨_, _, by omega, by simp [HYL.out], R5.out.app o9 g9⟩
            clear o9 g9 ov oz
            go_wp2
            go_roundw
            case rel => exact ⟨j + 1, by omega, by go_num, R9⟩
            case measure => simp [intOf]; omega
          · have ov := R5.out.ow
            have oz := R5.out.gr.size
            go_wp2_with (at_builtin; refine wpAppInt rfl _ _ rfl rfl ov (by omega) oz rfl ?_)
            intro v9 w9 o9 g9 _
            have R9 : Hid (∃ p ys, p ≤ k + 2 + 10 * q + (j + 1) ∧ ys.length = j + 1 ∧ Rw wj R w9 p v9 ys) := Lib.hid ⟨_, _, by omega, by simp [HYL.out], R5.out.app o9 g9⟩
            clear o9 g9 ov oz
            go_wp2
            go_roundw
            case rel => exact ⟨j + 1, by omega, by go_num, R9⟩
            case measure => simp [intOf]; omega
        · obtain rfl : j = asks := by omega
          obtain ⟨pj, ys, hpj, hyl, rw0⟩ := hR.out
          have HYL := Lib.hid hyl
          have RW := Lib.hid rw0
          obtain ⟨ya, yc, hyf⟩ := rw0.ow.form
          subst hyf
          have hou := (ownSS_pick TZ.out.o TZ.out.rl (Nat.le_refl _) rw0.gr).outer
          have hlo : w.heap.size ≤ wi.heap.size := Nat.le_trans TZ.out.gr.size rw0.gr.size
          clear hyl rw0 hR
          go_wp2_with (at_builtin; refine wpAppRow rfl _ _ rfl rfl hou (by omega) hlo rfl rfl ?_)
          intro v5 w5 o5 g5 k5
          have T5 : Hid (∃ p us t, p ≤ k + 1 + 10 * (q + 1) ∧ t.length = q + 1 ∧ (0 < q + 1 → (row t 0).length = j) ∧ Tz w R w5 p v5 us t) := Lib.hid ⟨_, _, _, by omega, by simp [HTL.out], fun _ => by
            by_cases e : 0 < q
            · rw [row_app (by rw [HTL.out]; exact e)]; exact HTA.out e
            · have e' : t.length = 0 := by rw [HTL.out]; omega
              have : row (t ++ [ys]) t.length = ys := row_last
              rw [e'] at this; rw [this]; exact HYL.out, TZ.out.more RW.out (by rw [HYL.out]; omega) (by simpa using o5) g5 k5⟩
          clear o5 g5 k5 hou hlo RW TZ hul
          go_wp2
          go_roundw
          case rel => exact ⟨q + 1, by omega, by go_num, T5⟩
          case measure => simp [intOf]; omega
    · obtain rfl : q = rows := by omega
      obtain ⟨p, us, t, hp, htl, hta, tz⟩ := hT.out
      have TZ := Lib.hid tz
      have HTL := Lib.hid htl
      have HTA := Lib.hid (hta (by omega))
      have hul : us.length < 1000000000 := by rw [tz.o.len, htl]; omega
      clear hT tz htl hta
      go_wp2_with fail
      refine (odd_any R p n wo TZ.out.rd (by omega) n1 (by omega)).mono ?_
      rintro e w3 ⟨bb, rfl, m, hw⟩
      have hg : wo.grownBy w3 (some R) := by rw [hw]; exact grown_pick _ _ _ _
      have hr : Rd w3 R (p + 1) := by rw [hw]; exact Rd.next TZ.out.rd m
      have T3 := Lib.hid (TZ.out.draw hg hr)
      clear hg hr hw TZ
      cases bb
      · go_wp2
        go_ret
        exact ⟨_, us, t, rfl, by rw [HTL.out]; omega, _, by omega, T3.out⟩
      go_wp2_with fail
      refine (pick_any _ _ 3 _ T3.out.rd (by omega)).mono ?_
      rintro e w4 ⟨s, rfl, s0, s1, m, hw⟩
      have hp_ : w3.grownBy w4 (some R) := by rw [hw]; exact grown_pick _ _ _ _
      have hq : Rd w4 R ((p + 1) + 1) := by rw [hw]; exact Rd.next T3.out.rd m
      have s2 := s1 (by omega)
      have T4 := Lib.hid (T3.out.draw hp_ hq)
      clear hp_ hq hw s1 T3
      by_cases k0 : s = 0
      · have e0 : (s == 0) = true := by simp [k0]
        clear k0
        have T5 := Lib.hid T4.out.empty
        go_wp2
        go_ret
        exact ⟨_, [], [], rfl, by simp, _, by omega, T5.out⟩
      have e0 : (s == 0) = false := by simp [k0]
      by_cases k1 : s = 1
      · have e1 : (s == 1) = true := by simp [k1]
        clear k0 k1
        obtain ⟨g, gc, G, gn, C, e, hc, hn0, hf, ⟨z, hz⟩, t', ht', tz⟩ := T4.out.set (by rw [HTL.out]; omega) (by rw [HTA.out]; omega) 2
        rw [HTL.out] at e
        subst e
        have T5 := Lib.hid tz
        have HT' : Hid (t'.length ≤ 14) := Lib.hid (by rw [ht', HTL.out]; omega)
        have hq0 : (0 : Int) < (q : Int) := by omega
        have hn1 : (0 : Int) < (gn : Int) := by omega
        clear tz ht'
        go_wp2
        go_ret
        exact ⟨_, us, t', rfl, HT'.out, _, by omega, T5.out⟩
      · have e1 : (s == 1) = false := by simp [k1]
        clear k0 k1
        obtain ⟨oa, oc, hov⟩ := T4.out.o.form
        rw [HTL.out] at hov
        subst hov
        have RW := Lib.hid T4.out.start
        have hou := (ownSS_pick T4.out.o T4.out.rl (Nat.le_refl _) RW.out.gr).outer
        have hlo : w.heap.size ≤ (w4.alloc (.cells #[] 3)).heap.size := Nat.le_trans T4.out.gr.size RW.out.gr.size
        go_wp2_with (at_builtin; refine wpAppRow rfl _ _ rfl rfl hou (by omega) hlo rfl (by rw [show (w4.alloc (.cells #[] 3)).heap.size = w4.heap.size + 1 by simp]; rfl) ?_)
        intro v5 w5 o5 g5 k5
        have T5 := Lib.hid (T4.out.more RW.out (by simp) (by simpa using o5) g5 (by rw [show (w4.alloc (.cells #[] 3)).heap.size = w4.heap.size + 1 by simp]; exact k5))
        clear o5 g5 k5 hou hlo RW T4
        go_wp2
        go_ret
        exact ⟨_, _, _, rfl, by simp [HTL.out]; omega, _, by omega, T5.out⟩

/-- A table, or what is none, as the laws have it. -/
def TabIn (w : World) (e : Ending) (w' : World) : Prop := ∃ v t, e = .returned v ∧ IntSS w' v t ∧ cappedB v ∧ t.length ≤ 14 ∧ Below w.heap.size w w'
theorem Tz.fin {w w1 wr : World} {k : Nat} {v : Value} {us : List Value} {t : List (List Int)} (h : Tz w1 w.heap.size wr k v us t) (hb : Below w.heap.size w w1) (hs : w.heap.size ≤ w1.heap.size) (hl : t.length ≤ 14) : IntSS wr v t ∧ cappedB v ∧ Below w.heap.size w wr :=
  ⟨h.o.ints (by unfold maxLen; omega) fun j hj => by have := h.rs j hj; unfold maxLen; omega, cap_row h.o.outer, hb.grown h.gr hs (fun k e => by cases e; exact Nat.le_refl _)⟩

theorem drawTableOk_any (s : Value) (w : World) (h : CodeIn w s) : Calls Tryd.prog 4 #[s] w (TabIn w) := by
  have H := Lib.hid h; clear h
  go_enter Tryd.func4, Tryd.ntmps4
  go_wp2_with fail
  refine (open_any _ _ H.out).mono ?_
  rintro e w1 ⟨rfl, hr, hb⟩
  go_wp2_with fail
  refine (pick_any _ _ 13 _ hr (by omega)).mono ?_
  rintro e w2 ⟨a, rfl, a0, a1, m, hw⟩
  have hga : w1.grownBy w2 (some w.heap.size) := by rw [hw]; exact grown_pick _ _ _ _
  have hra : Rd w2 w.heap.size (0 + 1) := by rw [hw]; exact Rd.next hr m
  have a2 := a1 (by omega)
  clear hw a1
  go_wp2_with fail
  refine (pick_any _ _ 9 _ hra (by omega)).mono ?_
  rintro e w3 ⟨b, rfl, b0, b1, m, hw⟩
  have hgb : w2.grownBy w3 (some w.heap.size) := by rw [hw]; exact grown_pick _ _ _ _
  have hrb : Rd w3 w.heap.size (0 + 1 + 1) := by rw [hw]; exact Rd.next hra m
  have b2 := b1 (by omega)
  clear hw b1
  obtain ⟨rows, hrows⟩ := Int.eq_ofNat_of_zero_le (show (0 : Int) ≤ 1 + a by omega)
  obtain ⟨asks, hasks⟩ := Int.eq_ofNat_of_zero_le (show (0 : Int) ≤ 1 + b by omega)
  have HG := Lib.hid (grown_trans hga hgb)
  have HB := Lib.hid hb
  have HR := Lib.hid hrb
  have r1 : 1 ≤ rows := by omega
  have r2 : rows ≤ 13 := by omega
  have a1 : 1 ≤ asks := by omega
  have a2 : asks ≤ 9 := by omega
  have hz := hb.size
  clear hga hgb hb hr hra hrb
  have HT := Lib.hid (fun (hh : Rd w3 w.heap.size (0 + 1 + 1)) => table_any w.heap.size (0 + 1 + 1) rows asks 3 w3 hh (by omega) r1 r2 a1 a2 (by omega) (by omega))
  rw [← hrows, ← hasks] at HT
  clear hrows hasks
  go_wp2_with fail
  refine (HT.out HR.out).mono ?_
  rintro e w4 ⟨v, us, t, rfl, hl, k', hk', tz⟩
  have hf := tz.fin ((HB.out).grown HG.out hz (fun k e => by cases e; exact Nat.le_refl _)) (Nat.le_trans hz HG.out.size) hl
  have HF := Lib.hid hf
  clear hf tz
  go_wp2
  go_ret
  exact ⟨v, t, rfl, HF.out.1, HF.out.2.1, hl, HF.out.2.2⟩
end Go.Proofs.YtndknjjafoebhabDoor
