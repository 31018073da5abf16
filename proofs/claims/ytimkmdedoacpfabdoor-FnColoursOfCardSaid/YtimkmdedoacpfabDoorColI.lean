/- impl: colouringOf, failing, painted, coloursIn. -/
import Derived.Test.YtimkmdedoacpfabDoorColP
import Derived.Test.YtimkmdedoacpfabDoorGphJ
namespace Go.Proofs.YtimkmdedoacpfabDoor
open Go.RowKit

/-- A colouring: five cells, zeros behind the last point. -/
def five (cs : List Int) : List Value := [.int .i64 (nth cs 0), .int .i64 (nth cs 1), .int .i64 (nth cs 2), .int .i64 (nth cs 3), .int .i64 (nth cs 4)]
theorem five_get {cs : List Int} {k : Nat} (h : k < 5) : (five cs)[k]? = some (.int .i64 (nth cs k)) := by
  have : k = 0 ∨ k = 1 ∨ k = 2 ∨ k = 3 ∨ k = 4 := by omega
  rcases this with rfl | rfl | rfl | rfl | rfl <;> rfl
theorem five_set {cs ds : List Int} {k : Nat} {x : Int} (hk : k < 5) (h : ∀ j, j < 5 → nth ds j = if j = k then x else nth cs j) : (five cs).set k (.int .i64 x) = five ds := by
  have h0 := h 0 (by omega)
  have h1 := h 1 (by omega)
  have h2 := h 2 (by omega)
  have h3 := h 3 (by omega)
  have h4 := h 4 (by omega)
  have : k = 0 ∨ k = 1 ∨ k = 2 ∨ k = 3 ∨ k = 4 := by omega
  rcases this with rfl | rfl | rfl | rfl | rfl <;> simp at h0 h1 h2 h3 h4 <;> simp [five, h0, h1, h2, h3, h4]
theorem nth_out {xs : List Int} {j : Nat} (h : xs.length ≤ j) : nth xs j = 0 := by
  unfold nth; rw [List.getD_eq_getElem?_getD, List.getElem?_eq_none h]; rfl
theorem nth_take_if {xs : List Int} {k j : Nat} : nth (xs.take k) j = if j < k then nth xs j else 0 := by
  by_cases h : j < k
  · rw [if_pos h, nth_take h]
  · rw [if_neg h, nth_out (by rw [List.length_take]; omega)]
theorem five_eq {cs ds : List Int} (h : ∀ j, j < 5 → nth ds j = nth cs j) : five cs = five ds := by
  simp [five, h 0 (by omega), h 1 (by omega), h 2 (by omega), h 3 (by omega), h 4 (by omega)]
theorem five_nil : five [] = [.int .i64 0, .int .i64 0, .int .i64 0, .int .i64 0, .int .i64 0] := rfl
theorem Box.col {w : World} {N : Nat} {cs : List Int} (h : Box w N (five cs)) {k : Nat} (hk : k < 5) : w.cell? ⟨N, k, none⟩ = some (.int .i64 (nth cs k)) := by rw [h.cell, five_get hk]
theorem fit_no {p : Int} {es cs : List Int} (h : fitB p es cs = false) : gkB p es = false ∨ (gkB p es = true ∧ (cs.length : Int) ≠ p) ∨ (gkB p es = true ∧ (cs.length : Int) = p ∧ c3B cs = false) := by
  unfold fitB at h
  cases h1 : gkB p es
  · exact .inl rfl
  · by_cases h2 : (cs.length : Int) = p
    · refine .inr (.inr ⟨rfl, h2, ?_⟩)
      simpa [h1, h2] using h
    · exact .inr (.inl ⟨rfl, h2⟩)

/-- What colouringOf gives: the colours, or none. -/
def fitL (p : Int) (es cs : List Int) : List Int := if fitB p es cs then cs else []
theorem fitL_yes {p : Int} {es cs : List Int} (h : fitB p es cs = true) : fitL p es cs = cs := by simp [fitL, h]
theorem fitL_no {p : Int} {es cs : List Int} (h : fitB p es cs = false) : fitL p es cs = [] := by simp [fitL, h]
def CfPost (p : Int) (es cs : List Int) (w : World) (e : Ending) (w' : World) : Prop := e = .returned (.tuple #[.agg (five (fitL p es cs)).toArray, .bool (fitB p es cs)]) ∧ Below w.heap.size w w'
/-- In the loop: the boxes, and what has been seen. -/
structure CoS (w : World) (p : Int) (v : Value) (cs : List Int) (N : Nat) (k : Nat) (wr : World) : Prop where
  be : Below w.heap.size w wr
  b2 : Box wr (w.heap.size + 1) (five [])
  bc : Box wr N (five (cs.take k))
  bd : ∀ j, j < k → 0 ≤ nth cs j ∧ nth cs j ≤ 2
  hN : w.heap.size + 1 < N
theorem CoS.put {w : World} {p : Int} {v : Value} {cs : List Int} {N k : Nat} {wr : World} (h : CoS w p v cs N k wr) (hk : k < 5) (h0 : 0 ≤ nth cs k) (h2 : nth cs k ≤ 2) : CoS w p v cs N (k + 1) (wr.setCell ⟨N, k, none⟩ (.int .i64 (nth cs k))) := by
  have hN := h.hN
  refine ⟨h.be.setCell (p := ⟨N, k, none⟩) (by show w.heap.size ≤ N; omega) _, h.b2.far (by omega) _, ?_, fun j hj => ?_, h.hN⟩
  · have := h.bc.set k (.int .i64 (nth cs k))
    rwa [five_set (ds := cs.take (k + 1)) hk fun j _ => by
      rw [nth_take_if, nth_take_if]
      by_cases e : j = k
      · subst e; simp
      · rw [if_neg e]
        by_cases e2 : j < k
        · rw [if_pos e2, if_pos (by omega)]
        · rw [if_neg e2, if_neg (by omega)]] at this
  · by_cases e : j < k
    · exact h.bd j e
    · obtain rfl : j = k := by omega
      exact ⟨h0, h2⟩
/-- Five stores into a box. -/
theorem below_set5 {w w1 : World} {N : Nat} {a b c d e : Value} (h : Below w.heap.size w w1) (hN : w.heap.size ≤ N) : Below w.heap.size w (((((w1.setCell ⟨N, 0, none⟩ a).setCell ⟨N, 1, none⟩ b).setCell ⟨N, 2, none⟩ c).setCell ⟨N, 3, none⟩ d).setCell ⟨N, 4, none⟩ e) := ((((h.setCell hN _).setCell hN _).setCell hN _).setCell hN _).setCell hN _
theorem Box.set5 {w1 : World} {N : Nat} {a b c d e : Value} {cs : List Int} (h : Box w1 N (five cs)) : Box (((((w1.setCell ⟨N, 0, none⟩ a).setCell ⟨N, 1, none⟩ b).setCell ⟨N, 2, none⟩ c).setCell ⟨N, 3, none⟩ d).setCell ⟨N, 4, none⟩ e) N [a, b, c, d, e] := ((((h.set 0 _).set 1 _).set 2 _).set 3 _).set 4 _

set_option maxRecDepth 20000 in
set_option maxHeartbeats 3200000 in
theorem icol_any (p : Int) (v u : Value) (es cs : List Int) (w : World) (h : Ints w v es) (k : Ints w u cs) (hs : ∀ j, j < es.length → intIn (nth es j)) : Calls Tryd.prog 60 #[.agg #[.int .i64 p, v], u] w (CfPost p es cs w) := by
  obtain ⟨ua, uc, rfl, k1⟩ := k.opened
  have hm1 := k1.max
  have HC := Lib.hid (show ∀ j, j < cs.length → ∃ G, ua = some ⟨G, 0, none⟩ ∧ ∀ w', Below w.heap.size w w' → w'.cell? ⟨G, j, none⟩ = some (.int .i64 (nth cs j)) from fun j hj => by
    obtain ⟨G, e1, hl, e2⟩ := k1.get j hj
    exact ⟨G, e1, fun w' hb => (hb.cell (p := ⟨G, j, none⟩) hl).trans e2⟩)
  have HG := Lib.hid (show ∀ w', Below w.heap.size w w' → Ints w' v es from fun w' hb => h.below hb)
  have HS := Lib.hid hs
  obtain ⟨n, hn⟩ : ∃ n, cs.length = n := ⟨_, rfl⟩
  have HNL := Lib.hid hn
  rw [hn] at hm1 HC ⊢
  unfold maxLen at hm1
  obtain ⟨b0, b1, bl⟩ := boxes2 (w := w) (P := [.int .i64 p, v]) (R := [.int .i64 0, .int .i64 0, .int .i64 0, .int .i64 0, .int .i64 0]) (T1 := 25) (T2 := 67) (Below.refl _ _)
  have a0 := b0.cell 0
  have a1 := b0.cell 1
  simp at a0 a1
  have B0 := Lib.hid b0
  have B1 := Lib.hid b1
  have BL := Lib.hid bl
  clear h k k1 hs b0 b1 bl
  cases hf : gkB p es
  · have HX := Lib.hid (show fitB p es cs = false by simp [fitB, hf])
    clear hn
    go_enter Tryd.func60, Tryd.ntmps60
    go_wp2_with fail
    refine (igk_is hf (HG.out _ BL.out) HS.out).mono ?_
    rintro e w1 ⟨rfl, hb⟩
    have q := B1.out.on hb
    have r0 := q.cell 0
    have r1 := q.cell 1
    have r2 := q.cell 2
    have r3 := q.cell 3
    have r4 := q.cell 4
    simp at r0 r1 r2 r3 r4
    have f0 := q.frozen 0
    have f1 := q.frozen 1
    have f2 := q.frozen 2
    have f3 := q.frozen 3
    have f4 := q.frozen 4
    have BB := Lib.hid (Below.on BL.out hb)
    clear hb q a0 a1 hf
    go_wp2
    refine bodyPost_ret (v := .tuple #[.agg #[.int .i64 0, .int .i64 0, .int .i64 0, .int .i64 0, .int .i64 0], .bool false]) ?_ rfl ?_
    · simp [results, Tryd.results60, go_sem, r0, r1, r2, r3, r4]
    · exact ⟨by rw [fitL_no HX.out, HX.out]; rfl, below_set5 BB.out (by omega)⟩
  have HGK := Lib.hid (gkB_true.1 hf)
  by_cases hl : (n : Int) = p
  case neg =>
    have HX := Lib.hid (fitB_false (p := p) (es := es) (cs := cs) fun hc => hl (by rw [← hn]; exact hc.len))
    have hd : ((n : Int) != p) = true := by simpa using hl
    clear hn hl
    go_enter Tryd.func60, Tryd.ntmps60
    go_wp2_with fail
    refine (igk_is hf (HG.out _ BL.out) HS.out).mono ?_
    rintro e w1 ⟨rfl, hb⟩
    have q := B1.out.on hb
    have r0 := q.cell 0
    have r1 := q.cell 1
    have r2 := q.cell 2
    have r3 := q.cell 3
    have r4 := q.cell 4
    have q2 := B0.out.on hb
    have s0 := q2.cell 0
    simp at r0 r1 r2 r3 r4 s0
    have f0 := q.frozen 0
    have f1 := q.frozen 1
    have f2 := q.frozen 2
    have f3 := q.frozen 3
    have f4 := q.frozen 4
    have BB := Lib.hid (Below.on BL.out hb)
    clear hb q q2 a0 a1 hf
    go_wp2
    refine bodyPost_ret (v := .tuple #[.agg #[.int .i64 0, .int .i64 0, .int .i64 0, .int .i64 0, .int .i64 0], .bool false]) ?_ rfl ?_
    · simp [results, Tryd.results60, go_sem, r0, r1, r2, r3, r4]
    · exact ⟨by rw [fitL_no HX.out, HX.out]; rfl, below_set5 BB.out (by omega)⟩
  have HN5 := Lib.hid (show n ≤ 5 by have := HGK.out.p5; omega)
  have hd : ((n : Int) != p) = false := by simpa using hl
  have HL := Lib.hid hl
  have HNO := Lib.hid (show ∀ j, j < n → ¬ (0 ≤ nth cs j ∧ nth cs j ≤ 2) → fitB p es cs = false from fun j hj hne => fitB_false fun hc => hne (hc.bd j (by rw [hn]; exact hj)))
  have HYE := Lib.hid (show (∀ j, j < n → 0 ≤ nth cs j ∧ nth cs j ≤ 2) → fitB p es cs = true from fun hh => fitB_true.2 ⟨HGK.out, by rw [hn]; exact hl, fun j hj => hh j (by rw [← hn]; exact hj)⟩)
  clear hn hl
  go_enter Tryd.func60, Tryd.ntmps60
  go_wp2_with fail
  refine (igk_is hf (HG.out _ BL.out) HS.out).mono ?_
  rintro e w1 ⟨rfl, hb⟩
  have q2 := B0.out.on hb
  have s0 := q2.cell 0
  simp at s0
  have SS : Hid (CoS w p v cs w1.heap.size 0 (w1.alloc (.cells #[.int .i64 0, .int .i64 0, .int .i64 0, .int .i64 0, .int .i64 0] 67))) := Lib.hid
    ⟨(Below.on BL.out hb).trans ((below_grow w1 _).mono (Below.on BL.out hb).size), (B1.out.on hb).alloc _, by rw [List.take_zero]; exact Box.made w1 [.int .i64 0, .int .i64 0, .int .i64 0, .int .i64 0, .int .i64 0] 67, fun j hj => by omega, by have := (B1.out.on hb).lt; omega⟩
  clear hb q2 a0 a1 hf
  go_wp2
  clear s0 hd
  go_loopw [22] (fun i wr => ∃ k : Nat, k ≤ n ∧ i = .int .i64 k ∧ Hid (CoS w p v cs w1.heap.size k wr)) (fun i _ => n - (intOf i).toNat)
  case atStart => exact ⟨0, by omega, rfl, SS⟩
  case round =>
    obtain ⟨k, hk, rfl, hS⟩ := hrel
    obtain ⟨wo, rfl⟩ : ∃ wo : World, wo = wr := ⟨_, rfl⟩
    clear SS
    by_cases hlt : k < n
    · obtain ⟨G, rfl, hck⟩ := HC.out k hlt
      obtain ⟨x, hx⟩ : ∃ x, nth cs k = x := ⟨_, rfl⟩
      have HXK := Lib.hid hx
      rw [hx] at hck
      have c1 := hck _ hS.out.be
      have hlt1 : (k : Int) < (n : Int) := by omega
      clear hx hck
      have q := hS.out.b2
      have r0 := q.cell 0
      have r1 := q.cell 1
      have r2 := q.cell 2
      have r3 := q.cell 3
      have r4 := q.cell 4
      simp [five, nth] at r0 r1 r2 r3 r4
      have f0 := q.frozen 0
      have f1 := q.frozen 1
      have f2 := q.frozen 2
      have f3 := q.frozen 3
      have f4 := q.frozen 4
      clear q
      by_cases e1 : x < 0
      · have HX := Lib.hid (HNO.out k hlt (by rw [HXK.out]; omega))
        have d1 : decide (x < 0) = true := by simpa using e1
        go_wp2
        refine bodyPost_ret (v := .tuple #[.agg #[.int .i64 0, .int .i64 0, .int .i64 0, .int .i64 0, .int .i64 0], .bool false]) ?_ rfl ?_
        · simp [results, Tryd.results60, go_sem, r0, r1, r2, r3, r4]
        · exact ⟨by rw [fitL_no HX.out, HX.out]; rfl, below_set5 hS.out.be (by omega)⟩
      have d1 : decide (x < 0) = false := by simpa using e1
      by_cases e2 : 3 ≤ x
      · have HX := Lib.hid (HNO.out k hlt (by rw [HXK.out]; omega))
        have d2 : decide (3 ≤ x) = true := by simpa using e2
        go_wp2
        refine bodyPost_ret (v := .tuple #[.agg #[.int .i64 0, .int .i64 0, .int .i64 0, .int .i64 0, .int .i64 0], .bool false]) ?_ rfl ?_
        · simp [results, Tryd.results60, go_sem, r0, r1, r2, r3, r4]
        · exact ⟨by rw [fitL_no HX.out, HX.out]; rfl, below_set5 hS.out.be (by omega)⟩
      have d2 : decide (3 ≤ x) = false := by simpa using e2
      have SN : Hid (CoS w p v cs w1.heap.size (k + 1) (wo.setCell ⟨w1.heap.size, k, none⟩ (.int .i64 x))) := Lib.hid (by
        have := hS.out.put (by have := HN5.out; omega) (by rw [HXK.out]; omega) (by rw [HXK.out]; omega)
        rwa [HXK.out] at this)
      have z0 := hS.out.bc.col (k := k) (by have := HN5.out; omega)
      have z1 := hS.out.bc.frozen k
      have k5 : (k : Int) < 5 := by have := HN5.out; omega
      clear r0 r1 r2 r3 r4 f0 f1 f2 f3 f4 e1 e2 hS
      go_wp2
      go_roundw
      case rel => exact ⟨k + 1, by omega, by go_num, SN⟩
      case measure => simp [intOf]; omega
    · obtain rfl : k = n := by omega
      have HX := Lib.hid (HYE.out hS.out.bd)
      have hT : cs.take k = cs := List.take_of_length_le (by rw [HNL.out]; exact Nat.le_refl _)
      have q := hS.out.b2
      have r0 := q.cell 0
      have r1 := q.cell 1
      have r2 := q.cell 2
      have r3 := q.cell 3
      have r4 := q.cell 4
      simp [five, nth] at r0 r1 r2 r3 r4
      have f0 := q.frozen 0
      have f1 := q.frozen 1
      have f2 := q.frozen 2
      have f3 := q.frozen 3
      have f4 := q.frozen 4
      have q2 := hS.out.bc
      rw [hT] at q2
      have s0 := q2.col (k := 0) (by omega)
      have s1 := q2.col (k := 1) (by omega)
      have s2 := q2.col (k := 2) (by omega)
      have s3 := q2.col (k := 3) (by omega)
      have s4 := q2.col (k := 4) (by omega)
      obtain ⟨x0, hx0⟩ : ∃ x, nth cs 0 = x := ⟨_, rfl⟩
      rw [hx0] at s0
      obtain ⟨x1, hx1⟩ : ∃ x, nth cs 1 = x := ⟨_, rfl⟩
      rw [hx1] at s1
      obtain ⟨x2, hx2⟩ : ∃ x, nth cs 2 = x := ⟨_, rfl⟩
      rw [hx2] at s2
      obtain ⟨x3, hx3⟩ : ∃ x, nth cs 3 = x := ⟨_, rfl⟩
      rw [hx3] at s3
      obtain ⟨x4, hx4⟩ : ∃ x, nth cs 4 = x := ⟨_, rfl⟩
      rw [hx4] at s4
      have HF : Hid (five cs = [.int .i64 x0, .int .i64 x1, .int .i64 x2, .int .i64 x3, .int .i64 x4]) := Lib.hid (by unfold five; rw [hx0, hx1, hx2, hx3, hx4])
      clear q q2 hT hx0 hx1 hx2 hx3 hx4
      go_wp2
      refine bodyPost_ret (v := .tuple #[.agg #[.int .i64 x0, .int .i64 x1, .int .i64 x2, .int .i64 x3, .int .i64 x4], .bool true]) ?_ rfl ?_
      · simp [results, Tryd.results60, go_sem, r0, r1, r2, r3, r4]
      · exact ⟨by rw [fitL_yes HX.out, HX.out, HF.out], below_set5 hS.out.be (by omega)⟩
end Go.Proofs.YtimkmdedoacpfabDoor
