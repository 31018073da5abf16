/- Lists of colourings, five cells each; impl.colouringsOf. -/
import Derived.Test.YtimkmdedoacpfabDoorColK
namespace Go.Proofs.YtimkmdedoacpfabDoor
open Go.RowKit

abbrev OwnC (w : World) (B : Nat) (v : Value) (L : List (List Int)) : Prop := w.ownsRow B 67 5 v L.length (L.flatMap five)
theorem infoCol : (Tryd.prog.info? 67).map (fun i => (i.zero, i.size, i.bytes)) = some (some (.agg #[.int .i64 0, .int .i64 0, .int .i64 0, .int .i64 0, .int .i64 0]), 5, 40) := by kernel_rfl
theorem ownC_below {w w' : World} {B : Nat} {v : Value} {L : List (List Int)} (h : OwnC w B v L) (hb : Below w.heap.size w w') : OwnC w' B v L := by
  have hg : w.grownBy w' none := ⟨hb.os, hb.tape, hb.output, hb.size, fun k hk _ => hb.block k hk⟩
  exact h.kept hg (by cases hv : v.ownBlock <;> simp)
theorem ownC_heap {w w' : World} {B : Nat} {v : Value} {L : List (List Int)} (h : OwnC w B v L) (hh : ∀ k, v.ownBlock = some k → w'.heap[k]? = w.heap[k]?) : OwnC w' B v L := by
  obtain ⟨h1, h2⟩ := h
  refine ⟨h1, ?_⟩
  rcases h2 with h2 | ⟨g, cap, cur, hv, hg, ho, r⟩
  · exact .inl h2
  · exact .inr ⟨g, cap, cur, hv, hg, (hh g (by rw [hv]; rfl)).trans ho, r⟩
theorem ownC_mono {w : World} {B B' : Nat} {v : Value} {L : List (List Int)} (h : OwnC w B v L) (hB : B' ≤ B) : OwnC w B' v L := by
  obtain ⟨h1, h2⟩ := h
  refine ⟨h1, ?_⟩
  rcases h2 with h2 | ⟨g, cap, cur, hv, hg, r⟩
  · exact .inl h2
  · exact .inr ⟨g, cap, cur, hv, Nat.le_trans hB hg, r⟩
theorem flatC_get : ∀ (L : List (List Int)) (t : Nat), t < L.length * 5 → (L.flatMap five)[t]? = some (.int .i64 (nth (row L (t / 5)) (t % 5)))
  | [], t, h => by simp at h
  | x :: L, t, h => by
    rw [List.flatMap_cons]
    by_cases ht : t < 5
    · rw [List.getElem?_append_left (by simp [five]; omega)]
      rw [show t / 5 = 0 by omega, show t % 5 = t by omega, five_get ht]; rfl
    · obtain ⟨s, rfl⟩ : ∃ s, t = s + 5 := ⟨t - 5, by omega⟩
      rw [List.getElem?_append_right (by simp [five])]
      have e : s + 5 - (five x).length = s := by simp [five]
      rw [e, flatC_get L s (by simp at h; omega), show (s + 5) / 5 = s / 5 + 1 by omega, show (s + 5) % 5 = s % 5 by omega]
      rfl
theorem ownC_at {w : World} {B g n cap : Nat} {L : List (List Int)} (h : OwnC w B (.slice (some ⟨g, 0, none⟩) n cap) L) (hn : L.length = n) {i : Nat} (hi : i < n) {j : Nat} (hj : j < 5) :
    w.cell? ⟨g, i * 5 + j, none⟩ = some (.int .i64 (nth (row L i) j)) := by
  subst hn
  rw [h.cellAt (i * 5 + j) (by omega), flatC_get L (i * 5 + j) (by omega), show (i * 5 + j) / 5 = i by omega, show (i * 5 + j) % 5 = j by omega]
theorem ownC_form {w : World} {B : Nat} {v : Value} {L : List (List Int)} (h : OwnC w B v L) : ∃ a c, v = .slice a L.length c := by
  rcases id h.2 with ⟨rfl, h0⟩ | ⟨g, cap, cur, rfl, _⟩
  · exact ⟨none, 0, by rw [h0]⟩
  · exact ⟨_, _, rfl⟩
theorem ownC_some {w : World} {B : Nat} {v : Value} {L : List (List Int)} (h : OwnC w B v L) (hp : 0 < L.length) : ∃ g cap, v = .slice (some ⟨g, 0, none⟩) L.length cap ∧ g < w.heap.size := by
  have hlt := h.lt
  rcases id h.2 with ⟨rfl, h0⟩ | ⟨g, cap, cur, rfl, _⟩
  · omega
  · exact ⟨_, _, rfl, (hlt g rfl).2⟩
theorem ownC_nil (w : World) (B : Nat) : OwnC w B (.slice none 0 0) [] := World.ownsRow_nil _ _ _ _
theorem ownC_one (w : World) : OwnC (w.alloc (.cells #[.int .i64 0, .int .i64 0, .int .i64 0, .int .i64 0, .int .i64 0] 67)) w.heap.size (.slice (some ⟨w.heap.size, 0, none⟩) 1 1) [[]] :=
  World.ownsRow_lit (base := w.heap.size) (e := 67) (size := 5) w #[.int .i64 0, .int .i64 0, .int .i64 0, .int .i64 0, .int .i64 0] 1 (Nat.le_refl _) (by decide) rfl
/-- append of one colouring to an owned list. -/
theorem wpAppCol {ops : Array Oper} {rest : List Oper} {o : Oper} {a : Act} {Q : Exit → Act → World → Prop} {w3 : World} {B : Nat} {v : Value} {L : List (List Int)} {c : List Int} {x0 x1 x2 x3 x4 : Int} {T : TypeId} (hgd : o.guard = none) (s x : Operand)
    (ho : o.op = .call { callee := .builtin .append, args := #[s, x], argTypes := #[75, 75] }) (hs : a.eval s = v) (hown : OwnC w3 B v L) (hl : L.length < 1000000) (hB : B ≤ w3.heap.size) (hx : a.eval x = .slice (some ⟨w3.heap.size, 0, none⟩) 1 1) (hF : five c = [.int .i64 x0, .int .i64 x1, .int .i64 x2, .int .i64 x3, .int .i64 x4])
    (h : ∀ v' w4, OwnC w4 B v' (L ++ [c]) → w3.grownBy w4 v.ownBlock → (v'.ownBlock = v.ownBlock ∨ ∃ k, v'.ownBlock = some k ∧ w3.heap.size ≤ k) → wpList Tryd.prog ops Q rest (a.put o.dst v') w4) :
    wpList Tryd.prog ops Q (o :: rest) a (w3.alloc (.cells #[.int .i64 x0, .int .i64 x1, .int .i64 x2, .int .i64 x3, .int .i64 x4] T)) := by
  obtain ⟨i0, hi, hz0, hz1, hz2⟩ := info_parts infoCol
  refine wpList_append_own_at (w3.alloc (.cells #[.int .i64 x0, .int .i64 x1, .int .i64 x2, .int .i64 x3, .int .i64 x4] T)) hgd s x 75 ho B 67 i0 (.agg #[.int .i64 0, .int .i64 0, .int .i64 0, .int .i64 0, .int .i64 0]) 5 40 Tryd.underlying75 hi hz0 hz1 hz2 rfl (by decide) v L.length _ hs (hown.alloc _) ⟨w3.heap.size, 0, none⟩ 1 1 [.int .i64 x0, .int .i64 x1, .int .i64 x2, .int .i64 x3, .int .i64 x4] hx rfl ?_ ?_ ?_ ?_ ?_ ?_
  · intro j u hj
    match j, hj with
    | 0, hj => simp at hj; subst hj; simp [Addr.add]
    | 1, hj => simp at hj; subst hj; simp [Addr.add]
    | 2, hj => simp at hj; subst hj; simp [Addr.add]
    | 3, hj => simp at hj; subst hj; simp [Addr.add]
    | 4, hj => simp at hj; subst hj; simp [Addr.add]
  · intro u hu; simp at hu; rcases hu with rfl | rfl | rfl | rfl | rfl <;> rfl
  · unfold maxLen; omega
  · omega
  · simp; omega
  · intro v' w4 h1 h2 _ h4
    refine h v' w4 ?_ ?_ ?_
    · unfold OwnC; rw [List.length_append, List.flatMap_append]; simpa [hF] using h1
    · exact ⟨h2.os, h2.tape, h2.output, Nat.le_trans (by simp) h2.size, fun k hk hne => (h2.block k (by simp; omega) hne).trans (Below.heap_alloc w3 _ k hk)⟩
    · rcases h4 with h4 | h4
      · exact .inl h4
      · exact .inr ⟨_, h4, by simp⟩

theorem lots3_len {k : Nat} (h : k ≤ 5) : (lots 3 k).length ≤ 243 := by
  rw [lots_len]
  have : k = 0 ∨ k = 1 ∨ k = 2 ∨ k = 3 ∨ k = 4 ∨ k = 5 := by omega
  rcases this with rfl | rfl | rfl | rfl | rfl | rfl <;> decide
theorem longTo3_len {L : List (List Int)} {j : Nat} (hj : j ≤ 243) : (longTo 3 L j).length ≤ 729 := by rw [longTo_len]; omega
/-- What a colouring's place holds when p colours have been tried there. -/
def cur3 (r : List Int) : Nat → List Int
  | 0 => r
  | p + 1 => r ++ [(p : Int)]
theorem cur3_set {r : List Int} {k p : Nat} (hk : r.length = k) (h5 : k < 5) : (five (cur3 r p)).set k (.int .i64 (p : Int)) = five (r ++ [(p : Int)]) := five_set h5 fun j _ => by
  rw [nth_app, hk]
  cases p with
  | zero =>
    simp only [cur3]
    by_cases e : j < k
    · rw [if_pos e, if_neg (by omega)]
    · rw [if_neg e]
      by_cases e2 : j = k
      · rw [if_pos e2, if_pos e2]
      · rw [if_neg e2, if_neg e2, nth_out (by omega)]
  | succ p =>
    simp only [cur3]
    rw [nth_app, hk]
    by_cases e : j < k
    · rw [if_pos e, if_pos e, if_neg (by omega)]
    · rw [if_neg e, if_neg e]
      by_cases e2 : j = k
      · rw [if_pos e2, if_pos e2]
      · rw [if_neg e2, if_neg e2, if_neg e2]
/-- In the innermost loop: the longer list, and the colouring's box. -/
structure CgS (wo : World) (N : Nat) (v : Value) (X : List (List Int)) (c : List Int) (wr : World) : Prop where
  own : OwnC wr wo.heap.size v X
  be : Below wo.heap.size wo wr
  bx : Box wr N (five c)
  ne : ∀ b, v.ownBlock = some b → b ≠ N
  hN : wo.heap.size ≤ N
theorem CgS.put {wo : World} {N k p : Nat} {v : Value} {X : List (List Int)} {r : List Int} {wr : World} (h : CgS wo N v X (cur3 r p) wr) (hk : r.length = k) (h5 : k < 5) : CgS wo N v X (r ++ [(p : Int)]) (wr.setCell ⟨N, k, none⟩ (.int .i64 (p : Int))) := by
  refine ⟨ownC_heap h.own fun b hb => Below.heap_setCell _ _ _ _ (h.ne b hb), h.be.setCell (p := ⟨N, k, none⟩) h.hN _, ?_, h.ne, h.hN⟩
  have := h.bx.set k (.int .i64 (p : Int))
  rwa [cur3_set hk h5] at this
theorem CgS.app {wo : World} {N : Nat} {v v' : Value} {X : List (List Int)} {c : List Int} {wr w4 : World} (h : CgS wo N v X c wr) (o : OwnC w4 wo.heap.size v' (X ++ [c])) (g : wr.grownBy w4 v.ownBlock) (hv : v'.ownBlock = v.ownBlock ∨ ∃ k, v'.ownBlock = some k ∧ wr.heap.size ≤ k) : CgS wo N v' (X ++ [c]) c w4 := by
  have hl := h.bx.lt
  refine ⟨o, h.be.grown g h.be.size fun q e => (h.own.lt q e).1, h.bx.grownK g fun b e => h.ne b e, fun b hb => ?_, h.hN⟩
  rcases hv with hv | ⟨k, hv, hk⟩
  · exact h.ne b (by rw [← hv]; exact hb)
  · rw [hv] at hb; cases hb; omega
def CsPost (L : List (List Int)) (w : World) (e : Ending) (w' : World) : Prop := ∃ v, e = .returned v ∧ OwnC w' w.heap.size v L ∧ Below w.heap.size w w'

set_option maxRecDepth 20000 in
set_option maxHeartbeats 6400000 in
theorem icgs_any (m : Nat) (w : World) (h5 : m ≤ 5) : Calls Tryd.prog 69 #[.int .i64 m] w (CsPost (lots 3 m) w) := by
  have O0 := Lib.hid (ownC_one w)
  have B0 := Lib.hid (below_grow w (.cells #[.int .i64 0, .int .i64 0, .int .i64 0, .int .i64 0, .int .i64 0] 67))
  have HLL := Lib.hid (show ∀ k, k ≤ m → (lots 3 k).length ≤ 243 from fun k hk => lots3_len (by omega))
  have HRL := Lib.hid (show ∀ k j, j < (lots 3 k).length → (row (lots 3 k) j).length = k from fun k j hj => (lots_mem.1 (row_mem hj)).1)
  have HS := Lib.hid (show ∀ k, lots 3 (k + 1) = longTo 3 (lots 3 k) (lots 3 k).length from fun _ => rfl)
  go_enter Tryd.func69, Tryd.ntmps69
  go_wp2
  go_loopw [3, 12] (fun v i wr => ∃ k : Nat, k ≤ m ∧ i = .int .i64 k ∧ Hid (OwnC wr w.heap.size v (lots 3 k)) ∧ Hid (Below w.heap.size w wr)) (fun _ i _ => m - (intOf i).toNat)
  case atStart => exact ⟨0, by omega, rfl, O0, B0⟩
  case round =>
    obtain ⟨k, hk, rfl, hO, hB⟩ := hrel
    obtain ⟨wo, rfl⟩ : ∃ wo : World, wo = wr := ⟨_, rfl⟩
    clear O0 B0
    by_cases hlt : k < m
    · obtain ⟨L, hL⟩ : ∃ L, lots 3 k = L := ⟨_, rfl⟩
      have ho := hO.out
      have hll := HLL.out k hk
      have hrl := HRL.out k
      have hX := HS.out k
      rw [hL] at ho hll hrl hX
      obtain ⟨a, c, hv⟩ := ownC_form ho
      subst hv
      obtain ⟨n, hn⟩ : ∃ n, L.length = n := ⟨_, rfl⟩
      have HN := Lib.hid hn
      have HX := Lib.hid hX
      have HR := Lib.hid hrl
      have HC := Lib.hid (show ∀ j, j < n → ∃ G, a = some ⟨G, 0, none⟩ ∧ ∀ w', Below wo.heap.size wo w' → ∀ i, i < 5 → w'.cell? ⟨G, j * 5 + i, none⟩ = some (.int .i64 (nth (row L j) i)) from fun j hj => by
        obtain ⟨g, cap, e, hg⟩ := ownC_some ho (by omega)
        cases e
        exact ⟨g, rfl, fun w' hb i hi => (hb.cell (p := ⟨g, j * 5 + i, none⟩) hg).trans (ownC_at ho rfl (by omega) hi)⟩)
      rw [hn] at hll HX HR ⊢
      have hlt1 : (k : Int) < (m : Int) := by omega
      have ON : Hid (OwnC wo wo.heap.size (.slice none 0 0) (longTo 3 L 0)) := Lib.hid (ownC_nil _ _)
      have BN : Hid (Below wo.heap.size wo wo) := Lib.hid (Below.refl _ _)
      have HB := Lib.hid hB.out.size
      clear ho hrl hX hn hO
      go_wp2
      go_loopw [5, 17] (fun v i wr => ∃ j : Nat, j ≤ n ∧ i = .int .i64 j ∧ Hid (OwnC wr wo.heap.size v (longTo 3 L j)) ∧ Hid (Below wo.heap.size wo wr)) (fun _ i _ => n - (intOf i).toNat)
      case atStart => exact ⟨0, by omega, rfl, ON, BN⟩
      case round =>
        obtain ⟨j, hj, rfl, hO, hB2⟩ := hrel
        obtain ⟨wj, rfl⟩ : ∃ wj : World, wj = wr := ⟨_, rfl⟩
        clear ON BN
        by_cases hjl : j < n
        · obtain ⟨G, rfl, hcu⟩ := HC.out j hjl
          have hc := hcu _ hB2.out
          have c0 := hc 0 (by omega)
          have c1 := hc 1 (by omega)
          have c2 := hc 2 (by omega)
          have c3 := hc 3 (by omega)
          have c4 := hc 4 (by omega)
          obtain ⟨x0, x1, x2, x3, x4, h5'⟩ := five_letters (row L j)
          have e0 := congrArg (fun l => l[0]?) h5'
          have e1 := congrArg (fun l => l[1]?) h5'
          have e2 := congrArg (fun l => l[2]?) h5'
          have e3 := congrArg (fun l => l[3]?) h5'
          have e4 := congrArg (fun l => l[4]?) h5'
          simp [five] at e0 e1 e2 e3 e4
          rw [e0] at c0
          rw [e1] at c1
          rw [e2] at c2
          rw [e3] at c3
          rw [e4] at c4
          simp only [Nat.add_zero] at c0
          have HRK := Lib.hid (HR.out j hjl)
          have bx := Box.made wj [.int .i64 x0, .int .i64 x1, .int .i64 x2, .int .i64 x3, .int .i64 x4] 67
          rw [← h5'] at bx
          have hown := hO.out
          have CG : Hid (CgS wo wj.heap.size u5 (longTo 3 L j ++ extTo (row L j) 0) (cur3 (row L j) 0) (wj.alloc (.cells #[.int .i64 x0, .int .i64 x1, .int .i64 x2, .int .i64 x3, .int .i64 x4] 67))) := Lib.hid
            ⟨by rw [show longTo 3 L j ++ extTo (row L j) 0 = longTo 3 L j by simp [extTo]]; exact hown.alloc _, hB2.out.trans ((below_grow wj _).mono hB2.out.size), by rw [← h5']; exact bx, fun b hb => by have := (hown.lt b hb).2; omega, hB2.out.size⟩
          have HXJ := Lib.hid (show longTo 3 L (j + 1) = longTo 3 L j ++ extTo (row L j) 3 from rfl)
          have HXE := Lib.hid (show ∀ i, longTo 3 L j ++ extTo (row L j) (i + 1) = (longTo 3 L j ++ extTo (row L j) i) ++ [row L j ++ [(i : Int)]] from fun i => by rw [List.append_assoc]; rfl)
          have HEL := Lib.hid (show ∀ i, (longTo 3 L j ++ extTo (row L j) i).length = (longTo 3 L j).length + i from fun i => by rw [List.length_append, extTo_len])
          have HLJ := Lib.hid (longTo3_len (L := L) (j := j) (by omega))
          have hjl1 : (j : Int) < (n : Int) := by omega
          have hk5 : (k : Int) < 5 := by omega
          clear hcu hc h5' e0 e1 e2 e3 e4 bx hown hO
          go_wp2
          clear c0 c1 c2 c3 c4
          go_loopw [5, 21] (fun v i wr => ∃ p : Nat, p ≤ 3 ∧ i = .int .i64 p ∧ Hid (CgS wo wj.heap.size v (longTo 3 L j ++ extTo (row L j) p) (cur3 (row L j) p) wr)) (fun _ i _ => 3 - (intOf i).toNat)
          case atStart => exact ⟨0, by omega, rfl, CG⟩
          case round =>
            obtain ⟨p, hp, rfl, hG⟩ := hrel
            obtain ⟨wp, rfl⟩ : ∃ wp : World, wp = wr := ⟨_, rfl⟩
            clear CG
            by_cases hpl : p < 3
            · have hpl1 : (p : Int) < 3 := by omega
              have z0 := hG.out.bx.col (k := k) (by omega)
              have z1 := hG.out.bx.frozen k
              obtain ⟨y, hy⟩ : ∃ y, nth (cur3 (row L j) p) k = y := ⟨_, rfl⟩
              rw [hy] at z0
              have G1 := Lib.hid (hG.out.put HRK.out (by omega))
              clear hy hG
              go_upto_region 13 with (fail)
              clear z0 z1
              generalize wp.setCell ⟨wj.heap.size, k, none⟩ (.int .i64 (p : Int)) = w1 at *
              obtain ⟨y0, y1, y2, y3, y4, h6⟩ := five_letters (row L j ++ [(p : Int)])
              have H6 := Lib.hid h6
              have q := G1.out.bx
              rw [h6] at q
              have r0 := q.cell 0
              have r1 := q.cell 1
              have r2 := q.cell 2
              have r3 := q.cell 3
              have r4 := q.cell 4
              simp at r0 r1 r2 r3 r4
              have ov := G1.out.own
              have oz := G1.out.be.size
              have hul : (longTo 3 L j ++ extTo (row L j) p).length < 1000000 := by rw [HEL.out]; have := HLJ.out; omega
              clear h6 q
              go_wp2_with (at_builtin; refine wpAppCol (c := row L j ++ [(p : Int)]) rfl _ _ rfl rfl ov hul oz rfl H6.out ?_)
              intro v2 w4 o2 g2 hv2
              have G4 : Hid (CgS wo wj.heap.size v2 (longTo 3 L j ++ extTo (row L j) (p + 1)) (cur3 (row L j) (p + 1)) w4) := Lib.hid (by rw [HXE.out]; exact G1.out.app (by rw [List.append_assoc]; exact o2) g2 hv2)
              clear ov oz hul o2 g2 hv2 r0 r1 r2 r3 r4 G1
              go_wp2
              go_roundw
              case rel => exact ⟨p + 1, by omega, by go_num, G4⟩
              case measure => simp [intOf]; omega
            · obtain rfl : p = 3 := by omega
              have O4 : Hid (OwnC wp wo.heap.size u5 (longTo 3 L (j + 1))) := Lib.hid (by rw [HXJ.out]; exact hG.out.own)
              have B4 := Lib.hid hG.out.be
              clear hG
              go_wp2
              go_roundw
              case rel => exact ⟨j + 1, by omega, by go_num, O4, B4⟩
              case measure => simp [intOf]; omega
        · obtain rfl : j = n := by omega
          have O5 : Hid (OwnC wj w.heap.size u5 (lots 3 (k + 1))) := Lib.hid (by rw [HX.out]; exact ownC_mono hO.out HB.out)
          have B5 := Lib.hid (Below.on hB.out hB2.out)
          clear hO hB2
          go_wp2
          go_roundw
          case rel => exact ⟨k + 1, by omega, by go_num, O5, B5⟩
          case measure => simp [intOf]; omega
    · obtain rfl : k = m := by omega
      go_wp2
      go_ret
      exact ⟨_, rfl, hO.out, hB.out⟩
end Go.Proofs.YtimkmdedoacpfabDoor
