/- laws.toIntSS, toClaim, toWords. -/
import Derived.Test.YtopjlbihhbjhnaaDoorBox
namespace Go.Proofs.YtopjlbihhbjhnaaDoor
open Go.RowKit

def partS (xss : List (List Int)) : Nat → List (List Int)
  | 0 => List.replicate xss.length []
  | k + 1 => (partS xss k).set k (row xss k)
theorem partS_len (xss : List (List Int)) : ∀ k, (partS xss k).length = xss.length
  | 0 => by simp [partS]
  | k + 1 => by unfold partS; rw [List.length_set]; exact partS_len xss k
theorem partS_row (xss : List (List Int)) : ∀ k, k ≤ xss.length → ∀ j, j < k → row (partS xss k) j = row xss j
  | 0, _, j, hj => by omega
  | k + 1, hk, j, hj => by
    unfold partS
    by_cases e : k = j
    · subst e; rw [row_set (by rw [partS_len]; omega)]
    · rw [row_set_ne e]; exact partS_row xss k (by omega) j (by omega)
theorem partS_all (xss : List (List Int)) : partS xss xss.length = xss := by
  refine List.ext_getElem (partS_len _ _) fun j h1 h2 => ?_
  rw [← row_get h1, ← row_get h2]; exact partS_row xss _ (Nat.le_refl _) j h2
theorem partS_rest (xss : List (List Int)) : ∀ k j, k ≤ j → row (partS xss k) j = []
  | 0, j, _ => by
    by_cases h : j < xss.length
    · rw [row_get (by rw [partS_len]; exact h)]; simp [partS]
    · exact row_out (by rw [partS_len]; omega)
  | k + 1, j, h => by
    unfold partS; rw [row_set_ne (by omega)]; exact partS_rest xss k j (by omega)
theorem outer_make (w : World) (n : Nat) (hn : n ≤ 1048576) : (w.alloc (.cells (madeCells #[.slice none 0 0] n) 30)).ownsRow w.heap.size 30 1 (.slice (some ⟨w.heap.size, 0, none⟩) n n) n (List.replicate n (.slice none 0 0)) := by
  have hs : (madeCells #[Value.slice none 0 0] n).size = n := by rw [← Array.length_toList, madeCells_list]; simp
  have h := World.ownsRow_lit (base := w.heap.size) (e := 30) (size := 1) w (madeCells #[.slice none 0 0] n) n (Nat.le_refl _) (by unfold maxLen; omega) (by omega)
  rw [madeCells_list] at h
  exact h
theorem val_rep (n j : Nat) : val (List.replicate n (.slice none 0 0)) j = .slice none 0 0 := by
  by_cases h : j < n
  · rw [val_get (by simpa using h)]; simp
  · unfold val; rw [List.getD_eq_getElem?_getD, List.getElem?_eq_none (by simp; omega)]; rfl
theorem ownSS_make (w : World) (xss : List (List Int)) (hn : xss.length ≤ 1048576) : OwnSS (w.alloc (.cells (madeCells #[.slice none 0 0] xss.length) 30)) w.heap.size (w.alloc (.cells (madeCells #[.slice none 0 0] xss.length) 30)).heap.size (.slice (some ⟨w.heap.size, 0, none⟩) xss.length xss.length) (List.replicate xss.length (.slice none 0 0)) (partS xss 0) := by
  have ho := outer_make w xss.length hn
  refine ⟨by rw [List.length_replicate]; exact ho, by simp [partS], fun k hk => (ho.lt k hk).2, fun j hj => ?_, fun j hj k hk => ?_, fun i j _ _ k hk _ => ?_, fun j _ k hk _ => ?_⟩
  · rw [val_rep, partS_rest xss 0 j (Nat.zero_le _)]; exact World.ownsRow_nil _ _ _ _
  all_goals rw [val_rep] at hk; simp [Value.ownBlock] at hk

set_option maxHeartbeats 1600000 in
theorem toSS_any (a : Option Addr) (c : Nat) (xss : List (List Int)) (w : World) (h : ArgSS w a xss) (hl : xss.length ≤ 1048576) (hr : ∀ j, j < xss.length → (row xss j).length ≤ 1048576) :
    Calls Tryd.prog 60 #[.slice a xss.length c] w fun e w' => ∃ v us, e = .returned v ∧ OwnSS w' w.heap.size w'.heap.size v us xss ∧ Below w.heap.size w w' := by
  obtain ⟨n, hn⟩ : ∃ n, xss.length = n := ⟨_, rfl⟩
  have hmk := run_make_row' (P := Tryd.prog) 29 30 (.slice none 0 0) 24 Tryd.underlying29 infoRow rfl .i64 .i64 n (by omega) (by omega)
  have O0 := Lib.hid (show ∃ us : List Value, us.length = n ∧ OwnSS (w.alloc (.cells (madeCells #[.slice none 0 0] n) 30)) w.heap.size (w.alloc (.cells (madeCells #[.slice none 0 0] n) 30)).heap.size (.slice (some ⟨w.heap.size, 0, none⟩) n n) us (partS xss 0) from (by
    refine ⟨List.replicate n (.slice none 0 0), by simp, ?_⟩; have := ownSS_make w xss hl; rwa [hn] at this))
  have HA := Lib.hid (fun w' (hb : Below w.heap.size w w') k (hk : k < n) => (h.on hb).get k (by rw [hn]; exact hk))
  have HR := Lib.hid (fun k (hk : k < n) => hr k (by rw [hn]; exact hk))
  have HF : Hid (partS xss n = xss) := Lib.hid (by rw [← hn]; exact partS_all xss)
  have HS := Lib.hid (show ∀ k, partS xss (k + 1) = (partS xss k).set k (row xss k) from fun _ => rfl)
  rw [hn] at hl ⊢
  clear h hn hr
  go_enter Tryd.func60, Tryd.ntmps60
  go_wp2
  go_loopw [4] (fun i wr => ∃ k : Nat, k ≤ n ∧ i = .int .i64 k ∧ Hid (∃ us : List Value, us.length = n ∧ OwnSS wr w.heap.size wr.heap.size (.slice (some ⟨w.heap.size, 0, none⟩) n n) us (partS xss k)) ∧ Hid (Below w.heap.size w wr)) (fun i _ => n - (intOf i).toNat)
  case atStart => exact ⟨0, by omega, rfl, O0, Lib.hid ((Below.refl _ _).alloc (Nat.le_refl _) _)⟩
  case round =>
    obtain ⟨k, hk, rfl, ho, hb⟩ := hrel
    obtain ⟨wo, rfl⟩ : ∃ wo : World, wo = wr := ⟨_, rfl⟩
    clear O0
    by_cases hlt : k < n
    · obtain ⟨ad, A, cc, rfl, hc, hai⟩ := HA.out _ hb.out k hlt
      have hrk := HR.out k hlt
      have HI := Lib.hid hai
      clear hai
      go_wp2_with fail
      refine (toI_any A cc (row xss k) _ HI.out hrk).mono ?_
      rintro e w2 ⟨u, rfl, hu, hb2⟩
      obtain ⟨us, hul, hoo⟩ := ho.out
      have hoo2 := (hoo.on hb2).wider hb2.size
      obtain ⟨ua, uc, hform⟩ := Own.form hu
      have P : (w2.frozen? ⟨w.heap.size, k, none⟩ = false ∧ w2.cell? ⟨w.heap.size, k, none⟩ = some (val us k)) ∧ Hid (OwnSS (w2.setCell ⟨w.heap.size, k, none⟩ u) w.heap.size (w2.setCell ⟨w.heap.size, k, none⟩ u).heap.size (.slice (some ⟨w.heap.size, 0, none⟩) n n) (us.set k u) (partS xss (k + 1))) ∧ Hid (Below w.heap.size w (w2.setCell ⟨w.heap.size, k, none⟩ u)) := by
        have hkl : k < us.length := by rw [hul]; exact hlt
        have ow := hoo2.outer
        rw [hul] at ow
        refine ⟨⟨ow.frozenAt k, by rw [ow.cellAt k (by omega), val_get hkl, List.getElem?_eq_getElem hkl]⟩, ?_⟩
        have hp := OwnSS.put (u := u) (ys := row xss k) (j := k) (g := w.heap.size) (cap := n) (by rw [hul]; exact hoo2) hkl (own_mono hu hb.out.size) (fun i hi j h1 h2 => by
          have := hoo.his i hi j h1
          have := (hu.lt j h2).1
          omega) (fun j h1 h2 => by
          have := (hu.lt j h1).1
          have := hoo.hi0 _ (show (Value.slice (some ⟨w.heap.size, 0, none⟩) n n).ownBlock = some w.heap.size from rfl)
          omega)
        rw [hul, ← HS.out] at hp
        refine ⟨Lib.hid hp.1, Lib.hid ?_⟩
        exact (Below.on hb.out hb2).grown hp.2 (Nat.le_trans hb.out.size hb2.size) (fun j hj => by cases hj; exact Nat.le_refl _)
      obtain ⟨⟨f0, c0⟩, O1, B1⟩ := P
      have HUL : Hid ((us.set k u).length = n) := Lib.hid (by rw [List.length_set]; exact hul)
      clear hoo hoo2 ho hb hb2 hu hul hc
      subst hform
      go_wp2
      go_roundw
      case rel => exact ⟨k + 1, by omega, by go_num, Lib.hid ⟨_, HUL.out, O1.out⟩, B1⟩
      case measure => simp [intOf]; omega
    · obtain rfl : k = n := by omega
      obtain ⟨us, hul, hoo⟩ := ho.out
      have O1 : Hid (OwnSS wo w.heap.size wo.heap.size (.slice (some ⟨w.heap.size, 0, none⟩) k k) us xss) := Lib.hid (by have := hoo; rwa [HF.out] at this)
      clear ho hoo hul
      go_wp2
      go_ret
      exact ⟨_, us, rfl, O1.out, hb.out⟩

/-- A relation in memory of its own. -/
structure OwnCl (w : World) (lo hi : Nat) (rv mv : Value) (us : List Value) (xss : List (List Int)) (ms : List Int) : Prop where
  parts : ∃ mid, lo ≤ mid ∧ mid ≤ hi ∧ OwnSS w lo mid rv us xss ∧ Own w mid mv ms
  hi1 : ∀ k, mv.ownBlock = some k → k < hi
theorem OwnCl.on {w w' : World} {lo hi : Nat} {rv mv : Value} {us : List Value} {xss : List (List Int)} {ms : List Int} (h : OwnCl w lo hi rv mv us xss ms) (hb : Below w.heap.size w w') : OwnCl w' lo hi rv mv us xss ms := by
  obtain ⟨mid, a, b, c, d⟩ := h.parts
  exact ⟨⟨mid, a, b, c.on hb, own_below d hb⟩, h.hi1⟩
theorem OwnCl.wider {w : World} {lo hi hi' : Nat} {rv mv : Value} {us : List Value} {xss : List (List Int)} {ms : List Int} (h : OwnCl w lo hi rv mv us xss ms) (hl : hi ≤ hi') : OwnCl w lo hi' rv mv us xss ms := by
  obtain ⟨mid, a, b, c, d⟩ := h.parts
  exact ⟨⟨mid, a, by omega, c, d⟩, fun k hk => Nat.lt_of_lt_of_le (h.hi1 k hk) hl⟩
theorem OwnCl.lower {w : World} {lo lo' hi : Nat} {rv mv : Value} {us : List Value} {xss : List (List Int)} {ms : List Int} (h : OwnCl w lo hi rv mv us xss ms) (hl : lo' ≤ lo) : OwnCl w lo' hi rv mv us xss ms := by
  obtain ⟨mid, a, b, c, d⟩ := h.parts
  exact ⟨⟨mid, by omega, b, c.lower hl, d⟩, h.hi1⟩

theorem OwnSS.form {w : World} {lo hi : Nat} {v : Value} {us : List Value} {xss : List (List Int)} (h : OwnSS w lo hi v us xss) : ∃ a c, v = .slice a xss.length c := by
  obtain ⟨a, c, e, _⟩ := outer_cell h.outer
  exact ⟨a, c, by rw [e, h.len]⟩

set_option maxHeartbeats 1600000 in
theorem toCl_any (g : Int) (a b : Option Addr) (c d : Nat) (xss : List (List Int)) (ms : List Int) (w : World) (h : ArgSS w a xss) (h' : ArgI w b ms) (hl : xss.length ≤ 1048576) (hr : ∀ j, j < xss.length → (row xss j).length ≤ 1048576) (hm : ms.length ≤ 1048576) :
    Calls Tryd.prog 18 #[.agg #[.int .i64 g, .slice a xss.length c, .slice b ms.length d]] w fun e w' => ∃ rv mv us, e = .returned (.agg #[.int .i64 g, rv, mv]) ∧ OwnCl w' w.heap.size w'.heap.size rv mv us xss ms ∧ Below w.heap.size w w' := by
  have HA := Lib.hid h
  have HB := Lib.hid h'
  clear h h'
  go_enter Tryd.func18, Tryd.ntmps18
  go_wp2_with fail
  refine (toSS_any a c xss _ ((HA.out.on (below_grow _ _)).on (below_grow _ _) |>.on (below_grow _ _)) hl hr).mono ?_
  rintro e w1 ⟨rv, us, rfl, O1, hb1⟩
  obtain ⟨P1, R1, Q1, L1⟩ := boxes3 hb1
  obtain ⟨ra, rc, hform⟩ := O1.form
  have Q2 := Lib.hid (Q1.set 1 rv)
  have P2 := Lib.hid (P1.far (M := w.heap.size + 1 + 1) (j := 1) (by omega) rv)
  have R2 := Lib.hid (R1.far (M := w.heap.size + 1 + 1) (j := 1) (by omega) rv)
  have hs1 : w.heap.size + 1 + 1 < w1.heap.size := Q1.lt
  have hs0 := hb1.size
  have O2 : Hid (OwnSS (w1.setCell ⟨w.heap.size + 1 + 1, 1, none⟩ rv) (w.heap.size + 3) w1.heap.size rv us xss) := Lib.hid ((O1.lower (lo' := w.heap.size + 3) (by simp)).heap fun k h1 _ => Below.heap_setCell _ _ _ _ (by show k ≠ w.heap.size + 1 + 1; omega))
  have L2 : Hid (Below w.heap.size w (w1.setCell ⟨w.heap.size + 1 + 1, 1, none⟩ rv)) := Lib.hid (L1.setCell (by show w.heap.size ≤ w.heap.size + 1 + 1; omega) _)
  have hz : (w1.setCell ⟨w.heap.size + 1 + 1, 1, none⟩ rv).heap.size = w1.heap.size := by simp [World.setCell]
  have HZ := Lib.hid hz
  have c1 := P1.cell 2
  have f1 := Q1.frozen 1
  have d1 := Q1.cell 1
  simp at c1 d1
  clear P1 R1 Q1 L1 O1 hb1 hz
  subst hform
  go_wp2_with fail
  refine (toI_any b d ms _ (HB.out.on L2.out) hm).mono ?_
  rintro e w2 ⟨mv, rfl, O3, hb2⟩
  rw [HZ.out] at O3
  have P3 := P2.out.on hb2
  have R3 := R2.out.on hb2
  have Q3 := Q2.out.on hb2
  have O4 := O2.out.on hb2
  have L3 := Below.on L2.out hb2
  have hs2 : w1.heap.size ≤ w2.heap.size := by rw [← HZ.out]; exact hb2.size
  have FIN : Hid (∀ w' : World, w'.heap.size = w2.heap.size → (∀ k, w.heap.size + 3 ≤ k → w'.heap[k]? = w2.heap[k]?) → OwnCl w' w.heap.size w'.heap.size (.slice ra xss.length rc) mv us xss ms) := Lib.hid fun w' hw hk =>
    ⟨⟨w1.heap.size, by omega, by omega, (O4.heap fun k h1 _ => hk k h1).lower (by omega), own_heap O3 fun k h1 => hk k (by have := (O3.lt k h1).1; omega)⟩, fun k h1 => by rw [hw]; exact (O3.lt k h1).2⟩
  obtain ⟨ma, mc, hform⟩ := Own.form O3
  have f1 := Q3.frozen 2
  have d0 := Q3.cell 0
  have d1 := Q3.cell 1
  have d2 := Q3.cell 2
  have r0 := R3.cell 0
  have r1 := R3.cell 1
  have r2 := R3.cell 2
  have g0 := R3.frozen 0
  have g1 := R3.frozen 1
  have g2 := R3.frozen 2
  simp at d0 d1 d2 r0 r1 r2
  have L3' := Lib.hid L3
  clear P3 R3 Q3 O4 O3 L3 hb2 P2 R2 Q2 O2
  subst hform
  go_wp2
  refine bodyPost_ret (v := .agg #[.int .i64 g, .slice ra xss.length rc, .slice ma ms.length mc]) ?_ rfl ⟨_, _, us, rfl, FIN.out _ ?_ ?_, ?_⟩
  · simp [results, Tryd.results18, go_sem, r0, r1, r2]
  · simp [World.setCell]
  · intro k hk
    rw [Below.heap_setCell _ _ _ _ (by show k ≠ w.heap.size + 1; omega), Below.heap_setCell _ _ _ _ (by show k ≠ w.heap.size + 1; omega), Below.heap_setCell _ _ _ _ (by show k ≠ w.heap.size + 1; omega), Below.heap_setCell _ _ _ _ (by show k ≠ w.heap.size + 1 + 1; omega)]
  · exact (((L3'.out.setCell (by show w.heap.size ≤ w.heap.size + 1 + 1; omega) _).setCell (by show w.heap.size ≤ w.heap.size + 1; omega) _).setCell (by show w.heap.size ≤ w.heap.size + 1; omega) _).setCell (by show w.heap.size ≤ w.heap.size + 1; omega) _

/-- A talk on a relation in memory of its own. -/
structure OwnW (w : World) (lo hi : Nat) (sv tv : Value) (ss ts : List Int) : Prop where
  s : Own w lo sv ss
  t : Own w lo tv ts
  apart : ∀ k, sv.ownBlock = some k → tv.ownBlock = some k → False
  his : ∀ k, sv.ownBlock = some k → k < hi
  hit : ∀ k, tv.ownBlock = some k → k < hi
theorem OwnW.on {w w' : World} {lo hi : Nat} {sv tv : Value} {ss ts : List Int} (h : OwnW w lo hi sv tv ss ts) (hb : Below w.heap.size w w') : OwnW w' lo hi sv tv ss ts :=
  ⟨own_below h.s hb, own_below h.t hb, h.apart, h.his, h.hit⟩

set_option maxHeartbeats 1600000 in
theorem toW_any (q : Int) (a b : Option Addr) (c d : Nat) (ss ts : List Int) (w : World) (h : ArgI w a ss) (h' : ArgI w b ts) (hl : ss.length ≤ 1048576) (hm : ts.length ≤ 1048576) :
    Calls Tryd.prog 42 #[.agg #[.slice a ss.length c, .int .i64 q, .slice b ts.length d]] w fun e w' => ∃ sv tv, e = .returned (.agg #[sv, .int .i64 q, tv]) ∧ OwnW w' w.heap.size w'.heap.size sv tv ss ts ∧ Below w.heap.size w w' := by
  have HA := Lib.hid h
  have HB := Lib.hid h'
  clear h h'
  go_enter Tryd.func42, Tryd.ntmps42
  go_wp2_with fail
  refine (toI_any a c ss _ ((HA.out.on (below_grow _ _)).on (below_grow _ _) |>.on (below_grow _ _)) hl).mono ?_
  rintro e w1 ⟨rv, rfl, O1, hb1⟩
  obtain ⟨P1, R1, Q1, L1⟩ := boxes3 hb1
  obtain ⟨ra, rc, hform⟩ := Own.form O1
  have Q2 := Lib.hid ((Q1.set 0 rv).set 1 (.int .i64 q))
  have P2 := Lib.hid ((P1.far (M := w.heap.size + 1 + 1) (j := 0) (by omega) rv).far (M := w.heap.size + 1 + 1) (j := 1) (by omega) (.int .i64 q))
  have R2 := Lib.hid ((R1.far (M := w.heap.size + 1 + 1) (j := 0) (by omega) rv).far (M := w.heap.size + 1 + 1) (j := 1) (by omega) (.int .i64 q))
  have hs1 : w.heap.size + 1 + 1 < w1.heap.size := Q1.lt
  have hs0 := hb1.size
  have O2 : Hid (Own ((w1.setCell ⟨w.heap.size + 1 + 1, 0, none⟩ rv).setCell ⟨w.heap.size + 1 + 1, 1, none⟩ (.int .i64 q)) (w.heap.size + 3) rv ss ∧ ∀ k, rv.ownBlock = some k → k < w1.heap.size) :=
    Lib.hid ⟨own_heap (own_mono O1 (B' := w.heap.size + 3) (by simp)) fun k h1 => by
      have := (O1.lt k h1).1
      simp at this
      rw [Below.heap_setCell _ _ _ _ (by show k ≠ w.heap.size + 1 + 1; omega), Below.heap_setCell _ _ _ _ (by show k ≠ w.heap.size + 1 + 1; omega)], fun k h1 => (O1.lt k h1).2⟩
  have L2 : Hid (Below w.heap.size w ((w1.setCell ⟨w.heap.size + 1 + 1, 0, none⟩ rv).setCell ⟨w.heap.size + 1 + 1, 1, none⟩ (.int .i64 q))) := Lib.hid ((L1.setCell (by show w.heap.size ≤ w.heap.size + 1 + 1; omega) _).setCell (by show w.heap.size ≤ w.heap.size + 1 + 1; omega) _)
  have hz : ((w1.setCell ⟨w.heap.size + 1 + 1, 0, none⟩ rv).setCell ⟨w.heap.size + 1 + 1, 1, none⟩ (.int .i64 q)).heap.size = w1.heap.size := by simp [World.setCell]
  have HZ := Lib.hid hz
  have c1 := P1.cell 1
  have c2 := P1.cell 2
  have f0 := Q1.frozen 0
  have f1 := Q1.frozen 1
  have d0 := Q1.cell 0
  have d1 := Q1.cell 1
  simp at c1 c2 d0 d1
  clear P1 R1 Q1 L1 O1 hb1 hz
  subst hform
  go_wp2_with fail
  refine (toI_any b d ts _ (HB.out.on L2.out) hm).mono ?_
  rintro e w2 ⟨mv, rfl, O3, hb2⟩
  rw [HZ.out] at O3
  have P3 := P2.out.on hb2
  have R3 := R2.out.on hb2
  have Q3 := Q2.out.on hb2
  have O4 := own_below O2.out.1 hb2
  have O5 := O2.out.2
  have L3 := Below.on L2.out hb2
  have hs2 : w1.heap.size ≤ w2.heap.size := by rw [← HZ.out]; exact hb2.size
  have FIN : Hid (∀ w' : World, w'.heap.size = w2.heap.size → (∀ k, w.heap.size + 3 ≤ k → w'.heap[k]? = w2.heap[k]?) → OwnW w' w.heap.size w'.heap.size (.slice ra ss.length rc) mv ss ts) := Lib.hid fun w' hw hk =>
    ⟨own_mono (own_heap O4 fun k h1 => hk k (O4.lt k h1).1) (by omega), own_mono (own_heap O3 fun k h1 => hk k (by have := (O3.lt k h1).1; omega)) (by omega), fun k h1 h2 => by have := O5 k h1; have := (O3.lt k h2).1; omega, fun k h1 => by rw [hw]; exact (O4.lt k h1).2, fun k h1 => by rw [hw]; exact (O3.lt k h1).2⟩
  obtain ⟨ma, mc, hform⟩ := Own.form O3
  have f1 := Q3.frozen 2
  have d0 := Q3.cell 0
  have d1 := Q3.cell 1
  have d2 := Q3.cell 2
  have r0 := R3.cell 0
  have r1 := R3.cell 1
  have r2 := R3.cell 2
  have g0 := R3.frozen 0
  have g1 := R3.frozen 1
  have g2 := R3.frozen 2
  simp at d0 d1 d2 r0 r1 r2
  have L3' := Lib.hid L3
  clear P3 R3 Q3 O4 O5 O3 L3 hb2 P2 R2 Q2 O2
  subst hform
  go_wp2
  refine bodyPost_ret (v := .agg #[.slice ra ss.length rc, .int .i64 q, .slice ma ts.length mc]) ?_ rfl ⟨_, _, rfl, FIN.out _ ?_ ?_, ?_⟩
  · simp [results, Tryd.results42, go_sem, r0, r1, r2]
  · simp [World.setCell]
  · intro k hk
    rw [Below.heap_setCell _ _ _ _ (by show k ≠ w.heap.size + 1; omega), Below.heap_setCell _ _ _ _ (by show k ≠ w.heap.size + 1; omega), Below.heap_setCell _ _ _ _ (by show k ≠ w.heap.size + 1; omega), Below.heap_setCell _ _ _ _ (by show k ≠ w.heap.size + 1 + 1; omega)]
  · exact (((L3'.out.setCell (by show w.heap.size ≤ w.heap.size + 1 + 1; omega) _).setCell (by show w.heap.size ≤ w.heap.size + 1; omega) _).setCell (by show w.heap.size ≤ w.heap.size + 1; omega) _).setCell (by show w.heap.size ≤ w.heap.size + 1; omega) _
end Go.Proofs.YtopjlbihhbjhnaaDoor
