/- impl.WordsOk. -/
import Derived.Test.YtclihkcigppgjaaDoorTimI
namespace Go.Proofs.YtclihkcigppgjaaDoor
open Go.RowKit

/-- A world behind W: the blocks below B are as they were. -/
def InW (W : World) (B : Nat) (w' : World) : Prop := Below B W w' ∧ B ≤ w'.heap.size
theorem InW.on {W w1 w2 : World} {B : Nat} (h : InW W B w1) (hb : Below w1.heap.size w1 w2) : InW W B w2 := ⟨h.1.trans (hb.mono h.2), Nat.le_trans h.2 hb.size⟩
theorem InW.start {W w1 : World} {B : Nat} (hB : B ≤ W.heap.size) (hb : Below W.heap.size W w1) : InW W B w1 := ⟨hb.mono hB, Nat.le_trans hB hb.size⟩
theorem InW.box {W w' : World} {B N : Nat} {cs : List Value} (h : InW W B w') (hb : Box W N cs) (hN : N < B) : Box w' N cs := hb.low h.1 hN
theorem InW.grown {W w1 w2 : World} {B : Nat} {r : Option Nat} (h : InW W B w1) (hg : w1.grownBy w2 r) (hr : ∀ k, r = some k → B ≤ k) : InW W B w2 := ⟨h.1.grown hg h.2 hr, Nat.le_trans h.2 hg.size⟩
/-- Two boxes at a function's head. -/
theorem head2 (w : World) (P R : List Value) (T1 T2 : TypeId) : ∀ w', InW ((w.alloc (.cells P.toArray T1)).alloc (.cells R.toArray T2)) (w.heap.size + 2) w' → Box w' w.heap.size P ∧ Box w' (w.heap.size + 1) R ∧ Below w.heap.size w w' := by
  intro w' h
  obtain ⟨b1, b2, b3⟩ := boxes2 (Below.refl ((w.alloc (.cells P.toArray T1)).alloc (.cells R.toArray T2)).heap.size ((w.alloc (.cells P.toArray T1)).alloc (.cells R.toArray T2)))
  exact ⟨h.box b1 (by omega), h.box b2 (by omega), b3.trans (h.1.mono (by omega))⟩
/-- Lists of the call's own, one after the other. -/
def K2 (W : World) (B : Nat) (xs ys : List Int) : Option (Value × Option Value) → World → Prop
  | none, w' => InW W B w'
  | some (v, none), w' => InW W B w' ∧ Own w' B v xs
  | some (v, some u), w' => InW W B w' ∧ Own w' B v xs ∧ Own w' B u ys
theorem K2.inw {W : World} {B : Nat} {xs ys : List Int} {z : Option (Value × Option Value)} {w' : World} (h : K2 W B xs ys z w') : InW W B w' := by
  match z, h with
  | none, h => exact h
  | some (_, none), h => exact h.1
  | some (_, some _), h => exact h.1
theorem K2.on {W : World} {B : Nat} {xs ys : List Int} {z : Option (Value × Option Value)} {w1 w2 : World} (h : K2 W B xs ys z w1) (hb : Below w1.heap.size w1 w2) : K2 W B xs ys z w2 := by
  match z, h with
  | none, h => exact InW.on h hb
  | some (_, none), h => exact ⟨h.1.on hb, own_below h.2 hb⟩
  | some (_, some _), h => exact ⟨h.1.on hb, own_below h.2.1 hb, own_below h.2.2 hb⟩

theorem wok_parts (g : Int) (rows : List (List Int)) (makes says : List Int) (q : Int) (tells : List Int) : wokB g rows makes says q tells = (saysB g rows makes says && (lotB g rows makes tells && (exB g q && sameB (mkAll g rows tells) (timesAll g says makes q)))) := by
  unfold wokB saysB; simp only [Bool.and_assoc]
theorem saysB_true {g : Int} {rows : List (List Int)} {makes says : List Int} : saysB g rows makes says = true ↔ Cl g rows makes ∧ says.length = rows.length ∧ allEl g says = true := by
  unfold saysB; simp only [Bool.and_eq_true, clB_true, decide_eq_true_eq]

set_option maxHeartbeats 1600000 in
theorem iwok_any (g : Int) (rv mv sv : Value) (q : Int) (tv : Value) (rows : List (List Int)) (makes says tells : List Int) (w : World) (G : Gr w) (h : Cw w rv mv rows makes) (hs : Ints w sv says) (ht : Ints w tv tells) :
    Calls Tryd.prog 11 #[.agg #[.int .i64 g, rv, mv], .agg #[sv, .int .i64 q, tv]] w fun e w' => e = .returned (.bool (wokB g rows makes says q tells)) ∧ Below w.heap.size w w' := by
  have HH := Lib.hid h
  have HS := Lib.hid hs
  have HT := Lib.hid ht
  have HG := Lib.hid G
  have HBX := Lib.hid (head2 w [.int .i64 g, rv, mv] [sv, .int .i64 q, tv] 26 28)
  have I0 : Hid (InW ((w.alloc (.cells #[.int .i64 g, rv, mv] 26)).alloc (.cells #[sv, .int .i64 q, tv] 28)) (w.heap.size + 2) ((w.alloc (.cells #[.int .i64 g, rv, mv] 26)).alloc (.cells #[sv, .int .i64 q, tv] 28))) := Lib.hid (InW.start (by simp) (Below.refl _ _))
  clear h hs ht G
  cases h1 : saysB g rows makes says
  · have HX := Lib.hid (show wokB g rows makes says q tells = false by rw [wok_parts, h1]; rfl)
    go_enter Tryd.func11, Tryd.ntmps11
    go_wp2_with fail
    refine (isays_any g rv mv sv rows makes says _ (HG.out.on (HBX.out _ I0.out).2.2) (HH.out.on (HBX.out _ I0.out).2.2) (HS.out.below (HBX.out _ I0.out).2.2)).mono ?_
    rintro e w1 ⟨rfl, hb1⟩
    rw [h1]
    have I1 := Lib.hid (I0.out.on hb1)
    clear hb1
    go_wp2
    go_ret
    exact ⟨by rw [HX.out]; rfl, (HBX.out _ I1.out).2.2⟩
  cases h2 : lotB g rows makes tells
  · have HX := Lib.hid (show wokB g rows makes says q tells = false by rw [wok_parts, h1, h2]; rfl)
    go_enter Tryd.func11, Tryd.ntmps11
    go_wp2_with fail
    refine (isays_any g rv mv sv rows makes says _ (HG.out.on (HBX.out _ I0.out).2.2) (HH.out.on (HBX.out _ I0.out).2.2) (HS.out.below (HBX.out _ I0.out).2.2)).mono ?_
    rintro e w1 ⟨rfl, hb1⟩
    rw [h1]
    have I1 := Lib.hid (I0.out.on hb1)
    have p0 := (HBX.out _ I1.out).1.cell 0
    have p1 := (HBX.out _ I1.out).1.cell 1
    have p2 := (HBX.out _ I1.out).1.cell 2
    have r0 := (HBX.out _ I1.out).2.1.cell 0
    have r1 := (HBX.out _ I1.out).2.1.cell 1
    have r2 := (HBX.out _ I1.out).2.1.cell 2
    simp at p0 p1 p2 r0 r1 r2
    clear hb1
    go_wp2_with fail
    refine (ilot_any g rv mv tv rows makes tells _ (HG.out.on (HBX.out _ I1.out).2.2) (HH.out.on (HBX.out _ I1.out).2.2) (HT.out.below (HBX.out _ I1.out).2.2)).mono ?_
    rintro e w2 ⟨rfl, hb2⟩
    rw [h2]
    have I2 := Lib.hid (I1.out.on hb2)
    clear hb2 p0 p1 p2 r0 r1 r2
    go_wp2
    go_ret
    exact ⟨by rw [HX.out]; rfl, (HBX.out _ I2.out).2.2⟩
  have hlot := lotB_true.1 h2
  have hsay := saysB_true.1 h1
  cases h3 : exB g q
  · have HX := Lib.hid (show wokB g rows makes says q tells = false by rw [wok_parts, h1, h2, h3]; rfl)
    clear hlot hsay
    go_enter Tryd.func11, Tryd.ntmps11
    go_wp2_with fail
    refine (isays_any g rv mv sv rows makes says _ (HG.out.on (HBX.out _ I0.out).2.2) (HH.out.on (HBX.out _ I0.out).2.2) (HS.out.below (HBX.out _ I0.out).2.2)).mono ?_
    rintro e w1 ⟨rfl, hb1⟩
    rw [h1]
    have I1 := Lib.hid (I0.out.on hb1)
    have p0 := (HBX.out _ I1.out).1.cell 0
    have p1 := (HBX.out _ I1.out).1.cell 1
    have p2 := (HBX.out _ I1.out).1.cell 2
    have r0 := (HBX.out _ I1.out).2.1.cell 0
    have r1 := (HBX.out _ I1.out).2.1.cell 1
    have r2 := (HBX.out _ I1.out).2.1.cell 2
    simp at p0 p1 p2 r0 r1 r2
    clear hb1
    go_wp2_with fail
    refine (ilot_any g rv mv tv rows makes tells _ (HG.out.on (HBX.out _ I1.out).2.2) (HH.out.on (HBX.out _ I1.out).2.2) (HT.out.below (HBX.out _ I1.out).2.2)).mono ?_
    rintro e w2 ⟨rfl, hb2⟩
    rw [h2]
    have I2 := Lib.hid (I1.out.on hb2)
    clear hb2 p0 p1 p2 r0 r1 r2
    have p0 := (HBX.out _ I2.out).1.cell 0
    have p1 := (HBX.out _ I2.out).1.cell 1
    have p2 := (HBX.out _ I2.out).1.cell 2
    have r0 := (HBX.out _ I2.out).2.1.cell 0
    have r1 := (HBX.out _ I2.out).2.1.cell 1
    have r2 := (HBX.out _ I2.out).2.1.cell 2
    simp at p0 p1 p2 r0 r1 r2
    go_wp2_with fail
    refine (iex_l g q _ (HG.out.on (HBX.out _ I2.out).2.2)).mono ?_
    rintro e w3 ⟨rfl, hb3⟩
    rw [h3]
    have I3 := Lib.hid (I2.out.on hb3)
    clear hb3 p0 p1 p2 r0 r1 r2
    go_wp2
    go_ret
    exact ⟨by rw [HX.out]; rfl, (HBX.out _ I3.out).2.2⟩
  · have HX := Lib.hid (show wokB g rows makes says q tells = sameB (mkAll g rows tells) (timesAll g says makes q) by rw [wok_parts, h1, h2, h3]; rfl)
    have HR := Lib.hid (rmk_yes h2)
    have HL1 := Lib.hid (show (mkAll g rows tells).length ≤ maxLen by rw [mkAll_len]; have := hlot.cl.r3; unfold maxLen; omega)
    have HL2 := Lib.hid (show (timesAll g says makes q).length ≤ maxLen by rw [timesAll_len, hsay.2.1]; have := hlot.cl.r3; unfold maxLen; omega)
    have HL3 := Lib.hid (show says.length ≤ makes.length by rw [hsay.2.1, hlot.cl.m]; exact Nat.le_refl _)
    have HL4 := Lib.hid (show says.length ≤ 1000 by rw [hsay.2.1]; have := hlot.cl.r3; omega)
    clear hlot hsay
    go_enter Tryd.func11, Tryd.ntmps11
    go_wp2_with fail
    refine (isays_any g rv mv sv rows makes says _ (HG.out.on (HBX.out _ I0.out).2.2) (HH.out.on (HBX.out _ I0.out).2.2) (HS.out.below (HBX.out _ I0.out).2.2)).mono ?_
    rintro e w1 ⟨rfl, hb1⟩
    rw [h1]
    have I1 := Lib.hid (I0.out.on hb1)
    have p0 := (HBX.out _ I1.out).1.cell 0
    have p1 := (HBX.out _ I1.out).1.cell 1
    have p2 := (HBX.out _ I1.out).1.cell 2
    have r0 := (HBX.out _ I1.out).2.1.cell 0
    have r1 := (HBX.out _ I1.out).2.1.cell 1
    have r2 := (HBX.out _ I1.out).2.1.cell 2
    simp at p0 p1 p2 r0 r1 r2
    clear hb1
    go_wp2_with fail
    refine (ilot_any g rv mv tv rows makes tells _ (HG.out.on (HBX.out _ I1.out).2.2) (HH.out.on (HBX.out _ I1.out).2.2) (HT.out.below (HBX.out _ I1.out).2.2)).mono ?_
    rintro e w2 ⟨rfl, hb2⟩
    rw [h2]
    have I2 := Lib.hid (I1.out.on hb2)
    clear hb2 p0 p1 p2 r0 r1 r2
    have p0 := (HBX.out _ I2.out).1.cell 0
    have p1 := (HBX.out _ I2.out).1.cell 1
    have p2 := (HBX.out _ I2.out).1.cell 2
    have r0 := (HBX.out _ I2.out).2.1.cell 0
    have r1 := (HBX.out _ I2.out).2.1.cell 1
    have r2 := (HBX.out _ I2.out).2.1.cell 2
    simp at p0 p1 p2 r0 r1 r2
    go_wp2_with fail
    refine (iex_l g q _ (HG.out.on (HBX.out _ I2.out).2.2)).mono ?_
    rintro e w3 ⟨rfl, hb3⟩
    rw [h3]
    have I3 : Hid (K2 ((w.alloc (.cells #[.int .i64 g, rv, mv] 26)).alloc (.cells #[sv, .int .i64 q, tv] 28)) (w.heap.size + 2) (mkAll g rows tells) (timesAll g says makes q) none w3.drew) := Lib.hid (K2.on (z := none) (w1 := w3) (I2.out.on hb3) (Below.refl _ _).drew)
    clear hb3 p0 p1 p2 r0 r1 r2
    obtain ⟨b, hbb⟩ : ∃ b, sameB (mkAll g rows tells) (timesAll g says makes q) = b := ⟨_, rfl⟩
    have HBB := Lib.hid hbb
    rw [hbb] at HX
    clear hbb
    go_wp2_with fail
    apply wp_region_H (Z := Option (Value × Option Value)) (S := fun k => k == 3 || k == 9 || k == 10) (C := fun z w' => Hid (K2 ((w.alloc (.cells #[.int .i64 g, rv, mv] 26)).alloc (.cells #[sv, .int .i64 q, tv] 28)) (w.heap.size + 2) (mkAll g rows tells) (timesAll g says makes q) z w')) [0, 1, 2, 4, 5, 6, 7, 8] none
    · kernel_rfl
    · kernel_rfl
    · kernel_rfl
    · exact ⟨rfl, rfl, rfl, rfl, rfl, rfl, rfl, rfl, trivial⟩
    · rfl
    · decide
    · exact I3
    · intro z
      dsimp only [pickL, nthO]
      repeat (first | go_big_quiet_skip | (go_big_quiet_want; go_big_quiet_op; first | go_big_quiet_on | (refine ⟨_, fun _ _ => rfl, ?_⟩; go_big_quiet_on)))
      go_big_quiet_want
      go_big_quiet_op
      refine ⟨.agg #[.int .i64 g, rv, mv], fun w' hw' => ?_, ?_⟩
      · have q := (HBX.out _ hw'.out.inw).1
        have q0 := q.cell 0; have q1 := q.cell 1; have q2 := q.cell 2
        simp at q0 q1 q2
        simp [go_sem, q0, q1, q2]
      go_big_quiet_on
      repeat (first | go_big_quiet_skip | (go_big_quiet_want; go_big_quiet_op; first | go_big_quiet_on | (refine ⟨_, fun _ _ => rfl, ?_⟩; go_big_quiet_on)))
      go_big_quiet_want
      go_big_quiet_op
      refine ⟨tv, fun w' hw' => ?_, ?_⟩
      · have q := (HBX.out _ hw'.out.inw).2.1.cell 2
        try simp at q
        simp [go_sem, q]
      go_big_quiet_on
      repeat (first | go_big_quiet_skip | (go_big_quiet_want; go_big_quiet_op; first | go_big_quiet_on | (refine ⟨_, fun _ _ => rfl, ?_⟩; go_big_quiet_on)))
      go_big_quiet_want
      go_big_quiet_op
      refine ⟨.agg #[.int .i64 g, rv, mv], fun w' hw' => ?_, ?_⟩
      · have q := (HBX.out _ hw'.out.inw).1
        have q0 := q.cell 0; have q1 := q.cell 1; have q2 := q.cell 2
        simp at q0 q1 q2
        simp [go_sem, q0, q1, q2]
      go_big_quiet_on
      repeat (first | go_big_quiet_skip | (go_big_quiet_want; go_big_quiet_op; first | go_big_quiet_on | (refine ⟨_, fun _ _ => rfl, ?_⟩; go_big_quiet_on)))
      go_big_quiet_want
      go_big_quiet_op
      refine ⟨sv, fun w' hw' => ?_, ?_⟩
      · have q := (HBX.out _ hw'.out.inw).2.1.cell 0
        try simp at q
        simp [go_sem, q]
      go_big_quiet_on
      repeat (first | go_big_quiet_skip | (go_big_quiet_want; go_big_quiet_op; first | go_big_quiet_on | (refine ⟨_, fun _ _ => rfl, ?_⟩; go_big_quiet_on)))
      go_big_quiet_want
      go_big_quiet_op
      refine ⟨.int .i64 q, fun w' hw' => ?_, ?_⟩
      · have q := (HBX.out _ hw'.out.inw).2.1.cell 1
        try simp at q
        simp [go_sem, q]
      go_big_quiet_on
      exact wpQuiet_nil rfl
    · refine wpAnyH_call (i := 3) (d := some 28) 46 #[.agg #[.int .i64 g, rv, mv], tv] rfl (by kernel_rfl) rfl rfl (by kernel_rfl) (fun _ => by kernel_rfl) fun wa hc => ?_
      have hf := (HBX.out _ hc.out.inw).2.2
      refine (irmk_any g rv mv tv rows makes tells wa (HG.out.on hf) (HH.out.on hf) (HT.out.below hf)).mono ?_
      rintro e wb ⟨v, rfl, ho, hb⟩
      rw [HR.out] at ho
      refine ⟨v, rfl, some (v, none), Lib.hid ⟨InW.on hc.out.inw hb, own_mono ho hc.out.inw.2⟩, ?_⟩
      clear hc hf ho hb
      refine wpAnyH_call (i := 9) (d := some 34) 47 #[.agg #[.int .i64 g, rv, mv], sv, .int .i64 q] rfl (by kernel_rfl) rfl rfl (by kernel_rfl) (fun _ => by kernel_rfl) fun wc hc => ?_
      have hf := (HBX.out _ hc.out.inw).2.2
      refine (itimes_any g rv mv sv makes says q wc (HG.out.on hf) (HH.out.on hf).makes (HS.out.below hf) HL3.out HL4.out).mono ?_
      rintro e wd ⟨u, rfl, ho, hb⟩
      refine ⟨u, rfl, some (v, some u), Lib.hid ⟨InW.on hc.out.inw hb, own_below hc.out.2 hb, own_mono ho hc.out.inw.2⟩, ?_⟩
      clear hc hf ho hb
      refine wpAnyH_call (i := 10) (d := some 35) 45 #[v, u] rfl (by kernel_rfl) rfl rfl (by kernel_rfl) (fun _ => by kernel_rfl) fun we hc => ?_
      refine (slEq_any v u _ _ we (Ints.of_own hc.out.2.1 HL1.out) (Ints.of_own hc.out.2.2 HL2.out)).mono ?_
      rintro e wf ⟨rfl, hb⟩
      rw [HBB.out]
      refine ⟨_, rfl, some (v, some u), Lib.hid (K2.on hc.out hb), ?_⟩
      refine wpAnyH_assign (i := 11) (d := some 4) _ rfl (by kernel_rfl) rfl rfl (by kernel_rfl) rfl ?_
      refine ⟨by kernel_rfl, fun wz hz => ?_⟩
      simp only [Act.put, Act.eval]
      go_wp2
      go_ret
      exact ⟨by rw [HX.out]; rfl, (HBX.out _ hz.out.inw).2.2⟩
end Go.Proofs.YtclihkcigppgjaaDoor
