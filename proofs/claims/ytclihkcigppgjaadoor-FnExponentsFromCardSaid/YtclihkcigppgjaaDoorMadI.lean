/- impl.WordsMade. -/
import Derived.Test.YtclihkcigppgjaaDoorRegionJ
import Derived.Test.YtclihkcigppgjaaDoorMark
import Derived.Test.YtclihkcigppgjaaDoorBPure
namespace Go.Proofs.YtclihkcigppgjaaDoor
open Go.RowKit

def wdQ (b : Bool) (q : Int) : Int := if b then q else 0
def wdL (b : Bool) (xs : List Int) : List Int := if b then xs else []
theorem OwnW.nil (w : World) (lo hi : Nat) : OwnW w lo hi (.slice none 0 0) (.slice none 0 0) [] [] :=
  ⟨World.ownsRow_nil _ _ _ _, World.ownsRow_nil _ _ _ _, fun k hk => by simp [Value.ownBlock] at hk, fun k hk => by simp [Value.ownBlock] at hk, fun k hk => by simp [Value.ownBlock] at hk⟩
/-- A talk stored into the result's box. -/
theorem own_set3 {w : World} {B N : Nat} {v x y z : Value} {xs : List Int} (h : Own w B v xs) (hN : ∀ k, v.ownBlock = some k → k ≠ N) : Own (((w.setCell ⟨N, 0, none⟩ x).setCell ⟨N, 1, none⟩ y).setCell ⟨N, 2, none⟩ z) B v xs :=
  own_heap h fun k hk => by rw [Below.heap_setCell _ _ _ _ (hN k hk), Below.heap_setCell _ _ _ _ (hN k hk), Below.heap_setCell _ _ _ _ (hN k hk)]
theorem set3_size (w : World) (N : Nat) (x y z : Value) : (((w.setCell ⟨N, 0, none⟩ x).setCell ⟨N, 1, none⟩ y).setCell ⟨N, 2, none⟩ z).heap.size = w.heap.size := by simp [World.setCell]
theorem below_set3 {w w1 : World} {N : Nat} {x y z : Value} (h : Below w.heap.size w w1) (hN : w.heap.size ≤ N) : Below w.heap.size w (((w1.setCell ⟨N, 0, none⟩ x).setCell ⟨N, 1, none⟩ y).setCell ⟨N, 2, none⟩ z) := ((h.setCell hN _).setCell hN _).setCell hN _
theorem words_fin {w w1 : World} {N B B' : Nat} {sv tv x y z : Value} {ss ts : List Int} (h1 : Own w1 B sv ss) (h2 : Own w1 B' tv ts) (n1 : N < B) (n2 : N < B') (a : ∀ k, sv.ownBlock = some k → tv.ownBlock = some k → False) (hw : w.heap.size ≤ N) :
    OwnW (((w1.setCell ⟨N, 0, none⟩ x).setCell ⟨N, 1, none⟩ y).setCell ⟨N, 2, none⟩ z) w.heap.size (((w1.setCell ⟨N, 0, none⟩ x).setCell ⟨N, 1, none⟩ y).setCell ⟨N, 2, none⟩ z).heap.size sv tv ss ts := by
  refine ⟨own_mono (own_set3 h1 fun k hk => by have := (h1.lt k hk).1; omega) (by omega), own_mono (own_set3 h2 fun k hk => by have := (h2.lt k hk).1; omega) (by omega), a, fun k hk => ?_, fun k hk => ?_⟩
  · rw [set3_size]; exact (h1.lt k hk).2
  · rw [set3_size]; exact (h2.lt k hk).2

def mdB (g : Int) (rows : List (List Int)) (makes : List Int) (q : Int) (tells : List Int) : Bool := lotB g rows makes tells && exB g q
def ofB (g : Int) (rows : List (List Int)) (makes es further : List Int) (q : Int) : Bool := solvB g rows makes es && (lotB g rows makes further && exB g q)
theorem ofB_parts {g : Int} {rows : List (List Int)} {makes es further : List Int} {q : Int} (h : ofB g rows makes es further q = true) : Lot g rows makes es ∧ Lot g rows makes further ∧ exB g q = true := by
  unfold ofB solvB at h
  simp only [Bool.and_eq_true] at h
  exact ⟨lotB_true.1 h.1.1, lotB_true.1 h.2.1, h.2.2⟩

set_option maxHeartbeats 6400000 in
theorem imade_any (g : Int) (rv mv : Value) (q : Int) (tlv : Value) (rows : List (List Int)) (makes tells : List Int) (w : World) (G : Gr w) (h : Cw w rv mv rows makes) (ht : Ints w tlv tells) :
    Calls Tryd.prog 13 #[.agg #[.int .i64 g, rv, mv], .int .i64 q, tlv] w fun e w' => ∃ sv tv, e = .returned (.tuple #[.agg #[sv, .int .i64 (wdQ (mdB g rows makes q tells) q), tv], .bool (mdB g rows makes q tells)]) ∧ OwnW w' w.heap.size w'.heap.size sv tv (wdL (mdB g rows makes q tells) (saysUp g rows makes q tells)) (wdL (mdB g rows makes q tells) (tells)) ∧ Below w.heap.size w w' := by
  have HG := Lib.hid G
  have HH := Lib.hid h
  have HT := Lib.hid ht
  have HBX := Lib.hid (head2 w [.int .i64 g, rv, mv] [.slice none 0 0, .int .i64 0, .slice none 0 0] 26 28)
  have I0 : Hid (InW ((w.alloc (.cells #[.int .i64 g, rv, mv] 26)).alloc (.cells #[.slice none 0 0, .int .i64 0, .slice none 0 0] 28)) (w.heap.size + 2) ((w.alloc (.cells #[.int .i64 g, rv, mv] 26)).alloc (.cells #[.slice none 0 0, .int .i64 0, .slice none 0 0] 28))) := Lib.hid (InW.start (by simp) (Below.refl _ _))
  clear h ht G
  cases h1 : lotB g rows makes tells
  · have HX := Lib.hid (show mdB g rows makes q tells = false by unfold mdB; rw [h1]; rfl)
    go_enter Tryd.func13, Tryd.ntmps13
    go_wp2_with fail
    refine (ilot_any g rv mv tlv rows makes tells _ (HG.out.on (HBX.out _ I0.out).2.2) (HH.out.on (HBX.out _ I0.out).2.2) (HT.out.below (HBX.out _ I0.out).2.2)).mono ?_
    rintro e w1 ⟨rfl, hb⟩
    rw [h1]
    have I1 := Lib.hid (I0.out.on hb)
    clear hb
    have r0 := (HBX.out _ I1.out).2.1.cell 0
    have r1 := (HBX.out _ I1.out).2.1.cell 1
    have r2 := (HBX.out _ I1.out).2.1.cell 2
    have f0 := (HBX.out _ I1.out).2.1.frozen 0
    have f1 := (HBX.out _ I1.out).2.1.frozen 1
    have f2 := (HBX.out _ I1.out).2.1.frozen 2
    simp at r0 r1 r2
    have HF : Hid (Below w.heap.size w w1) := Lib.hid (HBX.out _ I1.out).2.2
    go_wp2
    refine bodyPost_ret (v := .tuple #[.agg #[.slice none 0 0, .int .i64 0, .slice none 0 0], .bool false]) ?_ rfl ⟨_, _, by rw [HX.out]; rfl, ?_, ?_⟩
    · simp [results, Tryd.results13, go_sem, r0, r1, r2]
    · rw [HX.out]; exact OwnW.nil _ _ _
    · first | exact below_set3 HF.out (by omega) | exact HF.out
  cases h2 : exB g q
  · have HX := Lib.hid (show mdB g rows makes q tells = false by unfold mdB; rw [h1, h2]; rfl)
    go_enter Tryd.func13, Tryd.ntmps13
    go_wp2_with fail
    refine (ilot_any g rv mv tlv rows makes tells _ (HG.out.on (HBX.out _ I0.out).2.2) (HH.out.on (HBX.out _ I0.out).2.2) (HT.out.below (HBX.out _ I0.out).2.2)).mono ?_
    rintro e w1 ⟨rfl, hb⟩
    rw [h1]
    have I1 := Lib.hid (I0.out.on hb)
    clear hb
    have p0 := (HBX.out _ I1.out).1.cell 0
    have p1 := (HBX.out _ I1.out).1.cell 1
    have p2 := (HBX.out _ I1.out).1.cell 2
    simp at p0 p1 p2 
    go_wp2_with fail
    refine (iex_l g q _ (HG.out.on (HBX.out _ I1.out).2.2)).mono ?_
    rintro e w2 ⟨rfl, hb⟩
    rw [h2]
    have I2 := Lib.hid (I1.out.on hb)
    clear hb p0 p1 p2
    have r0 := (HBX.out _ I2.out).2.1.cell 0
    have r1 := (HBX.out _ I2.out).2.1.cell 1
    have r2 := (HBX.out _ I2.out).2.1.cell 2
    have f0 := (HBX.out _ I2.out).2.1.frozen 0
    have f1 := (HBX.out _ I2.out).2.1.frozen 1
    have f2 := (HBX.out _ I2.out).2.1.frozen 2
    simp at r0 r1 r2
    have HF : Hid (Below w.heap.size w w2) := Lib.hid (HBX.out _ I2.out).2.2
    go_wp2
    refine bodyPost_ret (v := .tuple #[.agg #[.slice none 0 0, .int .i64 0, .slice none 0 0], .bool false]) ?_ rfl ⟨_, _, by rw [HX.out]; rfl, ?_, ?_⟩
    · simp [results, Tryd.results13, go_sem, r0, r1, r2]
    · rw [HX.out]; exact OwnW.nil _ _ _
    · first | exact below_set3 HF.out (by omega) | exact HF.out
  have HX := Lib.hid (show mdB g rows makes q tells = true by unfold mdB; rw [h1, h2]; rfl)
  have hlot := lotB_true.1 h1
  obtain ⟨_, q0, q1⟩ := exB_true.1 h2
  have q2 : q ≤ 22 := by have := ord_bd hlot.cl.g0 hlot.cl.g4; omega
  clear q1
  have HMM := Lib.hid (show (mkAll g rows tells).length ≤ makes.length by rw [mkAll_len, hlot.cl.m]; exact Nat.le_refl _)
  have HM3 := Lib.hid (show (mkAll g rows tells).length ≤ 1000 by rw [mkAll_len]; have := hlot.cl.r3; omega)
  have HT3 := Lib.hid (show tells.length ≤ 1000 by rw [hlot.len]; have := hlot.cl.u2; omega)
  have HR := Lib.hid (rmk_yes h1)
  clear hlot
  go_enter Tryd.func13, Tryd.ntmps13
  go_wp2_with fail
  refine (ilot_any g rv mv tlv rows makes tells _ (HG.out.on (HBX.out _ I0.out).2.2) (HH.out.on (HBX.out _ I0.out).2.2) (HT.out.below (HBX.out _ I0.out).2.2)).mono ?_
  rintro e w1 ⟨rfl, hb⟩
  rw [h1]
  have I1 := Lib.hid (I0.out.on hb)
  clear hb
  have p0 := (HBX.out _ I1.out).1.cell 0
  have p1 := (HBX.out _ I1.out).1.cell 1
  have p2 := (HBX.out _ I1.out).1.cell 2
  simp at p0 p1 p2 
  go_wp2_with fail
  refine (iex_l g q _ (HG.out.on (HBX.out _ I1.out).2.2)).mono ?_
  rintro e w2 ⟨rfl, hb⟩
  rw [h2]
  have I2 := Lib.hid (I1.out.on hb)
  clear hb p0 p1 p2
  have K0 : Hid (K2 ((w.alloc (.cells #[.int .i64 g, rv, mv] 26)).alloc (.cells #[.slice none 0 0, .int .i64 0, .slice none 0 0] 28)) (w.heap.size + 2) (mkAll g rows tells) (saysUp g rows makes q tells) none w2.drew) := Lib.hid (K2.on (z := none) (w1 := w2) I2.out (Below.refl _ _).drew)
  go_wp2_with fail
  apply wp_region_H (Z := Option (Value × Option Value)) (S := fun k => k == 3 || k == 6) (C := fun z w' => Hid (K2 ((w.alloc (.cells #[.int .i64 g, rv, mv] 26)).alloc (.cells #[.slice none 0 0, .int .i64 0, .slice none 0 0] 28)) (w.heap.size + 2) (mkAll g rows tells) (saysUp g rows makes q tells) z w')) [0, 1, 2, 4, 5] none
  · kernel_rfl
  · kernel_rfl
  · kernel_rfl
  · exact ⟨rfl, rfl, rfl, rfl, rfl, trivial⟩
  · rfl
  · decide
  · exact K0
  · intro z
    dsimp only [pickL, nthO]
    repeat (first | go_big_quiet_skip | (go_big_quiet_want; go_big_quiet_op; first | go_big_quiet_on | (refine ⟨_, fun _ _ => rfl, ?_⟩; go_big_quiet_on)))
    go_big_quiet_want
    go_big_quiet_op
    refine ⟨.agg #[.int .i64 g, rv, mv], fun w' hw' => ?_, ?_⟩
    · have q := (HBX.out _ hw'.out.inw).1
      have q0 := q.cell 0; have q1 := q.cell 1; have q2 := q.cell 2
      simp at q0 q1 q2
      simp [go_sem, q0, q1, q2]
    go_big_quiet_on
    repeat (first | go_big_quiet_skip | (go_big_quiet_want; go_big_quiet_op; first | go_big_quiet_on | (refine ⟨_, fun _ _ => rfl, ?_⟩; go_big_quiet_on)))
    go_big_quiet_want
    go_big_quiet_op
    refine ⟨.agg #[.int .i64 g, rv, mv], fun w' hw' => ?_, ?_⟩
    · have q := (HBX.out _ hw'.out.inw).1
      have q0 := q.cell 0; have q1 := q.cell 1; have q2 := q.cell 2
      simp at q0 q1 q2
      simp [go_sem, q0, q1, q2]
    go_big_quiet_on
    repeat (first | go_big_quiet_skip | (go_big_quiet_want; go_big_quiet_op; first | go_big_quiet_on | (refine ⟨_, fun _ _ => rfl, ?_⟩; go_big_quiet_on)))
    exact wpQuiet_nil rfl
  · refine wpAnyH_call (i := 3) (d := some 24) 46 #[.agg #[.int .i64 g, rv, mv], tlv] rfl (by kernel_rfl) rfl rfl (by kernel_rfl) (fun _ => by kernel_rfl) fun wa hc => ?_
    have hf := (HBX.out _ hc.out.inw).2.2
    refine (irmk_any g rv mv tlv rows makes tells wa (HG.out.on hf) (HH.out.on hf) (HT.out.below hf)).mono ?_
    rintro e wb ⟨v, rfl, ho, hb⟩
    rw [HR.out] at ho
    refine ⟨v, rfl, some (v, none), Lib.hid ⟨InW.on hc.out.inw hb, own_mono ho hc.out.inw.2⟩, ?_⟩
    clear hc hf ho hb
    refine wpAnyH_call (i := 6) (d := some 27) 47 #[.agg #[.int .i64 g, rv, mv], v, .int .i64 (-q)] rfl (by kernel_rfl) rfl rfl (by kernel_rfl) (fun _ => by kernel_rfl) fun wc hc => ?_
    have hf := (HBX.out _ hc.out.inw).2.2
    refine (itimes_any g rv mv v makes (mkAll g rows tells) (-q) wc (HG.out.on hf) (HH.out.on hf).makes (Ints.of_own hc.out.2 (small3 HM3.out)) HMM.out HM3.out).mono ?_
    rintro e wd ⟨u, rfl, ho, hb⟩
    refine ⟨u, rfl, some (v, some u), Lib.hid ⟨InW.on hc.out.inw hb, own_below hc.out.2 hb, own_mono ho hc.out.inw.2⟩, ?_⟩
    clear hc hf ho hb
    refine wpAnyH_assign (i := 7) (d := some 8) _ rfl (by kernel_rfl) rfl rfl (by kernel_rfl) rfl ?_
    refine ⟨by kernel_rfl, fun w3 hz => ?_⟩
    have I3 := Lib.hid hz.out.inw
    have OS := Lib.hid hz.out.2.2
    obtain ⟨sa, sc, hsv⟩ := Own.form hz.out.2.2
    subst hsv
    simp only [Act.put, Act.eval]
    clear hz K0
    go_wp2_with fail
    refine (iclone_any tlv tells _ (HT.out.below (HBX.out _ I3.out).2.2) HT3.out).mono ?_
    rintro e w4 ⟨cv, rfl, oc, hb⟩
    have I4 := Lib.hid (I3.out.on hb)
    have OS4 := Lib.hid (own_below OS.out hb)
    have OC := Lib.hid oc
    have HAP := Lib.hid (show ∀ k, (Value.slice sa (saysUp g rows makes q tells).length sc).ownBlock = some k → cv.ownBlock = some k → False from fun k h1 h2 => by have := (OS.out.lt k h1).2; have := (oc.lt k h2).1; omega)
    have HS3 := Lib.hid (show w.heap.size + 1 < w3.heap.size from by have := I3.out.2; omega)
    obtain ⟨ca, cc, hcv⟩ := Own.form oc
    subst hcv
    clear hb oc OS
    have r0 := (HBX.out _ I4.out).2.1.cell 0
    have r1 := (HBX.out _ I4.out).2.1.cell 1
    have r2 := (HBX.out _ I4.out).2.1.cell 2
    have f0 := (HBX.out _ I4.out).2.1.frozen 0
    have f1 := (HBX.out _ I4.out).2.1.frozen 1
    have f2 := (HBX.out _ I4.out).2.1.frozen 2
    simp at r0 r1 r2
    have HF : Hid (Below w.heap.size w w4) := Lib.hid (HBX.out _ I4.out).2.2
    go_wp2
    refine bodyPost_ret (v := .tuple #[.agg #[.slice sa (saysUp g rows makes q tells).length sc, .int .i64 q, .slice ca tells.length cc], .bool true]) ?_ rfl ⟨_, _, by rw [HX.out]; rfl, ?_, below_set3 HF.out (by omega)⟩
    · simp [results, Tryd.results13, go_sem, r0, r1, r2]
    · rw [HX.out]; exact words_fin OS4.out OC.out (by omega) HS3.out HAP.out (by omega)
end Go.Proofs.YtclihkcigppgjaaDoor
