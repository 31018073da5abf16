/- The exact law of SomeOk, walked: spec's answer, impl's answer, and that both are the same; no argument is written to. -/
import Derived.Test.YtclihkcigppgjaaDoorSomS
import Derived.Test.YtclihkcigppgjaaDoorSomC
namespace Go.Proofs.YtclihkcigppgjaaDoor
open Go.RowKit

theorem smallS {n : Nat} (h : n ≤ 1048576) : n ≤ maxLen := by unfold maxLen; omega
/-- What a copying region of an exact law knows: a list copied; a talk copied. -/
structure Zk (wk : World) (keys ss xs ts : List Int) (z : Option Value × Option (Value × Value × Value)) (w' : World) : Prop where
  bl : Below wk.heap.size wk w'
  k : ∀ v, z.1 = some v → Ints w' v keys
  s : ∀ r, z.2 = some r → Ints w' r.1 ss ∧ Ints w' r.2.1 xs ∧ Ints w' r.2.2 ts
theorem Zk.on {wk : World} {keys ss xs ts : List Int} {z : Option Value × Option (Value × Value × Value)} {w1 w2 : World} (h : Zk wk keys ss xs ts z w1) (hb : Below w1.heap.size w1 w2) : Zk wk keys ss xs ts z w2 :=
  ⟨Below.on h.bl hb, fun v e => (h.k v e).below hb, fun r e => ⟨(h.s r e).1.below hb, (h.s r e).2.1.below hb, (h.s r e).2.2.below hb⟩⟩
theorem Zk.start (wk : World) (keys ss xs ts : List Int) {w' : World} (hb : Below wk.heap.size wk w') : Zk wk keys ss xs ts (none, none) w' := ⟨hb, fun v e => (by cases e), fun r e => (by cases e)⟩

set_option maxRecDepth 20000 in
set_option maxHeartbeats 3200000 in
theorem xSomeOk_walk (g : Int) (ka : Option Addr) (kc : Nat) (keys : List Int) (need : Int) (sa : Option Addr) (sc : Nat) (ss : List Int) (q : Int) (xa : Option Addr) (xc : Nat) (xs : List Int) (ta : Option Addr) (tc : Nat) (ts : List Int) (w : World) (G : Gr w)
    (hk : ArgI w ka keys) (mk : keys.length ≤ maxLen) (hs : ArgI w sa ss) (ms : ss.length ≤ maxLen) (hx : ArgI w xa xs) (mx : xs.length ≤ maxLen) (ht : ArgI w ta ts) (mt : ts.length ≤ maxLen) :
    Calls Tryd.prog 6 #[.int .i64 g, .slice ka keys.length kc, .int .i64 need, .agg #[.slice sa ss.length sc, .int .i64 q, .slice xa xs.length xc, .slice ta ts.length tc]] w fun e w' => e = .returned (.bool true) ∧ Below w.heap.size w w' := by
  have HG := Lib.hid G
  have HK := Lib.hid hk; have HS := Lib.hid hs; have HX := Lib.hid hx; have HT := Lib.hid ht
  obtain ⟨r, hr⟩ : ∃ r, someB g keys need ss q xs ts = r := ⟨_, rfl⟩
  have HR := Lib.hid hr
  have hrr : (r != r) = false := by simp
  have MS := Lib.hid ms; have MX := Lib.hid mx; have MT := Lib.hid mt
  unfold maxLen at mk ms mx mt
  clear hk hs hx ht G hr
  by_cases ck : keys.length ≤ 1048576
  case neg =>
    go_enter Tryd.func6, Tryd.ntmps6
    go_wp2
    go_ret
    exact ⟨rfl, below_grow _ _⟩
  go_enter Tryd.func6, Tryd.ntmps6
  go_wp2_with fail
  refine (szs_any q sa xa ta ss.length sc xs.length xc ts.length tc 1048576 _ MS.out MX.out MT.out (by omega) (by omega)).mono ?_
  rintro e w1 ⟨r9, rfl, hb, hres⟩
  have P1 := Lib.hid ((Box.made w [.slice sa ss.length sc, .int .i64 q, .slice xa xs.length xc, .slice ta ts.length tc] 46).on hb)
  have L1 := Lib.hid (Below.on (below_grow w (.cells #[.slice sa ss.length sc, .int .i64 q, .slice xa xs.length xc, .slice ta ts.length tc] 46)) hb)
  clear hb
  rcases hres with rfl | ⟨q0, q1, s1, s2, s3⟩
  · go_wp2
    go_ret
    exact ⟨rfl, L1.out⟩
  have HP : Hid (∀ w', Below w1.heap.size w1 w' → Box w' w.heap.size [.slice sa ss.length sc, .int .i64 q, .slice xa xs.length xc, .slice ta ts.length tc] ∧ Below w.heap.size w w') := Lib.hid fun w' hb => ⟨P1.out.on hb, Below.on L1.out hb⟩
  clear P1 L1
  go_wp2_with fail
  apply wp_region_H (Z := Option Value × Option (Value × Value × Value)) (S := fun k => k == 2 || k == 5 || k == 6) (C := fun z w' => Hid (Zk w1 keys ss xs ts z w')) [0, 1, 3, 4] (none, none)
  · kernel_rfl
  · kernel_rfl
  · kernel_rfl
  · exact ⟨rfl, rfl, rfl, rfl, trivial⟩
  · rfl
  · decide
  · exact Lib.hid (Zk.start _ _ _ _ _ (Below.refl _ _).drew)
  · intro z
    dsimp only [pickL, nthO]
    repeat (first | go_big_quiet_skip | (go_big_quiet_want; go_big_quiet_op; first | go_big_quiet_on | (refine ⟨_, fun _ _ => rfl, ?_⟩; go_big_quiet_on)))
    go_big_quiet_want
    go_big_quiet_op
    refine ⟨.agg #[.slice sa ss.length sc, .int .i64 q, .slice xa xs.length xc, .slice ta ts.length tc], fun w' hw' => ?_, ?_⟩
    · have q9 := (HP.out w' hw'.out.bl).1
      have q0 := q9.cell 0; have q1 := q9.cell 1; have q2 := q9.cell 2; have q3 := q9.cell 3
      simp at q0 q1 q2 q3
      simp [go_sem, q0, q1, q2, q3]
    go_big_quiet_on
    repeat (first | go_big_quiet_skip | (go_big_quiet_want; go_big_quiet_op; first | go_big_quiet_on | (refine ⟨_, fun _ _ => rfl, ?_⟩; go_big_quiet_on)))
    exact wpQuiet_nil rfl
  · refine wpAnyH_call (i := 2) (d := some 24) 22 #[.slice ka keys.length kc] rfl (by kernel_rfl) rfl rfl (by kernel_rfl) (fun _ => by kernel_rfl) fun wa hc => ?_
    refine (toI_any ka kc keys _ (HK.out.on (HP.out _ hc.out.bl).2) ck).mono ?_
    rintro e wb ⟨kv, rfl, o1, hb⟩
    refine ⟨_, rfl, (some kv, none), Lib.hid ⟨Below.on hc.out.bl hb, fun v e => (by cases e; exact Ints.of_own o1 (smallS ck)), fun r e => (by cases e)⟩, ?_⟩
    clear o1 hb hc
    refine wpAnyH_call (i := 5) (d := some 27) 27 #[.agg #[.slice sa ss.length sc, .int .i64 q, .slice xa xs.length xc, .slice ta ts.length tc]] rfl (by kernel_rfl) rfl rfl (by kernel_rfl) (fun _ => by kernel_rfl) fun wa hc => ?_
    refine (toS_any q sa xa ta sc xc tc ss xs ts _ (HS.out.on (HP.out _ hc.out.bl).2) (HX.out.on (HP.out _ hc.out.bl).2) (HT.out.on (HP.out _ hc.out.bl).2) s1 s2 s3).mono ?_
    rintro e wb ⟨sv, xv, tv, rfl, o1, hb⟩
    refine ⟨_, rfl, (some kv, some (sv, xv, tv)), Lib.hid ⟨Below.on hc.out.bl hb, fun v e => (hc.out.k v e).below hb, fun r e => (by cases e; exact ⟨Ints.of_own o1.s (smallS s1), Ints.of_own o1.x (smallS s2), Ints.of_own o1.t (smallS s3)⟩)⟩, ?_⟩
    clear o1 hb hc
    refine wpAnyH_call (i := 6) (d := some 28) 26 #[.int .i64 g, kv, .int .i64 need, .agg #[sv, .int .i64 q, xv, tv]] rfl (by kernel_rfl) rfl rfl (by kernel_rfl) (fun _ => by kernel_rfl) fun wa hc => ?_
    refine (ssome_any g need _ keys _ q _ _ ss xs ts _ (hc.out.k _ rfl) (hc.out.s _ rfl).1 (hc.out.s _ rfl).2.1 (hc.out.s _ rfl).2.2).mono ?_
    rintro e wb ⟨rfl, hb⟩
    rw [HR.out]
    refine ⟨_, rfl, (none, none), Lib.hid (Zk.start _ _ _ _ _ (Below.on hc.out.bl hb)), ?_⟩
    clear hb hc
    refine wpAnyH_assign (i := 7) (d := some 10) (.tmp 28) rfl (by kernel_rfl) rfl rfl (by kernel_rfl) rfl ?_
    refine ⟨by kernel_rfl, fun w2 hz => ?_⟩
    have B2 := Lib.hid hz.out.bl
    clear hz
    simp only [Act.put, Act.eval]
    go_wp2_with fail
    refine (toI_any ka kc keys _ (HK.out.on (HP.out _ B2.out).2) ck).mono ?_
    rintro e w3 ⟨kv3, rfl, o3, hb⟩
    have B3 := Lib.hid (Below.on B2.out hb)
    have I3 := Lib.hid (Ints.of_own o3 (smallS ck))
    clear hb o3
    have q9 := (HP.out _ B3.out).1
    have q0 := q9.cell 0; have q1 := q9.cell 1; have q2 := q9.cell 2; have q3 := q9.cell 3
    simp at q0 q1 q2 q3
    clear q9
    go_wp2_with fail
    refine (toS_any q sa xa ta sc xc tc ss xs ts _ (HS.out.on (HP.out _ B3.out).2) (HX.out.on (HP.out _ B3.out).2) (HT.out.on (HP.out _ B3.out).2) s1 s2 s3).mono ?_
    rintro e w4 ⟨sv5, xv5, tv5, rfl, o5, hb⟩
    obtain ⟨s5, c5, e5⟩ := Own.form o5.s
    obtain ⟨x5, d5, e6⟩ := Own.form o5.x
    obtain ⟨t5, f5, e7⟩ := Own.form o5.t
    subst e5 e6 e7
    have B4 := Lib.hid (Below.on B3.out hb)
    have I4 := Lib.hid (I3.out.below hb)
    have O4 := Lib.hid (show Ints w4 (.slice s5 ss.length c5) ss ∧ Ints w4 (.slice x5 xs.length d5) xs ∧ Ints w4 (.slice t5 ts.length f5) ts from ⟨Ints.of_own o5.s (smallS s1), Ints.of_own o5.x (smallS s2), Ints.of_own o5.t (smallS s3)⟩)
    clear hb o5 q0 q1 q2 q3
    have FX : Hid (∀ w', Below (w4.alloc (.cells #[.slice s5 ss.length c5, .int .i64 q, .slice x5 xs.length d5, .slice t5 ts.length f5] 49)).heap.size (w4.alloc (.cells #[.slice s5 ss.length c5, .int .i64 q, .slice x5 xs.length d5, .slice t5 ts.length f5] 49)) w' → Box w' w4.heap.size [.slice s5 ss.length c5, .int .i64 q, .slice x5 xs.length d5, .slice t5 ts.length f5] ∧ (Ints w' kv3 keys ∧ Ints w' (.slice s5 ss.length c5) ss ∧ Ints w' (.slice x5 xs.length d5) xs ∧ Ints w' (.slice t5 ts.length f5) ts) ∧ Below w1.heap.size w1 w') := Lib.hid fun w' hb =>
      ⟨(Box.made w4 _ _).on hb, ⟨(I4.out.below (below_grow w4 _)).below hb, (O4.out.1.below (below_grow w4 _)).below hb, (O4.out.2.1.below (below_grow w4 _)).below hb, (O4.out.2.2.below (below_grow w4 _)).below hb⟩, Below.on (Below.on B4.out (below_grow w4 _)) hb⟩
    have T4 := Lib.hid (Below.refl (w4.alloc (.cells #[.slice s5 ss.length c5, .int .i64 q, .slice x5 xs.length d5, .slice t5 ts.length f5] 49)).heap.size (w4.alloc (.cells #[.slice s5 ss.length c5, .int .i64 q, .slice x5 xs.length d5, .slice t5 ts.length f5] 49)))
    have q9 := (FX.out _ T4.out).1
    have q0 := q9.cell 0; have q1 := q9.cell 1; have q2 := q9.cell 2; have q3 := q9.cell 3
    simp at q0 q1 q2 q3
    clear q9
    go_wp2_with fail
    refine (isome_any g need _ keys _ q _ _ ss xs ts _ (HG.out.on (HP.out _ (FX.out _ T4.out).2.2).2) (FX.out _ T4.out).2.1.1 (FX.out _ T4.out).2.1.2.1 (FX.out _ T4.out).2.1.2.2.1 (FX.out _ T4.out).2.1.2.2.2).mono ?_
    rintro e w5 ⟨rfl, hb⟩
    rw [HR.out]
    have T5 := Lib.hid (Below.on T4.out hb)
    clear hb q0 q1 q2 q3
    go_wp2_with fail
    refine (toI_any ka kc keys _ (HK.out.on (HP.out _ (FX.out _ T5.out).2.2).2) ck).mono ?_
    rintro e w6 ⟨kv6, rfl, o6, hb⟩
    have T6 := Lib.hid (Below.on T5.out hb)
    have I6 := Lib.hid (Ints.of_own o6 (smallS ck))
    clear hb o6
    go_wp2_with fail
    refine (eqs_same kv3 kv6 keys _ (FX.out _ T6.out).2.1.1 I6.out).mono ?_
    rintro e w7 ⟨rfl, m7, hw⟩
    have T7 := Lib.hid (Below.on T6.out (below_of_drew hw))
    clear hw I6
    go_wp2_with fail
    apply wp_region_H (Z := Option Value × Option (Value × Value × Value)) (S := fun k => k == 2 || k == 3 || k == 4) (C := fun z w' => Hid (Zk w7 keys ss xs ts z w')) [0, 1] (none, none)
    · kernel_rfl
    · kernel_rfl
    · kernel_rfl
    · exact ⟨rfl, rfl, trivial⟩
    · rfl
    · decide
    · exact Lib.hid (Zk.start _ _ _ _ _ (Below.refl _ _).drew)
    · intro z
      dsimp only [pickL, nthO]
      repeat (first | go_big_quiet_skip | (go_big_quiet_want; go_big_quiet_op; first | go_big_quiet_on | (refine ⟨_, fun _ _ => rfl, ?_⟩; go_big_quiet_on)))
      go_big_quiet_want
      go_big_quiet_op
      refine ⟨.agg #[.slice s5 ss.length c5, .int .i64 q, .slice x5 xs.length d5, .slice t5 ts.length f5], fun w' hw' => ?_, ?_⟩
      · have q9 := (FX.out w' (Below.on T7.out hw'.out.bl)).1
        have q0 := q9.cell 0; have q1 := q9.cell 1; have q2 := q9.cell 2; have q3 := q9.cell 3
        simp at q0 q1 q2 q3
        simp [go_sem, q0, q1, q2, q3]
      go_big_quiet_on
      repeat (first | go_big_quiet_skip | (go_big_quiet_want; go_big_quiet_op; first | go_big_quiet_on | (refine ⟨_, fun _ _ => rfl, ?_⟩; go_big_quiet_on)))
      go_big_quiet_want
      go_big_quiet_op
      refine ⟨.agg #[.slice sa ss.length sc, .int .i64 q, .slice xa xs.length xc, .slice ta ts.length tc], fun w' hw' => ?_, ?_⟩
      · have q9 := (HP.out w' (FX.out w' (Below.on T7.out hw'.out.bl)).2.2).1
        have q0 := q9.cell 0; have q1 := q9.cell 1; have q2 := q9.cell 2; have q3 := q9.cell 3
        simp at q0 q1 q2 q3
        simp [go_sem, q0, q1, q2, q3]
      go_big_quiet_on
      repeat (first | go_big_quiet_skip | (go_big_quiet_want; go_big_quiet_op; first | go_big_quiet_on | (refine ⟨_, fun _ _ => rfl, ?_⟩; go_big_quiet_on)))
      exact wpQuiet_nil rfl
    · refine wpAnyH_call (i := 2) (d := some 48) 27 #[.agg #[.slice sa ss.length sc, .int .i64 q, .slice xa xs.length xc, .slice ta ts.length tc]] rfl (by kernel_rfl) rfl rfl (by kernel_rfl) (fun _ => by kernel_rfl) fun wa hc => ?_
      have hl := Lib.hid (HP.out _ (FX.out _ (Below.on T7.out hc.out.bl)).2.2).2
      refine (toS_any q sa xa ta sc xc tc ss xs ts _ (HS.out.on hl.out) (HX.out.on hl.out) (HT.out.on hl.out) s1 s2 s3).mono ?_
      rintro e wb ⟨sv, xv, tv, rfl, o1, hb⟩
      refine ⟨_, rfl, (none, some (sv, xv, tv)), Lib.hid ⟨Below.on hc.out.bl hb, fun v e => (by cases e), fun r e => (by cases e; exact ⟨Ints.of_own o1.s (smallS s1), Ints.of_own o1.x (smallS s2), Ints.of_own o1.t (smallS s3)⟩)⟩, ?_⟩
      clear o1 hb hl hc
      refine wpAnyH_call (i := 3) (d := some 49) 29 #[.agg #[.slice s5 ss.length c5, .int .i64 q, .slice x5 xs.length d5, .slice t5 ts.length f5], .agg #[sv, .int .i64 q, xv, tv]] rfl (by kernel_rfl) rfl rfl (by kernel_rfl) (fun _ => by kernel_rfl) fun wa hc => ?_
      have hf := Lib.hid (FX.out _ (Below.on T7.out hc.out.bl)).2.1
      refine (eqsm_any q _ _ _ _ _ _ ss xs ts _ hf.out.2.1 hf.out.2.2.1 hf.out.2.2.2 (hc.out.s _ rfl).1 (hc.out.s _ rfl).2.1 (hc.out.s _ rfl).2.2).mono ?_
      rintro e wb ⟨rfl, hb⟩
      refine ⟨_, rfl, (none, none), Lib.hid (Zk.start _ _ _ _ _ (Below.on hc.out.bl hb)), ?_⟩
      clear hb hf hc
      refine wpAnyH_special (i := 4) (d := some 50) rfl (by kernel_rfl) rfl rfl (by kernel_rfl) fun wy hcy => ⟨.bool false, wy, (none, none), .inl (by kernel_rfl), hcy, ?_⟩
      refine ⟨by kernel_rfl, fun w8 hz => ?_⟩
      have T8 := Lib.hid (Below.on T7.out hz.out.bl)
      clear hz hcy
      simp only [Act.put]
      go_wp2
      go_ret
      exact ⟨rfl, (HP.out _ (FX.out _ T8.out).2.2).2⟩
end Go.Proofs.YtclihkcigppgjaaDoor
