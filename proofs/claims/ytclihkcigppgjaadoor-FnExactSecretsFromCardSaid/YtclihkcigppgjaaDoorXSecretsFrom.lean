/- The exact law of SecretsFrom, walked: spec's answer, impl's answer, and that both are the same; no argument is written to; the answer owns its memory. -/
import Derived.Test.YtclihkcigppgjaaDoorScfS
import Derived.Test.YtclihkcigppgjaaDoorSomC
namespace Go.Proofs.YtclihkcigppgjaaDoor
open Go.RowKit

theorem smallS {n : Nat} (h : n ≤ 1048576) : n ≤ maxLen := by unfold maxLen; omega
/-- What a copying region of an exact law knows: a list copied; a talk copied. -/
structure Zk (wk : World) (keys ss xs ts : List Int) (z : Option Value × Option (Value × Value × Value)) (w' : World) : Prop where
  bl : Below wk.heap.size wk w'
  k : ∀ v, z.1 = some v → Ints w' v keys
  s : ∀ r, z.2 = some r → Ints w' r.1 ss ∧ Ints w' r.2.1 xs ∧ Ints w' r.2.2 ts
theorem Zk.on {wk : World} {keys ss xs ts : List Int} {z : Option Value × Option (Value × Value × Value)} {w1 w2 : World} (h : Zk wk keys ss xs ts z w1) (hb : Below w1.heap.size w1 w2) : Zk wk keys ss xs ts z w2 :=
  ⟨Below.on h.bl hb, fun v e => (h.k v e).below hb, fun r e => ⟨(h.s r e).1.below hb, (h.s r e).2.1.below hb, (h.s r e).2.2.below hb⟩⟩
theorem Zk.start (wk : World) (keys ss xs ts : List Int) {w' : World} (hb : Below wk.heap.size wk w') : Zk wk keys ss xs ts (none, none) w' := ⟨hb, fun v e => (by cases e), fun r e => (by cases e)⟩

/-- What the region that copies three arguments and hands them on knows. -/
structure Zj (wk : World) (keys ss xs ts ss2 xs2 ts2 XS : List Int) (z : Option Value × Option (Value × Value × Value) × Option (Value × Value × Value) × Option Value) (w' : World) : Prop where
  bl : Below wk.heap.size wk w'
  k : ∀ v, z.1 = some v → Ints w' v keys
  s : ∀ r, z.2.1 = some r → Ints w' r.1 ss ∧ Ints w' r.2.1 xs ∧ Ints w' r.2.2 ts
  u : ∀ r, z.2.2.1 = some r → Ints w' r.1 ss2 ∧ Ints w' r.2.1 xs2 ∧ Ints w' r.2.2 ts2
  v : ∀ v, z.2.2.2 = some v → Own w' wk.heap.size v XS
theorem Zj.on {wk : World} {keys ss xs ts ss2 xs2 ts2 XS : List Int} {z : Option Value × Option (Value × Value × Value) × Option (Value × Value × Value) × Option Value} {w1 w2 : World} (h : Zj wk keys ss xs ts ss2 xs2 ts2 XS z w1) (hb : Below w1.heap.size w1 w2) : Zj wk keys ss xs ts ss2 xs2 ts2 XS z w2 :=
  ⟨Below.on h.bl hb, fun v e => (h.k v e).below hb, fun r e => ⟨(h.s r e).1.below hb, (h.s r e).2.1.below hb, (h.s r e).2.2.below hb⟩, fun r e => ⟨(h.u r e).1.below hb, (h.u r e).2.1.below hb, (h.u r e).2.2.below hb⟩, fun v e => own_below (h.v v e) hb⟩

set_option maxRecDepth 20000 in
set_option maxHeartbeats 6400000 in
theorem xSecretsFrom_walk (g : Int) (ka : Option Addr) (kc : Nat) (keys : List Int) (need : Int) (sa : Option Addr) (sc : Nat) (ss : List Int) (q : Int) (xa : Option Addr) (xc : Nat) (xs : List Int) (ta : Option Addr) (tc : Nat) (ts : List Int) (ua : Option Addr) (uc : Nat) (ss2 : List Int) (q2 : Int) (ya : Option Addr) (yc : Nat) (xs2 : List Int) (va : Option Addr) (vc : Nat) (ts2 : List Int) (w : World) (G : Gr w)
    (hk : ArgI w ka keys) (mk : keys.length ≤ maxLen) (hs : ArgI w sa ss) (ms : ss.length ≤ maxLen) (hx : ArgI w xa xs) (mx : xs.length ≤ maxLen) (ht : ArgI w ta ts) (mt : ts.length ≤ maxLen) (hu : ArgI w ua ss2) (mu : ss2.length ≤ maxLen) (hy : ArgI w ya xs2) (my : xs2.length ≤ maxLen) (hv : ArgI w va ts2) (mv : ts2.length ≤ maxLen) :
    Calls Tryd.prog 8 #[.int .i64 g, .slice ka keys.length kc, .int .i64 need, .agg #[.slice sa ss.length sc, .int .i64 q, .slice xa xs.length xc, .slice ta ts.length tc], .agg #[.slice ua ss2.length uc, .int .i64 q2, .slice ya xs2.length yc, .slice va ts2.length vc]] w fun e w' => e = .returned (.bool true) ∧ Below w.heap.size w w' := by
  have HG := Lib.hid G
  have HK := Lib.hid hk; have HS := Lib.hid hs; have HX := Lib.hid hx; have HT := Lib.hid ht; have HU := Lib.hid hu; have HY := Lib.hid hy; have HV := Lib.hid hv
  obtain ⟨XS, hXS⟩ : ∃ r, scfL g keys need ss q xs ts ss2 q2 xs2 ts2 = r := ⟨_, rfl⟩
  obtain ⟨FBB, hFB⟩ : ∃ r, scfB g keys need ss q xs ts ss2 q2 xs2 ts2 = r := ⟨_, rfl⟩
  have HXL : Hid (XS.length ≤ 1000) := Lib.hid (by rw [← hXS]; exact Nat.le_trans (scfL_len _ _ _ _ _ _ _ _ _ _ _) (by omega))
  have HXS := Lib.hid hXS
  have HFB := Lib.hid hFB
  have hfb : (FBB != FBB) = false := by simp
  have MS := Lib.hid ms; have MX := Lib.hid mx; have MT := Lib.hid mt; have MU := Lib.hid mu; have MY := Lib.hid my; have MV := Lib.hid mv
  unfold maxLen at mk
  clear hk hs hx ht hu hy hv ms mx mt mu my mv G hXS hFB
  by_cases ck : keys.length ≤ 1048576
  case neg =>
    go_enter Tryd.func8, Tryd.ntmps8
    go_wp2
    go_ret
    exact ⟨rfl, Below.on (below_grow w _) (below_grow _ _)⟩
  go_enter Tryd.func8, Tryd.ntmps8
  go_wp2_with fail
  refine (szs_any q sa xa ta ss.length sc xs.length xc ts.length tc 1048576 _ MS.out MX.out MT.out (by omega) (by omega)).mono ?_
  rintro e w1 ⟨r9, rfl, hb, hres⟩
  obtain ⟨p0, p1, l1⟩ := boxes2 (P := [.slice sa ss.length sc, .int .i64 q, .slice xa xs.length xc, .slice ta ts.length tc]) (R := [.slice ua ss2.length uc, .int .i64 q2, .slice ya xs2.length yc, .slice va ts2.length vc]) hb
  have PA := Lib.hid p0; have PB := Lib.hid p1; have L1 := Lib.hid l1
  clear hb p0 p1 l1
  rcases hres with rfl | ⟨r0, r1, s1, s2, s3⟩
  · go_wp2
    go_ret
    exact ⟨rfl, L1.out⟩
  have q0 := PB.out.cell 0; have q1 := PB.out.cell 1; have q2_ := PB.out.cell 2; have q3 := PB.out.cell 3
  simp at q0 q1 q2_ q3
  go_wp2_with fail
  refine (szs_any q2 ua ya va ss2.length uc xs2.length yc ts2.length vc r9 _ MU.out MY.out MV.out (by omega) (by omega)).mono ?_
  rintro e w2 ⟨r8, rfl, hb, hres⟩
  have HP : Hid (∀ w', Below w2.heap.size w2 w' → (Box w' w.heap.size [.slice sa ss.length sc, .int .i64 q, .slice xa xs.length xc, .slice ta ts.length tc] ∧ Box w' (w.heap.size + 1) [.slice ua ss2.length uc, .int .i64 q2, .slice ya xs2.length yc, .slice va ts2.length vc]) ∧ Below w.heap.size w w') := Lib.hid fun w' hb2 => ⟨⟨PA.out.on (Below.on hb hb2), PB.out.on (Below.on hb hb2)⟩, Below.on L1.out (Below.on hb hb2)⟩
  have hw2 : w.heap.size + 1 < w2.heap.size := Nat.lt_of_lt_of_le PB.out.lt hb.size
  clear hb PA PB L1 q0 q1 q2_ q3
  rcases hres with rfl | ⟨r2, r3, u1, u2, u3⟩
  · go_wp2
    go_ret
    exact ⟨rfl, (HP.out _ (Below.refl _ _)).2⟩
  go_wp2_with fail
  apply wp_region_H (Z := Option Value × Option (Value × Value × Value) × Option (Value × Value × Value) × Option Value) (S := fun k => k == 2 || k == 5 || k == 7 || k == 8) (C := fun z w' => Hid (Zj w2 keys ss xs ts ss2 xs2 ts2 XS z w')) [0, 1, 3, 4, 6] (none, none, none, none)
  · kernel_rfl
  · kernel_rfl
  · kernel_rfl
  · exact ⟨rfl, rfl, rfl, rfl, rfl, trivial⟩
  · rfl
  · decide
  · exact Lib.hid ⟨(Below.refl _ _).drew, fun v e => (by cases e), fun r e => (by cases e), fun r e => (by cases e), fun v e => (by cases e)⟩
  · intro z
    dsimp only [pickL, nthO]
    repeat (first | go_big_quiet_skip | (go_big_quiet_want; go_big_quiet_op; first | go_big_quiet_on | (refine ⟨_, fun _ _ => rfl, ?_⟩; go_big_quiet_on)))
    go_big_quiet_want
    go_big_quiet_op
    refine ⟨.agg #[.slice sa ss.length sc, .int .i64 q, .slice xa xs.length xc, .slice ta ts.length tc], fun w' hw' => ?_, ?_⟩
    · have q9 := (HP.out w' hw'.out.bl).1.1
      have q0 := q9.cell 0; have q1 := q9.cell 1; have q2_ := q9.cell 2; have q3 := q9.cell 3
      simp at q0 q1 q2_ q3
      simp [go_sem, q0, q1, q2_, q3]
    go_big_quiet_on
    repeat (first | go_big_quiet_skip | (go_big_quiet_want; go_big_quiet_op; first | go_big_quiet_on | (refine ⟨_, fun _ _ => rfl, ?_⟩; go_big_quiet_on)))
    go_big_quiet_want
    go_big_quiet_op
    refine ⟨.agg #[.slice ua ss2.length uc, .int .i64 q2, .slice ya xs2.length yc, .slice va ts2.length vc], fun w' hw' => ?_, ?_⟩
    · have q9 := (HP.out w' hw'.out.bl).1.2
      have q0 := q9.cell 0; have q1 := q9.cell 1; have q2_ := q9.cell 2; have q3 := q9.cell 3
      simp at q0 q1 q2_ q3
      simp [go_sem, q0, q1, q2_, q3]
    go_big_quiet_on
    repeat (first | go_big_quiet_skip | (go_big_quiet_want; go_big_quiet_op; first | go_big_quiet_on | (refine ⟨_, fun _ _ => rfl, ?_⟩; go_big_quiet_on)))
    exact wpQuiet_nil rfl
  · skip
    refine wpAnyH_call (i := 2) (d := some 40) 22 #[.slice ka keys.length kc] rfl (by kernel_rfl) rfl rfl (by kernel_rfl) (fun _ => by kernel_rfl) fun wa hc => ?_
    refine (toI_any ka kc keys _ (HK.out.on (HP.out _ hc.out.bl).2) ck).mono ?_
    rintro e wb ⟨kvz, rfl, o1, hb⟩
    refine ⟨_, rfl, (some kvz, none, none, none), Lib.hid ⟨Below.on hc.out.bl hb, fun v e => (by cases e; exact Ints.of_own o1 (smallS ck)), fun r e => (by cases e), fun r e => (by cases e), fun v e => (by cases e)⟩, ?_⟩
    clear o1 hb hc
    refine wpAnyH_call (i := 5) (d := some 43) 27 #[.agg #[.slice sa ss.length sc, .int .i64 q, .slice xa xs.length xc, .slice ta ts.length tc]] rfl (by kernel_rfl) rfl rfl (by kernel_rfl) (fun _ => by kernel_rfl) fun wa hc => ?_
    refine (toS_any q sa xa ta sc xc tc ss xs ts _ (HS.out.on (HP.out _ hc.out.bl).2) (HX.out.on (HP.out _ hc.out.bl).2) (HT.out.on (HP.out _ hc.out.bl).2) s1 s2 s3).mono ?_
    rintro e wb ⟨svz, xvz, tvz, rfl, o1, hb⟩
    refine ⟨_, rfl, (some kvz, some (svz, xvz, tvz), none, none), Lib.hid ⟨Below.on hc.out.bl hb, fun v e => (hc.out.k v e).below hb, fun r e => (by cases e; exact ⟨Ints.of_own o1.s (smallS s1), Ints.of_own o1.x (smallS s2), Ints.of_own o1.t (smallS s3)⟩), fun r e => (by cases e), fun v e => (by cases e)⟩, ?_⟩
    clear o1 hb hc
    refine wpAnyH_call (i := 7) (d := some 45) 27 #[.agg #[.slice ua ss2.length uc, .int .i64 q2, .slice ya xs2.length yc, .slice va ts2.length vc]] rfl (by kernel_rfl) rfl rfl (by kernel_rfl) (fun _ => by kernel_rfl) fun wa hc => ?_
    refine (toS_any q2 ua ya va uc yc vc ss2 xs2 ts2 _ (HU.out.on (HP.out _ hc.out.bl).2) (HY.out.on (HP.out _ hc.out.bl).2) (HV.out.on (HP.out _ hc.out.bl).2) u1 u2 u3).mono ?_
    rintro e wb ⟨uvz, yvz, vvz, rfl, o1, hb⟩
    refine ⟨_, rfl, (some kvz, some (svz, xvz, tvz), some (uvz, yvz, vvz), none), Lib.hid ⟨Below.on hc.out.bl hb, fun v e => (hc.out.k v e).below hb, fun r e => ⟨(hc.out.s r e).1.below hb, (hc.out.s r e).2.1.below hb, (hc.out.s r e).2.2.below hb⟩, fun r e => (by cases e; exact ⟨Ints.of_own o1.s (smallS u1), Ints.of_own o1.x (smallS u2), Ints.of_own o1.t (smallS u3)⟩), fun v e => (by cases e)⟩, ?_⟩
    clear o1 hb hc
    refine wpAnyH_call (i := 8) (d := some 46) 35 #[.int .i64 g, kvz, .int .i64 need, .agg #[svz, .int .i64 q, xvz, tvz], .agg #[uvz, .int .i64 q2, yvz, vvz]] rfl (by kernel_rfl) rfl rfl (by kernel_rfl) (fun _ => by kernel_rfl) fun wa hc => ?_
    refine (sscf_any g need _ keys _ q _ _ _ q2 _ _ ss xs ts ss2 xs2 ts2 _ (hc.out.k _ rfl) (hc.out.s _ rfl).1 (hc.out.s _ rfl).2.1 (hc.out.s _ rfl).2.2 (hc.out.u _ rfl).1 (hc.out.u _ rfl).2.1 (hc.out.u _ rfl).2.2).mono ?_
    rintro e wb ⟨v0, rfl, o1, hb⟩
    rw [HXS.out] at o1
    rw [HFB.out]
    refine ⟨_, rfl, (none, none, none, some v0), Lib.hid ⟨Below.on hc.out.bl hb, fun v e => (by cases e), fun r e => (by cases e), fun r e => (by cases e), fun v e => (by cases e; exact own_mono o1 hc.out.bl.size)⟩, ?_⟩
    clear o1 hb hc
    refine wpAnyH_take (i := 9) (d := some 37) (.tuple #[v0, .bool FBB]) rfl (by kernel_rfl) rfl rfl (by kernel_rfl) (by kernel_rfl) (by kernel_rfl) (fun _ => by kernel_rfl) ?_
    refine wpAnyH_take (i := 10) (d := some 47) (v0) rfl (by kernel_rfl) rfl rfl (by kernel_rfl) (by kernel_rfl) (by kernel_rfl) (fun _ => by kernel_rfl) ?_
    refine wpAnyH_take (i := 11) (d := some 48) (.bool FBB) rfl (by kernel_rfl) rfl rfl (by kernel_rfl) (by kernel_rfl) (by kernel_rfl) (fun _ => by kernel_rfl) ?_
    refine wpAnyH_take (i := 12) (d := some 12) (v0) rfl (by kernel_rfl) rfl rfl (by kernel_rfl) (by kernel_rfl) (by kernel_rfl) (fun _ => by kernel_rfl) ?_
    refine wpAnyH_take (i := 13) (d := some 13) (.bool FBB) rfl (by kernel_rfl) rfl rfl (by kernel_rfl) (by kernel_rfl) (by kernel_rfl) (fun _ => by kernel_rfl) ?_
    refine ⟨by kernel_rfl, fun w3 hz => ?_⟩
    have Bz := Lib.hid hz.out.bl
    have Oz := Lib.hid (hz.out.v _ rfl)
    simp only [Act.put]
    clear hz
    have Tk := Bz
    go_wp2_with fail
    refine (toI_any ka kc keys _ (HK.out.on (HP.out _ Bz.out).2) ck).mono ?_
    rintro e w4 ⟨kv4, rfl, o4, hb⟩
    have B4 := Lib.hid (Below.on Bz.out hb)
    have K4 := Lib.hid o4
    have V4 := Lib.hid (own_below Oz.out hb)
    have zz3 := hb.size
    have VB := Lib.hid (fun k hk => (Oz.out.lt k hk).2)
    clear hb o4
    have q9 := (HP.out _ B4.out).1.1
    have q0 := q9.cell 0; have q1 := q9.cell 1; have q2_ := q9.cell 2; have q3 := q9.cell 3
    simp at q0 q1 q2_ q3
    clear q9
    go_wp2_with fail
    refine (toS_any q sa xa ta sc xc tc ss xs ts _ (HS.out.on (HP.out _ B4.out).2) (HX.out.on (HP.out _ B4.out).2) (HT.out.on (HP.out _ B4.out).2) s1 s2 s3).mono ?_
    rintro e w5 ⟨sv5, xv5, tv5, rfl, o5, hb⟩
    obtain ⟨s5, c5, e5⟩ := Own.form o5.s
    obtain ⟨x5, d5, e6⟩ := Own.form o5.x
    obtain ⟨t5, f5, e7⟩ := Own.form o5.t
    subst e5 e6 e7
    have hba := Below.on hb (below_grow w5 (.cells #[.slice s5 ss.length c5, .int .i64 q, .slice x5 xs.length d5, .slice t5 ts.length f5] 49))
    have B5 := Lib.hid (Below.on B4.out hba)
    have K5 := Lib.hid (own_below K4.out hba)
    have V5 := Lib.hid (own_below V4.out hba)
    have X5 := Lib.hid (o5.on (below_grow w5 (.cells #[.slice s5 ss.length c5, .int .i64 q, .slice x5 xs.length d5, .slice t5 ts.length f5] 49)))
    have Y5 := Lib.hid (Box.made w5 [.slice s5 ss.length c5, .int .i64 q, .slice x5 xs.length d5, .slice t5 ts.length f5] 49)
    have KB := Lib.hid (fun k hk => (K4.out.lt k hk).2)
    have zz4 := hb.size
    clear hb hba o5 q0 q1 q2_ q3 K4 V4
    obtain ⟨w5a, hw5a⟩ : ∃ z, z = w5.alloc (.cells #[.slice s5 ss.length c5, .int .i64 q, .slice x5 xs.length d5, .slice t5 ts.length f5] 49) := ⟨_, rfl⟩
    have hz5 : w5a.heap.size = w5.heap.size + 1 := by rw [hw5a]; simp
    have HW5 := Lib.hid hw5a
    rw [← hw5a] at B5 K5 V5 X5 Y5
    clear hw5a
    have HP5 := Lib.hid (HP.out _ B5.out)
    have q9 := (HP5.out).1.2
    have q0 := q9.cell 0; have q1 := q9.cell 1; have q2_ := q9.cell 2; have q3 := q9.cell 3
    simp at q0 q1 q2_ q3
    clear q9
    rw [HW5.out] at q0 q1 q2_ q3
    go_wp2_with fail
    rw [← HW5.out]
    refine (toS_any q2 ua ya va uc yc vc ss2 xs2 ts2 _ (HU.out.on HP5.out.2) (HY.out.on HP5.out.2) (HV.out.on HP5.out.2) u1 u2 u3).mono ?_
    rintro e w6 ⟨sv6, xv6, tv6, rfl, o6, hb⟩
    obtain ⟨s6, c6, e5⟩ := Own.form o6.s
    obtain ⟨x6, d6, e6⟩ := Own.form o6.x
    obtain ⟨t6, f6, e7⟩ := Own.form o6.t
    subst e5 e6 e7
    have hba := Below.on hb (below_grow w6 (.cells #[.slice s6 ss2.length c6, .int .i64 q2, .slice x6 xs2.length d6, .slice t6 ts2.length f6] 49))
    have B6 := Lib.hid (Below.on B5.out hba)
    have K6 := Lib.hid (own_below K5.out hba)
    have V6 := Lib.hid (own_below V5.out hba)
    have X6 := Lib.hid (X5.out.on hba)
    have Y6 := Lib.hid (Y5.out.on hba)
    have M6 := Lib.hid (o6.on (below_grow w6 (.cells #[.slice s6 ss2.length c6, .int .i64 q2, .slice x6 xs2.length d6, .slice t6 ts2.length f6] 49)))
    have N6 := Lib.hid (Box.made w6 [.slice s6 ss2.length c6, .int .i64 q2, .slice x6 xs2.length d6, .slice t6 ts2.length f6] 49)
    have zz5 := hb.size
    clear hb hba o6 q0 q1 q2_ q3 K5 V5 X5 Y5 HP5
    obtain ⟨w6a, hw6a⟩ : ∃ z, z = w6.alloc (.cells #[.slice s6 ss2.length c6, .int .i64 q2, .slice x6 xs2.length d6, .slice t6 ts2.length f6] 49) := ⟨_, rfl⟩
    have hz6 : w6a.heap.size = w6.heap.size + 1 := by rw [hw6a]; simp
    have HW6 := Lib.hid hw6a
    rw [← hw6a] at B6 K6 V6 X6 Y6 M6 N6
    clear hw6a
    have a0 := Y6.out.cell 0; have a1 := Y6.out.cell 1; have a2 := Y6.out.cell 2; have a3 := Y6.out.cell 3; have b0 := N6.out.cell 0; have b1 := N6.out.cell 1; have b2 := N6.out.cell 2; have b3 := N6.out.cell 3
    rw [HW6.out] at a0 a1 a2 a3 b0 b1 b2 b3
    simp at a0 a1 a2 a3 b0 b1 b2 b3
    go_wp2_with fail
    rw [← HW6.out]
    refine (iscf_any g need _ keys _ q _ _ _ q2 _ _ ss xs ts ss2 xs2 ts2 _ (HG.out.on (HP.out _ B6.out).2) (Ints.of_own K6.out (smallS ck)) (Ints.of_own X6.out.s (smallS s1)) (Ints.of_own X6.out.x (smallS s2)) (Ints.of_own X6.out.t (smallS s3)) (Ints.of_own M6.out.s (smallS u1)) (Ints.of_own M6.out.x (smallS u2)) (Ints.of_own M6.out.t (smallS u3))).mono ?_
    rintro e w7 ⟨g7, rfl, o7, hb⟩
    rw [HXS.out] at o7
    rw [HFB.out]
    clear a0 a1 a2 a3 b0 b1 b2 b3
    have FK : Hid (∀ w', Below w7.heap.size w7 w' → (((Box w' w.heap.size [.slice sa ss.length sc, .int .i64 q, .slice xa xs.length xc, .slice ta ts.length tc] ∧ Box w' (w.heap.size + 1) [.slice ua ss2.length uc, .int .i64 q2, .slice ya xs2.length yc, .slice va ts2.length vc]) ∧ Below w.heap.size w w') ∧ Own w' w2.heap.size v0 XS ∧ Own w' w3.heap.size kv4 keys ∧ (OwnS w' w4.heap.size w5.heap.size (.slice s5 ss.length c5) (.slice x5 xs.length d5) (.slice t5 ts.length f5) ss xs ts ∧ Box w' w5.heap.size [.slice s5 ss.length c5, .int .i64 q, .slice x5 xs.length d5, .slice t5 ts.length f5]) ∧ (OwnS w' w5a.heap.size w6.heap.size (.slice s6 ss2.length c6) (.slice x6 xs2.length d6) (.slice t6 ts2.length f6) ss2 xs2 ts2 ∧ Box w' w6.heap.size [.slice s6 ss2.length c6, .int .i64 q2, .slice x6 xs2.length d6, .slice t6 ts2.length f6]) ∧ Own w' w6a.heap.size g7 XS)) := Lib.hid fun w' hb2 => ⟨HP.out _ (Below.on B6.out (Below.on hb hb2)), own_below V6.out (Below.on hb hb2), own_below K6.out (Below.on hb hb2), ⟨X6.out.on (Below.on hb hb2), Y6.out.on (Below.on hb hb2)⟩, ⟨M6.out.on (Below.on hb hb2), N6.out.on (Below.on hb hb2)⟩, own_below o7 hb2⟩
    have zz6 := hb.size
    have zz2 := Bz.out.size
    have T7 := Lib.hid (Below.refl w7.heap.size w7)
    clear hb o7 B6 K6 V6 X6 Y6 M6 N6 B5 B4 Bz Tk Oz HW5 HW6
    have hxl := HXL.out
    go_wp2_with fail
    refine (eqs_same g7 v0 XS _ (Ints.of_own (FK.out _ T7.out).2.2.2.2.2 (small3 HXL.out)) (Ints.of_own (FK.out _ T7.out).2.1 (small3 HXL.out))).mono ?_
    rintro e w8 ⟨rfl, m8, hw⟩
    have T8 := Lib.hid (Below.on T7.out (below_of_drew hw))
    clear hw
    go_wp2_with fail
    refine (toI_any ka kc keys _ (HK.out.on (FK.out _ T8.out).1.2) ck).mono ?_
    rintro e w9 ⟨kv9, rfl, o9, hb⟩
    have T9 := Lib.hid (Below.on T8.out hb)
    have I9 := Lib.hid (Ints.of_own o9 (smallS ck))
    clear hb o9
    go_wp2_with fail
    refine (eqs_same kv4 kv9 keys _ (Ints.of_own (FK.out _ T9.out).2.2.1 (smallS ck)) I9.out).mono ?_
    rintro e w10 ⟨rfl, m10, hw⟩
    have T10 := Lib.hid (Below.on T9.out (below_of_drew hw))
    clear hw I9
    go_wp2_with fail
    apply wp_region_H (Z := Option (Value × Value × Value)) (S := fun k => k == 2 || k == 3 || k == 4) (C := fun z w' => Hid (Below w10.heap.size w10 w' ∧ ∀ r, z = some r → Ints w' r.1 ss ∧ Ints w' r.2.1 xs ∧ Ints w' r.2.2 ts)) [0, 1] none
    · kernel_rfl
    · kernel_rfl
    · kernel_rfl
    · exact ⟨rfl, rfl, trivial⟩
    · rfl
    · decide
    · exact Lib.hid ⟨(Below.refl _ _).drew, fun r e => by cases e⟩
    · intro z
      dsimp only [pickL, nthO]
      repeat (first | go_big_quiet_skip | (go_big_quiet_want; go_big_quiet_op; first | go_big_quiet_on | (refine ⟨_, fun _ _ => rfl, ?_⟩; go_big_quiet_on)))
      go_big_quiet_want
      go_big_quiet_op
      refine ⟨.agg #[.slice s5 ss.length c5, .int .i64 q, .slice x5 xs.length d5, .slice t5 ts.length f5], fun w' hw' => ?_, ?_⟩
      · have q9 := (FK.out w' (Below.on T10.out hw'.out.1)).2.2.2.1.2
        have q0 := q9.cell 0; have q1 := q9.cell 1; have q2_ := q9.cell 2; have q3 := q9.cell 3
        simp at q0 q1 q2_ q3
        simp [go_sem, q0, q1, q2_, q3]
      go_big_quiet_on
      repeat (first | go_big_quiet_skip | (go_big_quiet_want; go_big_quiet_op; first | go_big_quiet_on | (refine ⟨_, fun _ _ => rfl, ?_⟩; go_big_quiet_on)))
      go_big_quiet_want
      go_big_quiet_op
      refine ⟨.agg #[.slice sa ss.length sc, .int .i64 q, .slice xa xs.length xc, .slice ta ts.length tc], fun w' hw' => ?_, ?_⟩
      · have q9 := (FK.out w' (Below.on T10.out hw'.out.1)).1.1.1
        have q0 := q9.cell 0; have q1 := q9.cell 1; have q2_ := q9.cell 2; have q3 := q9.cell 3
        simp at q0 q1 q2_ q3
        simp [go_sem, q0, q1, q2_, q3]
      go_big_quiet_on
      repeat (first | go_big_quiet_skip | (go_big_quiet_want; go_big_quiet_op; first | go_big_quiet_on | (refine ⟨_, fun _ _ => rfl, ?_⟩; go_big_quiet_on)))
      exact wpQuiet_nil rfl
    · skip
      refine wpAnyH_call (i := 2) (d := some 80) 27 #[.agg #[.slice sa ss.length sc, .int .i64 q, .slice xa xs.length xc, .slice ta ts.length tc]] rfl (by kernel_rfl) rfl rfl (by kernel_rfl) (fun _ => by kernel_rfl) fun wa hc => ?_
      have hl := Lib.hid (FK.out _ (Below.on T10.out hc.out.1)).1.2
      refine (toS_any q sa xa ta sc xc tc ss xs ts _ (HS.out.on hl.out) (HX.out.on hl.out) (HT.out.on hl.out) s1 s2 s3).mono ?_
      rintro e wb ⟨sv, xv, tv, rfl, o1, hb⟩
      refine ⟨_, rfl, some (sv, xv, tv), Lib.hid ⟨Below.on hc.out.1 hb, fun r e => (by cases e; exact ⟨Ints.of_own o1.s (smallS s1), Ints.of_own o1.x (smallS s2), Ints.of_own o1.t (smallS s3)⟩)⟩, ?_⟩
      clear o1 hb hl hc
      refine wpAnyH_call (i := 3) (d := some 81) 29 #[.agg #[.slice s5 ss.length c5, .int .i64 q, .slice x5 xs.length d5, .slice t5 ts.length f5], .agg #[sv, .int .i64 q, xv, tv]] rfl (by kernel_rfl) rfl rfl (by kernel_rfl) (fun _ => by kernel_rfl) fun wa hc => ?_
      have hf := Lib.hid (FK.out _ (Below.on T10.out hc.out.1)).2.2.2.1.1
      refine (eqsm_any q _ _ _ _ _ _ ss xs ts _ (Ints.of_own hf.out.s (smallS s1)) (Ints.of_own hf.out.x (smallS s2)) (Ints.of_own hf.out.t (smallS s3)) (hc.out.2 _ rfl).1 (hc.out.2 _ rfl).2.1 (hc.out.2 _ rfl).2.2).mono ?_
      rintro e wb ⟨rfl, hb⟩
      refine ⟨_, rfl, none, Lib.hid ⟨Below.on hc.out.1 hb, fun r e => by cases e⟩, ?_⟩
      clear hb hf hc
      refine wpAnyH_special (i := 4) (d := some 82) rfl (by kernel_rfl) rfl rfl (by kernel_rfl) fun wy hcy => ⟨.bool false, wy, none, .inl (by kernel_rfl), hcy, ?_⟩
      refine ⟨by kernel_rfl, fun w11 hz => ?_⟩
      have T11 := Lib.hid (Below.on T10.out hz.out.1)
      clear hz hcy
      simp only [Act.put, List.setIfInBounds_toArray, List.set_cons_zero, List.set_cons_succ]
      go_wp2_with fail
      apply wp_region_H (Z := Option (Value × Value × Value)) (S := fun k => k == 2 || k == 3 || k == 4) (C := fun z w' => Hid (Below w11.heap.size w11 w' ∧ ∀ r, z = some r → Ints w' r.1 ss2 ∧ Ints w' r.2.1 xs2 ∧ Ints w' r.2.2 ts2)) [0, 1] none
      · kernel_rfl
      · kernel_rfl
      · kernel_rfl
      · exact ⟨rfl, rfl, trivial⟩
      · rfl
      · decide
      · exact Lib.hid ⟨(Below.refl _ _).drew, fun r e => by cases e⟩
      · intro z
        dsimp only [pickL, nthO]
        repeat (first | go_big_quiet_skip | (go_big_quiet_want; go_big_quiet_op; first | go_big_quiet_on | (refine ⟨_, fun _ _ => rfl, ?_⟩; go_big_quiet_on)))
        go_big_quiet_want
        go_big_quiet_op
        refine ⟨.agg #[.slice s6 ss2.length c6, .int .i64 q2, .slice x6 xs2.length d6, .slice t6 ts2.length f6], fun w' hw' => ?_, ?_⟩
        · have q9 := (FK.out w' (Below.on T11.out hw'.out.1)).2.2.2.2.1.2
          have q0 := q9.cell 0; have q1 := q9.cell 1; have q2_ := q9.cell 2; have q3 := q9.cell 3
          simp at q0 q1 q2_ q3
          simp [go_sem, q0, q1, q2_, q3]
        go_big_quiet_on
        repeat (first | go_big_quiet_skip | (go_big_quiet_want; go_big_quiet_op; first | go_big_quiet_on | (refine ⟨_, fun _ _ => rfl, ?_⟩; go_big_quiet_on)))
        go_big_quiet_want
        go_big_quiet_op
        refine ⟨.agg #[.slice ua ss2.length uc, .int .i64 q2, .slice ya xs2.length yc, .slice va ts2.length vc], fun w' hw' => ?_, ?_⟩
        · have q9 := (FK.out w' (Below.on T11.out hw'.out.1)).1.1.2
          have q0 := q9.cell 0; have q1 := q9.cell 1; have q2_ := q9.cell 2; have q3 := q9.cell 3
          simp at q0 q1 q2_ q3
          simp [go_sem, q0, q1, q2_, q3]
        go_big_quiet_on
        repeat (first | go_big_quiet_skip | (go_big_quiet_want; go_big_quiet_op; first | go_big_quiet_on | (refine ⟨_, fun _ _ => rfl, ?_⟩; go_big_quiet_on)))
        exact wpQuiet_nil rfl
      · skip
        refine wpAnyH_call (i := 2) (d := some 85) 27 #[.agg #[.slice ua ss2.length uc, .int .i64 q2, .slice ya xs2.length yc, .slice va ts2.length vc]] rfl (by kernel_rfl) rfl rfl (by kernel_rfl) (fun _ => by kernel_rfl) fun wa hc => ?_
        have hl := Lib.hid (FK.out _ (Below.on T11.out hc.out.1)).1.2
        refine (toS_any q2 ua ya va uc yc vc ss2 xs2 ts2 _ (HU.out.on hl.out) (HY.out.on hl.out) (HV.out.on hl.out) u1 u2 u3).mono ?_
        rintro e wb ⟨sv, xv, tv, rfl, o1, hb⟩
        refine ⟨_, rfl, some (sv, xv, tv), Lib.hid ⟨Below.on hc.out.1 hb, fun r e => (by cases e; exact ⟨Ints.of_own o1.s (smallS u1), Ints.of_own o1.x (smallS u2), Ints.of_own o1.t (smallS u3)⟩)⟩, ?_⟩
        clear o1 hb hl hc
        refine wpAnyH_call (i := 3) (d := some 86) 29 #[.agg #[.slice s6 ss2.length c6, .int .i64 q2, .slice x6 xs2.length d6, .slice t6 ts2.length f6], .agg #[sv, .int .i64 q2, xv, tv]] rfl (by kernel_rfl) rfl rfl (by kernel_rfl) (fun _ => by kernel_rfl) fun wa hc => ?_
        have hf := Lib.hid (FK.out _ (Below.on T11.out hc.out.1)).2.2.2.2.1.1
        refine (eqsm_any q2 _ _ _ _ _ _ ss2 xs2 ts2 _ (Ints.of_own hf.out.s (smallS u1)) (Ints.of_own hf.out.x (smallS u2)) (Ints.of_own hf.out.t (smallS u3)) (hc.out.2 _ rfl).1 (hc.out.2 _ rfl).2.1 (hc.out.2 _ rfl).2.2).mono ?_
        rintro e wb ⟨rfl, hb⟩
        refine ⟨_, rfl, none, Lib.hid ⟨Below.on hc.out.1 hb, fun r e => by cases e⟩, ?_⟩
        clear hb hf hc
        refine wpAnyH_special (i := 4) (d := some 87) rfl (by kernel_rfl) rfl rfl (by kernel_rfl) fun wy hcy => ⟨.bool false, wy, none, .inl (by kernel_rfl), hcy, ?_⟩
        refine ⟨by kernel_rfl, fun w12 hz => ?_⟩
        have T12 := Lib.hid (Below.on T11.out hz.out.1)
        clear hz hcy
        simp only [Act.put, List.setIfInBounds_toArray, List.set_cons_zero, List.set_cons_succ]
        have F12 := Lib.hid (FK.out _ T12.out)
        have zz12 := T12.out.size
        clear FK T7 T8 T9 T10 T11 T12 HP
        go_wp2_with fail
        refine (markI_any kv4 keys 1 w3.heap.size _ F12.out.2.2.1 (by omega) (by omega) (by omega)).mono ?_
        rintro e w13 ⟨rfl, _, gr⟩
        have out := Outside.of_grown (lo := w3.heap.size) (hi := w4.heap.size) gr fun k hk => ⟨(F12.out.2.2.1.lt k hk).1, KB.out k hk⟩
        clear gr
        obtain ⟨K0, hK⟩ : ∃ K : Int, 1 + (keys.length : Int) = K := ⟨_, rfl⟩
        have K0a : 0 ≤ K0 := by omega
        have K0b : K0 ≤ 2100000 := by omega
        rw [hK]
        clear hK
        have ob := out.below (show w3.heap.size ≤ w12.heap.size by omega)
        have F13 := Lib.hid (show ((Box w13 w.heap.size [.slice sa ss.length sc, .int .i64 q, .slice xa xs.length xc, .slice ta ts.length tc] ∧ Box w13 (w.heap.size + 1) [.slice ua ss2.length uc, .int .i64 q2, .slice ya xs2.length yc, .slice va ts2.length vc]) ∧ Below w.heap.size w w13) ∧ Own w13 w2.heap.size v0 XS ∧ (OwnS w13 w4.heap.size w5.heap.size (.slice s5 ss.length c5) (.slice x5 xs.length d5) (.slice t5 ts.length f5) ss xs ts ∧ Box w13 w5.heap.size [.slice s5 ss.length c5, .int .i64 q, .slice x5 xs.length d5, .slice t5 ts.length f5]) ∧ (OwnS w13 w5a.heap.size w6.heap.size (.slice s6 ss2.length c6) (.slice x6 xs2.length d6) (.slice t6 ts2.length f6) ss2 xs2 ts2 ∧ Box w13 w6.heap.size [.slice s6 ss2.length c6, .int .i64 q2, .slice x6 xs2.length d6, .slice t6 ts2.length f6]) ∧ Own w13 w6a.heap.size g7 XS from ⟨⟨⟨F12.out.1.1.1.low ob (by omega), F12.out.1.1.2.low ob (by omega)⟩, F12.out.1.2.trans (ob.mono (by omega))⟩, out.low F12.out.2.1 (fun k hk => VB.out k hk), ⟨OwnS.far out F12.out.2.2.2.1.1 (Nat.le_refl _), out.box F12.out.2.2.2.1.2 (by omega)⟩, ⟨OwnS.far out F12.out.2.2.2.2.1.1 (by omega), out.box F12.out.2.2.2.2.1.2 (by omega)⟩, out.own F12.out.2.2.2.2.2 (by omega)⟩)
        have zz13 := out.size
        clear out ob F12
        have q0 := F13.out.2.2.1.2.cell 0; have q1 := F13.out.2.2.1.2.cell 1; have q2_ := F13.out.2.2.1.2.cell 2; have q3 := F13.out.2.2.1.2.cell 3
        simp at q0 q1 q2_ q3
        go_wp2_with fail
        refine (marks_any q _ _ _ ss xs ts K0 w4.heap.size w5.heap.size _ F13.out.2.2.1.1 (by omega) (by omega) (by omega) (by omega) (by omega) (by omega)).mono ?_
        rintro e w14 ⟨rfl, _, out⟩
        clear q0 q1 q2_ q3
        obtain ⟨K1, hK⟩ : ∃ K : Int, K0 + (ss.length : Int) + xs.length + ts.length = K := ⟨_, rfl⟩
        have K1a : 0 ≤ K1 := by omega
        have K1b : K1 ≤ 6000000 := by omega
        rw [hK]
        clear hK
        have ob := out.below (show w4.heap.size ≤ w13.heap.size by omega)
        have F14 := Lib.hid (show ((Box w14 w.heap.size [.slice sa ss.length sc, .int .i64 q, .slice xa xs.length xc, .slice ta ts.length tc] ∧ Box w14 (w.heap.size + 1) [.slice ua ss2.length uc, .int .i64 q2, .slice ya xs2.length yc, .slice va ts2.length vc]) ∧ Below w.heap.size w w14) ∧ Own w14 w2.heap.size v0 XS ∧ (OwnS w14 w5a.heap.size w6.heap.size (.slice s6 ss2.length c6) (.slice x6 xs2.length d6) (.slice t6 ts2.length f6) ss2 xs2 ts2 ∧ Box w14 w6.heap.size [.slice s6 ss2.length c6, .int .i64 q2, .slice x6 xs2.length d6, .slice t6 ts2.length f6]) ∧ Own w14 w6a.heap.size g7 XS from ⟨⟨⟨F13.out.1.1.1.low ob (by omega), F13.out.1.1.2.low ob (by omega)⟩, F13.out.1.2.trans (ob.mono (by omega))⟩, out.low F13.out.2.1 (fun k hk => by have := VB.out k hk; omega), ⟨OwnS.far out F13.out.2.2.2.1.1 (by omega), out.box F13.out.2.2.2.1.2 (by omega)⟩, out.own F13.out.2.2.2.2 (by omega)⟩)
        have zz14 := out.size
        clear out ob F13
        have q0 := F14.out.2.2.1.2.cell 0; have q1 := F14.out.2.2.1.2.cell 1; have q2_ := F14.out.2.2.1.2.cell 2; have q3 := F14.out.2.2.1.2.cell 3
        simp at q0 q1 q2_ q3
        go_wp2_with fail
        refine (marks_any q2 _ _ _ ss2 xs2 ts2 K1 w5a.heap.size w6.heap.size _ F14.out.2.2.1.1 (by omega) (by omega) (by omega) (by omega) (by omega) (by omega)).mono ?_
        rintro e w15 ⟨rfl, _, out⟩
        clear q0 q1 q2_ q3
        obtain ⟨K2, hK⟩ : ∃ K : Int, K1 + (ss2.length : Int) + xs2.length + ts2.length = K := ⟨_, rfl⟩
        have K2a : 0 ≤ K2 := by omega
        have K2b : K2 ≤ 10000000 := by omega
        rw [hK]
        clear hK
        have ob := out.below (show w5a.heap.size ≤ w14.heap.size by omega)
        have F15 := Lib.hid (show ((Box w15 w.heap.size [.slice sa ss.length sc, .int .i64 q, .slice xa xs.length xc, .slice ta ts.length tc] ∧ Box w15 (w.heap.size + 1) [.slice ua ss2.length uc, .int .i64 q2, .slice ya xs2.length yc, .slice va ts2.length vc]) ∧ Below w.heap.size w w15) ∧ Own w15 w2.heap.size v0 XS ∧ Own w15 w6a.heap.size g7 XS from ⟨⟨⟨F14.out.1.1.1.low ob (by omega), F14.out.1.1.2.low ob (by omega)⟩, F14.out.1.2.trans (ob.mono (by omega))⟩, out.low F14.out.2.1 (fun k hk => by have := VB.out k hk; omega), out.own F14.out.2.2.2 (by omega)⟩)
        have zz15 := out.size
        clear out ob F14
        go_wp2_with fail
        refine (eqs_same g7 v0 XS _ (Ints.of_own F15.out.2.2 (small3 HXL.out)) (Ints.of_own F15.out.2.1 (small3 HXL.out))).mono ?_
        rintro e w16 ⟨rfl, m16, hw⟩
        have hb16 := below_of_drew hw
        have F16 := Lib.hid (show ((Box w16 w.heap.size [.slice sa ss.length sc, .int .i64 q, .slice xa xs.length xc, .slice ta ts.length tc] ∧ Box w16 (w.heap.size + 1) [.slice ua ss2.length uc, .int .i64 q2, .slice ya xs2.length yc, .slice va ts2.length vc]) ∧ Below w.heap.size w w16) ∧ Own w16 w2.heap.size v0 XS ∧ Own w16 w6a.heap.size g7 XS from ⟨⟨⟨F15.out.1.1.1.on hb16, F15.out.1.1.2.on hb16⟩, Below.on F15.out.1.2 hb16⟩, own_below F15.out.2.1 hb16, own_below F15.out.2.2 hb16⟩)
        have zz16 := hb16.size
        clear hw hb16 F15
        go_wp2_with fail
        refine (markI_any g7 XS 1 w6a.heap.size _ F16.out.2.2 (by omega) (by omega) (by omega)).mono ?_
        rintro e w17 ⟨rfl, og, gr⟩
        have out := Outside.of_grown (lo := w6a.heap.size) (hi := w16.heap.size) gr fun k hk => ⟨(F16.out.2.2.lt k hk).1, (F16.out.2.2.lt k hk).2⟩
        clear gr
        have ob := out.below (show w6a.heap.size ≤ w16.heap.size by omega)
        have F17 : Hid (∀ w', Below w17.heap.size w17 w' → ((Box w' w.heap.size [.slice sa ss.length sc, .int .i64 q, .slice xa xs.length xc, .slice ta ts.length tc] ∧ Box w' (w.heap.size + 1) [.slice ua ss2.length uc, .int .i64 q2, .slice ya xs2.length yc, .slice va ts2.length vc]) ∧ Below w.heap.size w w') ∧ Own w' w2.heap.size v0 XS ∧ Own w' w6a.heap.size g7 (markTo XS 1 XS.length)) := Lib.hid fun w' hb => ⟨⟨⟨(F16.out.1.1.1.low ob (by omega)).on hb, (F16.out.1.1.2.low ob (by omega)).on hb⟩, Below.on (F16.out.1.2.trans (ob.mono (by omega))) hb⟩, own_below (out.low F16.out.2.1 (fun k hk => by have := VB.out k hk; omega)) hb, own_below og hb⟩
        have T17 := Lib.hid (Below.refl w17.heap.size w17)
        clear out ob og F16
        have hne : ((1 + (XS.length : Int)) != (1 + (XS.length : Int))) = false := by simp
        go_wp2_with fail
        refine (heldI_any g7 _ 1 _ (Ints.of_own (F17.out _ T17.out).2.2 (by rw [markTo_len]; exact small3 HXL.out)) (by rw [markTo_len]; omega) (by omega) (by omega) (fun j hj => markTo_nth _ _ _ (Nat.le_refl _) j (by rwa [markTo_len] at hj))).mono ?_
        rintro e wh ⟨rfl, rfl⟩
        rw [markTo_len]
        have HQ : Hid (∀ w', Below w17.heap.size w17 w' → (Box w' w.heap.size [.slice sa ss.length sc, .int .i64 q, .slice xa xs.length xc, .slice ta ts.length tc] ∧ Box w' (w.heap.size + 1) [.slice ua ss2.length uc, .int .i64 q2, .slice ya xs2.length yc, .slice va ts2.length vc]) ∧ Below w.heap.size w w') := Lib.hid fun w' hb => (F17.out w' hb).1
        go_wp2_with fail
        apply wp_region_H (Z := Option Value × Option (Value × Value × Value) × Option (Value × Value × Value) × Option Value) (S := fun k => k == 2 || k == 5 || k == 7 || k == 8) (C := fun z w' => Hid (Zj w17 keys ss xs ts ss2 xs2 ts2 XS z w')) [0, 1, 3, 4, 6] (none, none, none, none)
        · kernel_rfl
        · kernel_rfl
        · kernel_rfl
        · exact ⟨rfl, rfl, rfl, rfl, rfl, trivial⟩
        · rfl
        · decide
        · exact Lib.hid ⟨(Below.refl _ _).drew, fun v e => (by cases e), fun r e => (by cases e), fun r e => (by cases e), fun v e => (by cases e)⟩
        · intro z
          dsimp only [pickL, nthO]
          repeat (first | go_big_quiet_skip | (go_big_quiet_want; go_big_quiet_op; first | go_big_quiet_on | (refine ⟨_, fun _ _ => rfl, ?_⟩; go_big_quiet_on)))
          go_big_quiet_want
          go_big_quiet_op
          refine ⟨.agg #[.slice sa ss.length sc, .int .i64 q, .slice xa xs.length xc, .slice ta ts.length tc], fun w' hw' => ?_, ?_⟩
          · have q9 := (HQ.out w' hw'.out.bl).1.1
            have q0 := q9.cell 0; have q1 := q9.cell 1; have q2_ := q9.cell 2; have q3 := q9.cell 3
            simp at q0 q1 q2_ q3
            simp [go_sem, q0, q1, q2_, q3]
          go_big_quiet_on
          repeat (first | go_big_quiet_skip | (go_big_quiet_want; go_big_quiet_op; first | go_big_quiet_on | (refine ⟨_, fun _ _ => rfl, ?_⟩; go_big_quiet_on)))
          go_big_quiet_want
          go_big_quiet_op
          refine ⟨.agg #[.slice ua ss2.length uc, .int .i64 q2, .slice ya xs2.length yc, .slice va ts2.length vc], fun w' hw' => ?_, ?_⟩
          · have q9 := (HQ.out w' hw'.out.bl).1.2
            have q0 := q9.cell 0; have q1 := q9.cell 1; have q2_ := q9.cell 2; have q3 := q9.cell 3
            simp at q0 q1 q2_ q3
            simp [go_sem, q0, q1, q2_, q3]
          go_big_quiet_on
          repeat (first | go_big_quiet_skip | (go_big_quiet_want; go_big_quiet_op; first | go_big_quiet_on | (refine ⟨_, fun _ _ => rfl, ?_⟩; go_big_quiet_on)))
          exact wpQuiet_nil rfl
        · skip
          refine wpAnyH_call (i := 2) (d := some 124) 22 #[.slice ka keys.length kc] rfl (by kernel_rfl) rfl rfl (by kernel_rfl) (fun _ => by kernel_rfl) fun wa hc => ?_
          refine (toI_any ka kc keys _ (HK.out.on (HQ.out _ hc.out.bl).2) ck).mono ?_
          rintro e wb ⟨kvy, rfl, o1, hb⟩
          refine ⟨_, rfl, (some kvy, none, none, none), Lib.hid ⟨Below.on hc.out.bl hb, fun v e => (by cases e; exact Ints.of_own o1 (smallS ck)), fun r e => (by cases e), fun r e => (by cases e), fun v e => (by cases e)⟩, ?_⟩
          clear o1 hb hc
          refine wpAnyH_call (i := 5) (d := some 127) 27 #[.agg #[.slice sa ss.length sc, .int .i64 q, .slice xa xs.length xc, .slice ta ts.length tc]] rfl (by kernel_rfl) rfl rfl (by kernel_rfl) (fun _ => by kernel_rfl) fun wa hc => ?_
          refine (toS_any q sa xa ta sc xc tc ss xs ts _ (HS.out.on (HQ.out _ hc.out.bl).2) (HX.out.on (HQ.out _ hc.out.bl).2) (HT.out.on (HQ.out _ hc.out.bl).2) s1 s2 s3).mono ?_
          rintro e wb ⟨svy, xvy, tvy, rfl, o1, hb⟩
          refine ⟨_, rfl, (some kvy, some (svy, xvy, tvy), none, none), Lib.hid ⟨Below.on hc.out.bl hb, fun v e => (hc.out.k v e).below hb, fun r e => (by cases e; exact ⟨Ints.of_own o1.s (smallS s1), Ints.of_own o1.x (smallS s2), Ints.of_own o1.t (smallS s3)⟩), fun r e => (by cases e), fun v e => (by cases e)⟩, ?_⟩
          clear o1 hb hc
          refine wpAnyH_call (i := 7) (d := some 129) 27 #[.agg #[.slice ua ss2.length uc, .int .i64 q2, .slice ya xs2.length yc, .slice va ts2.length vc]] rfl (by kernel_rfl) rfl rfl (by kernel_rfl) (fun _ => by kernel_rfl) fun wa hc => ?_
          refine (toS_any q2 ua ya va uc yc vc ss2 xs2 ts2 _ (HU.out.on (HQ.out _ hc.out.bl).2) (HY.out.on (HQ.out _ hc.out.bl).2) (HV.out.on (HQ.out _ hc.out.bl).2) u1 u2 u3).mono ?_
          rintro e wb ⟨uvy, yvy, vvy, rfl, o1, hb⟩
          refine ⟨_, rfl, (some kvy, some (svy, xvy, tvy), some (uvy, yvy, vvy), none), Lib.hid ⟨Below.on hc.out.bl hb, fun v e => (hc.out.k v e).below hb, fun r e => ⟨(hc.out.s r e).1.below hb, (hc.out.s r e).2.1.below hb, (hc.out.s r e).2.2.below hb⟩, fun r e => (by cases e; exact ⟨Ints.of_own o1.s (smallS u1), Ints.of_own o1.x (smallS u2), Ints.of_own o1.t (smallS u3)⟩), fun v e => (by cases e)⟩, ?_⟩
          clear o1 hb hc
          refine wpAnyH_call (i := 8) (d := some 130) 36 #[.int .i64 g, kvy, .int .i64 need, .agg #[svy, .int .i64 q, xvy, tvy], .agg #[uvy, .int .i64 q2, yvy, vvy]] rfl (by kernel_rfl) rfl rfl (by kernel_rfl) (fun _ => by kernel_rfl) fun wa hc => ?_
          refine (iscf_any g need _ keys _ q _ _ _ q2 _ _ ss xs ts ss2 xs2 ts2 _ (HG.out.on (HQ.out _ hc.out.bl).2) (hc.out.k _ rfl) (hc.out.s _ rfl).1 (hc.out.s _ rfl).2.1 (hc.out.s _ rfl).2.2 (hc.out.u _ rfl).1 (hc.out.u _ rfl).2.1 (hc.out.u _ rfl).2.2).mono ?_
          rintro e wb ⟨h0, rfl, o1, hb⟩
          rw [HXS.out] at o1
          rw [HFB.out]
          refine ⟨_, rfl, (none, none, none, some h0), Lib.hid ⟨Below.on hc.out.bl hb, fun v e => (by cases e), fun r e => (by cases e), fun r e => (by cases e), fun v e => (by cases e; exact own_mono o1 hc.out.bl.size)⟩, ?_⟩
          clear o1 hb hc
          refine wpAnyH_take (i := 9) (d := some 121) (.tuple #[h0, .bool FBB]) rfl (by kernel_rfl) rfl rfl (by kernel_rfl) (by kernel_rfl) (by kernel_rfl) (fun _ => by kernel_rfl) ?_
          refine wpAnyH_take (i := 10) (d := some 131) (h0) rfl (by kernel_rfl) rfl rfl (by kernel_rfl) (by kernel_rfl) (by kernel_rfl) (fun _ => by kernel_rfl) ?_
          refine wpAnyH_take (i := 11) (d := some 132) (.bool FBB) rfl (by kernel_rfl) rfl rfl (by kernel_rfl) (by kernel_rfl) (by kernel_rfl) (fun _ => by kernel_rfl) ?_
          refine wpAnyH_take (i := 12) (d := some 22) (h0) rfl (by kernel_rfl) rfl rfl (by kernel_rfl) (by kernel_rfl) (by kernel_rfl) (fun _ => by kernel_rfl) ?_
          refine wpAnyH_take (i := 13) (d := some 23) (.bool FBB) rfl (by kernel_rfl) rfl rfl (by kernel_rfl) (by kernel_rfl) (by kernel_rfl) (fun _ => by kernel_rfl) ?_
          refine ⟨by kernel_rfl, fun w19 hz => ?_⟩
          have By := Lib.hid hz.out.bl
          have Oy := Lib.hid (hz.out.v _ rfl)
          simp only [Act.put]
          clear hz
          go_wp2_with fail
          refine (eqs_same h0 v0 XS _ (Ints.of_own Oy.out (small3 HXL.out)) (Ints.of_own (F17.out _ By.out).2.1 (small3 HXL.out))).mono ?_
          rintro e w20 ⟨rfl, m20, hw⟩
          have T20 := Lib.hid (Below.on By.out (below_of_drew hw))
          clear hw
          go_wp2_with fail
          refine (heldI_any g7 _ 1 _ (Ints.of_own (F17.out _ T20.out).2.2 (by rw [markTo_len]; exact small3 HXL.out)) (by rw [markTo_len]; omega) (by omega) (by omega) (fun j hj => markTo_nth _ _ _ (Nat.le_refl _) j (by rwa [markTo_len] at hj))).mono ?_
          rintro e wh ⟨rfl, rfl⟩
          rw [markTo_len]
          go_wp2
          go_ret
          exact ⟨rfl, (F17.out _ T20.out).1.2⟩
end Go.Proofs.YtclihkcigppgjaaDoor
