/- The exact law of ClaimOk, walked: spec's answer, impl's answer, and that both are the same; no argument is written to; the answer owns its memory. -/
import Derived.Test.YtopjlbihhbjhnaaDoorMark
import Derived.Test.YtopjlbihhbjhnaaDoorMkS
namespace Go.Proofs.YtopjlbihhbjhnaaDoor
open Go.RowKit

set_option maxHeartbeats 6400000 in
theorem xClaimOk_walk (g : Int) (a : Option Addr) (c : Nat) (rows : List (List Int)) (b : Option Addr) (d : Nat) (makes : List Int) (w : World) (G : Gr w) (ha : ArgSS w a rows) (hb : ArgI w b makes) (hn : rows.length ≤ maxLen) (hr : ∀ j, j < rows.length → (row rows j).length ≤ maxLen) (hm : makes.length ≤ maxLen) :
    Calls Tryd.prog 4 #[.agg #[.int .i64 g, .slice a rows.length c, .slice b makes.length d]] w fun e w' => e = .returned (.bool true) ∧ Below w.heap.size w w' := by
  have HG := Lib.hid G
  have HA := Lib.hid ha
  have HB := Lib.hid hb
  have HR := Lib.hid hr
  unfold maxLen at hn hm
  clear ha hb hr G
  go_enter Tryd.func4, Tryd.ntmps4
  go_wp2_with fail
  refine (szcl_any g a b c d rows makes 1048576 _ (HA.out.on (below_grow _ _)) hn HR.out hm (by omega) (by omega)).mono ?_
  rintro e w1 ⟨r, rfl, hb, hres⟩
  obtain ⟨p0, l1⟩ := boxes1 hb
  have P0 := Lib.hid p0
  have L1 := Lib.hid l1
  clear hb l1 p0
  rcases hres with rfl | ⟨r0, r1, s1, s2, s3, s4⟩
  · go_wp2
    go_ret
    exact ⟨rfl, L1.out⟩
  have S2 := Lib.hid s2
  clear s2
  have q0 := P0.out.cell 0
  have q1 := P0.out.cell 1
  have q2 := P0.out.cell 2
  simp at q0 q1 q2
  go_wp2_with fail
  refine (toCl_any g a b c d rows makes _ (HA.out.on L1.out) (HB.out.on L1.out) s1 S2.out s3).mono ?_
  rintro e w2 ⟨rv1, mv1, us1, rfl, o1, hb⟩
  have B1 := Lib.hid hb
  clear hb
  obtain ⟨⟨ra1, rc1, er1⟩, ma1, mc1, em1⟩ := o1.form
  subst er1 em1
  have O1 := Lib.hid o1
  clear o1 q0 q1 q2
  go_wp2_with fail
  refine (sclaim_any g (.slice ra1 rows.length rc1) (.slice ma1 makes.length mc1) rows makes _ (OwnCl.cw O1.out s1 S2.out s3)).mono ?_
  rintro e w3 ⟨rfl, hb⟩
  have B2 := Lib.hid hb
  clear hb
  have q0 := (P0.out.on (Below.on B1.out B2.out)).cell 0
  have q1 := (P0.out.on (Below.on B1.out B2.out)).cell 1
  have q2 := (P0.out.on (Below.on B1.out B2.out)).cell 2
  simp at q0 q1 q2
  go_wp2_with fail
  refine (toCl_any g a b c d rows makes _ (HA.out.on (Below.on L1.out (Below.on B1.out B2.out))) (HB.out.on (Below.on L1.out (Below.on B1.out B2.out))) s1 S2.out s3).mono ?_
  rintro e w4 ⟨rv2, mv2, us2, rfl, o2, hb⟩
  have B3 := Lib.hid hb
  clear hb
  obtain ⟨⟨ra2, rc2, er2⟩, ma2, mc2, em2⟩ := o2.form
  subst er2 em2
  have O2 := Lib.hid o2
  clear o2 q0 q1 q2
  go_wp2_with fail
  refine (iclaim_any g (.slice ra2 rows.length rc2) (.slice ma2 makes.length mc2) rows makes _ (HG.out.on (Below.on (Below.on L1.out (Below.on B1.out (Below.on B2.out B3.out))) (below_grow _ _))) ((OwnCl.cw O2.out s1 S2.out s3).on (below_grow _ _))).mono ?_
  rintro e w5 ⟨rfl, hb⟩
  have B4 := Lib.hid (Below.on (below_grow w4 (.cells #[.int .i64 g, (.slice ra2 rows.length rc2), (.slice ma2 makes.length mc2)] 35)) hb)
  have X2 := Lib.hid ((Box.made w4 [.int .i64 g, (.slice ra2 rows.length rc2), (.slice ma2 makes.length mc2)] 35).on hb)
  clear hb
  have hq := bne_self (clB g rows makes)
  have HC0 : Hid (∀ w', Below w5.heap.size w5 w' → Box w' w4.heap.size [.int .i64 g, (.slice ra2 rows.length rc2), (.slice ma2 makes.length mc2)] ∧ Box w' w.heap.size [.int .i64 g, .slice a rows.length c, .slice b makes.length d]) := Lib.hid fun w' hb => ⟨X2.out.on hb, (P0.out.on (Below.on B1.out (Below.on B2.out (Below.on B3.out B4.out)))).on hb⟩
  go_wp2_with fail
  apply wp_region_H (Z := Option (Value × Value)) (S := fun k => k == 2 || k == 3 || k == 4) (C := fun z w' => Hid (Below w5.heap.size w5 w' ∧ ∀ r, z = some r → Cw w' r.1 r.2 rows makes)) [0, 1] none
  · kernel_rfl
  · kernel_rfl
  · kernel_rfl
  · exact ⟨rfl, rfl, trivial⟩
  · rfl
  · decide
  · exact Lib.hid ⟨(Below.refl _ _).drew, fun r hr => by cases hr⟩
  · intro z
    dsimp only [pickL, nthO]
    repeat (first | go_big_quiet_skip | (go_big_quiet_want; go_big_quiet_op; first | go_big_quiet_on | (refine ⟨_, fun _ _ => rfl, ?_⟩; go_big_quiet_on)))
    go_big_quiet_want
    go_big_quiet_op
    refine ⟨.agg #[.int .i64 g, (.slice ra2 rows.length rc2), (.slice ma2 makes.length mc2)], fun w' hw' => ?_, ?_⟩
    · have q := (HC0.out w' hw'.out.1).1
      have q0 := q.cell 0; have q1 := q.cell 1; have q2 := q.cell 2
      simp at q0 q1 q2
      simp [go_sem, q0, q1, q2]
    go_big_quiet_on
    repeat (first | go_big_quiet_skip | (go_big_quiet_want; go_big_quiet_op; first | go_big_quiet_on | (refine ⟨_, fun _ _ => rfl, ?_⟩; go_big_quiet_on)))
    go_big_quiet_want
    go_big_quiet_op
    refine ⟨.agg #[.int .i64 g, .slice a rows.length c, .slice b makes.length d], fun w' hw' => ?_, ?_⟩
    · have q := (HC0.out w' hw'.out.1).2
      have q0 := q.cell 0; have q1 := q.cell 1; have q2 := q.cell 2
      simp at q0 q1 q2
      simp [go_sem, q0, q1, q2]
    go_big_quiet_on
    exact wpQuiet_nil rfl
  · refine wpAnyH_call (i := 2) (d := some 24) 18 #[.agg #[.int .i64 g, .slice a rows.length c, .slice b makes.length d]] rfl (by kernel_rfl) rfl rfl (by kernel_rfl) (fun _ => by kernel_rfl) fun wa hc => ?_
    refine (toCl_any g a b c d rows makes _ (HA.out.on (Below.on (Below.on L1.out (Below.on B1.out (Below.on B2.out (Below.on B3.out B4.out)))) hc.out.1)) (HB.out.on (Below.on (Below.on L1.out (Below.on B1.out (Below.on B2.out (Below.on B3.out B4.out)))) hc.out.1)) s1 S2.out s3).mono ?_
    rintro e wb ⟨rv3, mv3, us3, rfl, o3, hb⟩
    refine ⟨_, rfl, some (rv3, mv3), Lib.hid ⟨Below.on hc.out.1 hb, fun r hr => by cases hr; exact OwnCl.cw o3 s1 S2.out s3⟩, ?_⟩
    clear o3 hb hc
    refine wpAnyH_call (i := 3) (d := some 25) 20 #[.agg #[.int .i64 g, (.slice ra2 rows.length rc2), (.slice ma2 makes.length mc2)], .agg #[.int .i64 g, rv3, mv3]] rfl (by kernel_rfl) rfl rfl (by kernel_rfl) (fun _ => by kernel_rfl) fun wc hc => ?_
    have k1 := OwnCl.cw ((O2.out.on B4.out).on hc.out.1) s1 S2.out s3
    have k2 := hc.out.2 _ rfl
    refine (eqcl_any g (.slice ra2 rows.length rc2) (.slice ma2 makes.length mc2) rv3 mv3 rows makes _ k1.rows k1.makes k2.rows k2.makes).mono ?_
    rintro e wd ⟨rfl, hb⟩
    refine ⟨_, rfl, none, Lib.hid ⟨Below.on hc.out.1 hb, fun r hr => by cases hr⟩, ?_⟩
    refine wpAnyH_special (i := 4) (d := some 26) rfl (by kernel_rfl) rfl rfl (by kernel_rfl) fun wy hcy => ⟨.bool false, wy, none, .inl (by kernel_rfl), hcy, ?_⟩
    refine ⟨by kernel_rfl, fun w6 hz => ?_⟩
    have B5 := Lib.hid hz.out.1
    simp only [Act.put]
    clear HC0 hz
    go_wp2
    go_ret
    exact ⟨rfl, (Below.on L1.out (Below.on B1.out (Below.on B2.out (Below.on B3.out (Below.on B4.out B5.out)))))⟩
end Go.Proofs.YtopjlbihhbjhnaaDoor
