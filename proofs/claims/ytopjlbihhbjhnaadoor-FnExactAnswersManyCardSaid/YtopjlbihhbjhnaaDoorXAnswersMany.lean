/- The exact law of AnswersMany, walked: spec's answer, impl's answer, and that both are the same; no argument is written to; the answer owns its memory. -/
import Derived.Test.YtopjlbihhbjhnaaDoorMark
import Derived.Test.YtopjlbihhbjhnaaDoorAnsS
namespace Go.Proofs.YtopjlbihhbjhnaaDoor
open Go.RowKit

theorem sans_is (g : Int) (rv mv sv : Value) (rows : List (List Int)) (makes says : List Int) (w : World) (h : Cw w rv mv rows makes) (hs : Ints w sv says) {AM : Int} (e : ansM g rows makes says = AM) :
    Calls Tryd.prog 48 #[.agg #[.int .i64 g, rv, mv], sv] w fun e w' => e = .returned (.int .i64 AM) ∧ Below w.heap.size w w' := by
  subst e; exact sans_any g rv mv sv rows makes says w h hs
theorem ians_is (g : Int) (rv mv sv : Value) (rows : List (List Int)) (makes says : List Int) (w : World) (G : Gr w) (h : Cw w rv mv rows makes) (hs : Ints w sv says) {AM : Int} (e : ansM g rows makes says = AM) :
    Calls Tryd.prog 49 #[.agg #[.int .i64 g, rv, mv], sv] w fun e w' => e = .returned (.int .i64 AM) ∧ Below w.heap.size w w' := by
  subst e; exact ians_any g rv mv sv rows makes says w G h hs

set_option maxHeartbeats 6400000 in
theorem xAnswersMany_walk (g : Int) (a : Option Addr) (c : Nat) (rows : List (List Int)) (b : Option Addr) (d : Nat) (makes : List Int) (esa : Option Addr) (esc : Nat) (es : List Int) (w : World) (G : Gr w) (ha : ArgSS w a rows) (hb : ArgI w b makes) (hn : rows.length ≤ maxLen) (hr : ∀ j, j < rows.length → (row rows j).length ≤ maxLen) (hm : makes.length ≤ maxLen) (hes : ArgI w esa es) (mes : es.length ≤ maxLen) :
    Calls Tryd.prog 12 #[.agg #[.int .i64 g, .slice a rows.length c, .slice b makes.length d], .slice esa es.length esc] w fun e w' => e = .returned (.bool true) ∧ Below w.heap.size w w' := by
  have HG := Lib.hid G
  have HA := Lib.hid ha
  have HB := Lib.hid hb
  have HR := Lib.hid hr
  obtain ⟨AM, hAM⟩ : ∃ AM, ansM g rows makes es = AM := ⟨_, rfl⟩
  have HAM := Lib.hid hAM
  clear hAM
  unfold maxLen at hn hm
  have Hes := Lib.hid hes
  unfold maxLen at mes
  clear ha hb hr G hes
  by_cases ces : es.length ≤ 1048576
  case neg =>
    go_enter Tryd.func12, Tryd.ntmps12
    go_wp2
    go_ret
    exact ⟨rfl, (below_grow _ _)⟩
  go_enter Tryd.func12, Tryd.ntmps12
  go_wp2_with fail
  refine (szcl_any g a b c d rows makes 1048576 _ (HA.out.on (below_grow _ _)) hn HR.out hm (by omega) (by omega)).mono ?_
  rintro e w1 ⟨r, rfl, hb, hres⟩
  obtain ⟨p0, l1⟩ := boxes1 hb
  have P0 := Lib.hid p0
  have L1 := Lib.hid l1
  clear hb l1 p0
  rcases hres with rfl | ⟨r0, r1, s1, s2, s3, s4⟩
  · go_wp2
    go_ret
    exact ⟨rfl, L1.out⟩
  have S2 := Lib.hid s2
  clear s2
  have q0 := P0.out.cell 0
  have q1 := P0.out.cell 1
  have q2 := P0.out.cell 2
  simp at q0 q1 q2
  go_wp2_with fail
  refine (toCl_any g a b c d rows makes _ (HA.out.on L1.out) (HB.out.on L1.out) s1 S2.out s3).mono ?_
  rintro e w2 ⟨rv1, mv1, us1, rfl, o1, hb⟩
  have B1 := Lib.hid hb
  clear hb
  obtain ⟨⟨ra1, rc1, er1⟩, ma1, mc1, em1⟩ := o1.form
  subst er1 em1
  have O1 := Lib.hid o1
  clear o1 q0 q1 q2
  go_wp2_with fail
  refine (toI_any esa esc es _ (Hes.out.on (Below.on L1.out B1.out)) ces).mono ?_
  rintro e w3 ⟨iv2, rfl, o2, hb⟩
  have B2 := Lib.hid hb
  clear hb
  have O2 := Lib.hid o2
  clear o2
  go_wp2_with fail
  refine (sans_is g (.slice ra1 rows.length rc1) (.slice ma1 makes.length mc1) iv2 rows makes es _ (OwnCl.cw (O1.out.on B2.out) s1 S2.out s3) (Ints.of_own O2.out (small ces)) HAM.out).mono ?_
  rintro e w4 ⟨rfl, hb⟩
  have B3 := Lib.hid hb
  clear hb
  have q0 := (P0.out.on (Below.on B1.out (Below.on B2.out B3.out))).cell 0
  have q1 := (P0.out.on (Below.on B1.out (Below.on B2.out B3.out))).cell 1
  have q2 := (P0.out.on (Below.on B1.out (Below.on B2.out B3.out))).cell 2
  simp at q0 q1 q2
  go_wp2_with fail
  refine (toCl_any g a b c d rows makes _ (HA.out.on (Below.on L1.out (Below.on B1.out (Below.on B2.out B3.out)))) (HB.out.on (Below.on L1.out (Below.on B1.out (Below.on B2.out B3.out)))) s1 S2.out s3).mono ?_
  rintro e w5 ⟨rv3, mv3, us3, rfl, o3, hb⟩
  have B4 := Lib.hid hb
  clear hb
  obtain ⟨⟨ra3, rc3, er3⟩, ma3, mc3, em3⟩ := o3.form
  subst er3 em3
  have O3 := Lib.hid o3
  clear o3 q0 q1 q2
  go_wp2_with fail
  refine (toI_any esa esc es _ (Hes.out.on (Below.on (Below.on L1.out (Below.on B1.out (Below.on B2.out (Below.on B3.out B4.out)))) (below_grow _ _))) ces).mono ?_
  rintro e w6 ⟨iv4, rfl, o4, hb⟩
  have B5 := Lib.hid (Below.on (below_grow w5 (.cells #[.int .i64 g, (.slice ra3 rows.length rc3), (.slice ma3 makes.length mc3)] 35)) hb)
  have X3 := Lib.hid ((Box.made w5 [.int .i64 g, (.slice ra3 rows.length rc3), (.slice ma3 makes.length mc3)] 35).on hb)
  clear hb
  have O4 := Lib.hid (own_mono (B' := w5.heap.size) o4 (by simp))
  clear o4
  have ec0 := X3.out.cell 0
  have ec1 := X3.out.cell 1
  have ec2 := X3.out.cell 2
  simp at ec0 ec1 ec2
  go_wp2_with fail
  refine (ians_is g (.slice ra3 rows.length rc3) (.slice ma3 makes.length mc3) iv4 rows makes es _ (HG.out.on (Below.on L1.out (Below.on B1.out (Below.on B2.out (Below.on B3.out (Below.on B4.out B5.out)))))) (OwnCl.cw (O3.out.on B5.out) s1 S2.out s3) (Ints.of_own O4.out (small ces)) HAM.out).mono ?_
  rintro e w7 ⟨rfl, hb⟩
  have B6 := Lib.hid hb
  clear hb
  clear ec0 ec1 ec2
  have hq := (show (AM != AM) = false by simp)
  have HC0 : Hid (∀ w', Below w7.heap.size w7 w' → Box w' w5.heap.size [.int .i64 g, (.slice ra3 rows.length rc3), (.slice ma3 makes.length mc3)] ∧ Box w' w.heap.size [.int .i64 g, .slice a rows.length c, .slice b makes.length d]) := Lib.hid fun w' hb => ⟨(X3.out.on B6.out).on hb, (P0.out.on (Below.on B1.out (Below.on B2.out (Below.on B3.out (Below.on B4.out (Below.on B5.out B6.out)))))).on hb⟩
  go_wp2_with fail
  apply wp_region_H (Z := Option (Value × Value)) (S := fun k => k == 2 || k == 3 || k == 4) (C := fun z w' => Hid (Below w7.heap.size w7 w' ∧ ∀ r, z = some r → Cw w' r.1 r.2 rows makes)) [0, 1] none
  · kernel_rfl
  · kernel_rfl
  · kernel_rfl
  · exact ⟨rfl, rfl, trivial⟩
  · rfl
  · decide
  · exact Lib.hid ⟨(Below.refl _ _).drew, fun r hr => by cases hr⟩
  · intro z
    dsimp only [pickL, nthO]
    repeat (first | go_big_quiet_skip | (go_big_quiet_want; go_big_quiet_op; first | go_big_quiet_on | (refine ⟨_, fun _ _ => rfl, ?_⟩; go_big_quiet_on)))
    go_big_quiet_want
    go_big_quiet_op
    refine ⟨.agg #[.int .i64 g, (.slice ra3 rows.length rc3), (.slice ma3 makes.length mc3)], fun w' hw' => ?_, ?_⟩
    · have q := (HC0.out w' hw'.out.1).1
      have q0 := q.cell 0; have q1 := q.cell 1; have q2 := q.cell 2
      simp at q0 q1 q2
      simp [go_sem, q0, q1, q2]
    go_big_quiet_on
    repeat (first | go_big_quiet_skip | (go_big_quiet_want; go_big_quiet_op; first | go_big_quiet_on | (refine ⟨_, fun _ _ => rfl, ?_⟩; go_big_quiet_on)))
    go_big_quiet_want
    go_big_quiet_op
    refine ⟨.agg #[.int .i64 g, .slice a rows.length c, .slice b makes.length d], fun w' hw' => ?_, ?_⟩
    · have q := (HC0.out w' hw'.out.1).2
      have q0 := q.cell 0; have q1 := q.cell 1; have q2 := q.cell 2
      simp at q0 q1 q2
      simp [go_sem, q0, q1, q2]
    go_big_quiet_on
    exact wpQuiet_nil rfl
  · refine wpAnyH_call (i := 2) (d := some 35) 18 #[.agg #[.int .i64 g, .slice a rows.length c, .slice b makes.length d]] rfl (by kernel_rfl) rfl rfl (by kernel_rfl) (fun _ => by kernel_rfl) fun wa hc => ?_
    refine (toCl_any g a b c d rows makes _ (HA.out.on (Below.on (Below.on L1.out (Below.on B1.out (Below.on B2.out (Below.on B3.out (Below.on B4.out (Below.on B5.out B6.out)))))) hc.out.1)) (HB.out.on (Below.on (Below.on L1.out (Below.on B1.out (Below.on B2.out (Below.on B3.out (Below.on B4.out (Below.on B5.out B6.out)))))) hc.out.1)) s1 S2.out s3).mono ?_
    rintro e wb ⟨rv5, mv5, us5, rfl, o5, hb⟩
    refine ⟨_, rfl, some (rv5, mv5), Lib.hid ⟨Below.on hc.out.1 hb, fun r hr => by cases hr; exact OwnCl.cw o5 s1 S2.out s3⟩, ?_⟩
    clear o5 hb hc
    refine wpAnyH_call (i := 3) (d := some 36) 20 #[.agg #[.int .i64 g, (.slice ra3 rows.length rc3), (.slice ma3 makes.length mc3)], .agg #[.int .i64 g, rv5, mv5]] rfl (by kernel_rfl) rfl rfl (by kernel_rfl) (fun _ => by kernel_rfl) fun wc hc => ?_
    have k1 := OwnCl.cw ((O3.out.on (Below.on B5.out B6.out)).on hc.out.1) s1 S2.out s3
    have k2 := hc.out.2 _ rfl
    refine (eqcl_any g (.slice ra3 rows.length rc3) (.slice ma3 makes.length mc3) rv5 mv5 rows makes _ k1.rows k1.makes k2.rows k2.makes).mono ?_
    rintro e wd ⟨rfl, hb⟩
    refine ⟨_, rfl, none, Lib.hid ⟨Below.on hc.out.1 hb, fun r hr => by cases hr⟩, ?_⟩
    refine wpAnyH_special (i := 4) (d := some 37) rfl (by kernel_rfl) rfl rfl (by kernel_rfl) fun wy hcy => ⟨.bool false, wy, none, .inl (by kernel_rfl), hcy, ?_⟩
    refine ⟨by kernel_rfl, fun w8 hz => ?_⟩
    have B7 := Lib.hid hz.out.1
    simp only [Act.put]
    clear HC0 hz
    go_wp2_with fail
    refine (toI_any esa esc es _ (Hes.out.on (Below.on L1.out (Below.on B1.out (Below.on B2.out (Below.on B3.out (Below.on B4.out (Below.on B5.out (Below.on B6.out B7.out)))))))) ces).mono ?_
    rintro e w9 ⟨iv6, rfl, o6, hb⟩
    have B8 := Lib.hid hb
    clear hb
    have O6 := Lib.hid o6
    clear o6
    go_wp2_with fail
    refine (eqs_same iv4 iv6 es _ (Ints.of_own (own_below O4.out (Below.on B6.out (Below.on B7.out B8.out))) (small ces)) (Ints.of_own O6.out (small ces))).mono ?_
    rintro e w10 ⟨rfl, m, hw⟩
    have B9 := Lib.hid (below_of_drew hw)
    clear hw m
    go_wp2
    go_ret
    exact ⟨rfl, (Below.on L1.out (Below.on B1.out (Below.on B2.out (Below.on B3.out (Below.on B4.out (Below.on B5.out (Below.on B6.out (Below.on B7.out (Below.on B8.out B9.out)))))))))⟩
end Go.Proofs.YtopjlbihhbjhnaaDoor
