/- spec.SecretsFrom. -/
import Derived.Test.YtacalanlepjljaaDoorScfI
import Derived.Test.YtacalanlepjljaaDoorSomS
import Derived.Test.YtacalanlepjljaaDoorMkS
import Derived.Test.YtacalanlepjljaaDoorTalkS3
import Derived.Deep.Cut
namespace Go.Proofs.YtacalanlepjljaaDoor
open Go.RowKit


set_option maxRecDepth 20000 in
set_option maxHeartbeats 6400000 in
theorem sscf_any (g need : Int) (kv : Value) (keys : List Int) (sv : Value) (q : Int) (xv tv uv : Value) (q2 : Int) (yv vv : Value) (ss xs ts ss2 xs2 ts2 : List Int) (w : World) (hk : Ints w kv keys) (hs : Ints w sv ss) (hx : Ints w xv xs) (ht : Ints w tv ts) (hu : Ints w uv ss2) (hy : Ints w yv xs2) (hv : Ints w vv ts2) :
    Calls Tryd.prog 33 #[.int .i64 g, kv, .int .i64 need, .agg #[sv, .int .i64 q, xv, tv], .agg #[uv, .int .i64 q2, yv, vv]] w fun e w' => ∃ v, e = .returned (.tuple #[v, .bool (scfB g keys need ss q xs ts ss2 q2 xs2 ts2)]) ∧ Own w' w.heap.size v (scfL g keys need ss q xs ts ss2 q2 xs2 ts2) ∧ Below w.heap.size w w' := by
  obtain ⟨ka, kc, rfl, k0⟩ := hk.opened
  obtain ⟨sa, sc, rfl, k1⟩ := hs.opened
  obtain ⟨xa, xc, rfl, k2⟩ := hx.opened
  obtain ⟨ta, tc, rfl, k3⟩ := ht.opened
  obtain ⟨ua, uc, rfl, k4⟩ := hu.opened
  obtain ⟨ya, yc, rfl, k5⟩ := hy.opened
  obtain ⟨va, vc, rfl, k6⟩ := hv.opened
  obtain ⟨n, hn⟩ : ∃ n, keys.length = n := ⟨_, rfl⟩
  have HN := Lib.hid hn
  have m0 := k0.max
  rw [hn] at hk m0
  obtain ⟨l1, hl1⟩ : ∃ n, ss.length = n := ⟨_, rfl⟩
  have Hl1 := Lib.hid hl1
  rw [hl1] at hs
  obtain ⟨l2, hl2⟩ : ∃ n, xs.length = n := ⟨_, rfl⟩
  have Hl2 := Lib.hid hl2
  rw [hl2] at hx
  obtain ⟨l3, hl3⟩ : ∃ n, ts.length = n := ⟨_, rfl⟩
  have Hl3 := Lib.hid hl3
  rw [hl3] at ht
  obtain ⟨l4, hl4⟩ : ∃ n, ss2.length = n := ⟨_, rfl⟩
  have Hl4 := Lib.hid hl4
  rw [hl4] at hu
  obtain ⟨l5, hl5⟩ : ∃ n, xs2.length = n := ⟨_, rfl⟩
  have Hl5 := Lib.hid hl5
  rw [hl5] at hy
  obtain ⟨l6, hl6⟩ : ∃ n, ts2.length = n := ⟨_, rfl⟩
  have Hl6 := Lib.hid hl6
  rw [hl6] at hv
  rw [hn, hl1, hl2, hl3, hl4, hl5, hl6]
  unfold maxLen at m0
  obtain ⟨W0, hW0⟩ : ∃ W, W = (w.alloc (.cells #[.slice sa l1 sc, .int .i64 q, .slice xa l2 xc, .slice ta l3 tc] 24)).alloc (.cells #[.slice ua l4 uc, .int .i64 q2, .slice ya l5 yc, .slice va l6 vc] 24) := ⟨_, rfl⟩
  have hsz : W0.heap.size = w.heap.size + 2 := by rw [hW0]; simp
  have FB := Lib.hid (show ∀ w', Below W0.heap.size W0 w' → (Box w' w.heap.size [.slice sa l1 sc, .int .i64 q, .slice xa l2 xc, .slice ta l3 tc] ∧ Box w' (w.heap.size + 1) [.slice ua l4 uc, .int .i64 q2, .slice ya l5 yc, .slice va l6 vc]) ∧ Ints w' (.slice ka n kc) keys ∧ (Ints w' (.slice sa l1 sc) ss ∧ Ints w' (.slice xa l2 xc) xs ∧ Ints w' (.slice ta l3 tc) ts) ∧ (Ints w' (.slice ua l4 uc) ss2 ∧ Ints w' (.slice ya l5 yc) xs2 ∧ Ints w' (.slice va l6 vc) ts2) ∧ Below w.heap.size w w' from fun w' hb => by
    have h0 : Below w.heap.size w w' := by rw [hW0] at hb; exact Below.on ((below_grow w _).alloc (by simp) _) hb
    refine ⟨⟨?_, ?_⟩, hk.below h0, ⟨hs.below h0, hx.below h0, ht.below h0⟩, ⟨hu.below h0, hy.below h0, hv.below h0⟩, h0⟩
    · rw [hW0] at hb; exact ((Box.made w _ _).alloc _).on hb
    · rw [hW0] at hb
      have := Box.made (w.alloc (.cells #[.slice sa l1 sc, .int .i64 q, .slice xa l2 xc, .slice ta l3 tc] 24)) [.slice ua l4 uc, .int .i64 q2, .slice ya l5 yc, .slice va l6 vc] 24
      exact (show Box ((w.alloc (.cells #[.slice sa l1 sc, .int .i64 q, .slice xa l2 xc, .slice ta l3 tc] 24)).alloc (.cells #[.slice ua l4 uc, .int .i64 q2, .slice ya l5 yc, .slice va l6 vc] 24)) (w.heap.size + 1) [.slice ua l4 uc, .int .i64 q2, .slice ya l5 yc, .slice va l6 vc] by simpa using this).on hb)
  have HCK := Lib.hid (show ∀ k, k < n → ∃ X, ka = some ⟨X, 0, none⟩ ∧ ∀ w', Below w.heap.size w w' → w'.cell? ⟨X, k, none⟩ = some (.int .i64 (nth keys k)) from fun k hk => by
    obtain ⟨M, e1, hl, e2⟩ := k0.get k (by rw [hn]; exact hk)
    exact ⟨M, e1, fun w' hb => (hb.cell (p := ⟨M, k, none⟩) hl).trans e2⟩)
  have HCS := Lib.hid (show ∀ k, k < l1 → ∃ X, sa = some ⟨X, 0, none⟩ ∧ ∀ w', Below w.heap.size w w' → w'.cell? ⟨X, k, none⟩ = some (.int .i64 (nth ss k)) from fun k hk => by
    obtain ⟨M, e1, hl, e2⟩ := k1.get k (by rw [hl1]; exact hk)
    exact ⟨M, e1, fun w' hb => (hb.cell (p := ⟨M, k, none⟩) hl).trans e2⟩)
  have HCX := Lib.hid (show ∀ k, k < l2 → ∃ X, xa = some ⟨X, 0, none⟩ ∧ ∀ w', Below w.heap.size w w' → w'.cell? ⟨X, k, none⟩ = some (.int .i64 (nth xs k)) from fun k hk => by
    obtain ⟨M, e1, hl, e2⟩ := k2.get k (by rw [hl2]; exact hk)
    exact ⟨M, e1, fun w' hb => (hb.cell (p := ⟨M, k, none⟩) hl).trans e2⟩)
  have HCT := Lib.hid (show ∀ k, k < l3 → ∃ X, ta = some ⟨X, 0, none⟩ ∧ ∀ w', Below w.heap.size w w' → w'.cell? ⟨X, k, none⟩ = some (.int .i64 (nth ts k)) from fun k hk => by
    obtain ⟨M, e1, hl, e2⟩ := k3.get k (by rw [hl3]; exact hk)
    exact ⟨M, e1, fun w' hb => (hb.cell (p := ⟨M, k, none⟩) hl).trans e2⟩)
  have HCU := Lib.hid (show ∀ k, k < l4 → ∃ X, ua = some ⟨X, 0, none⟩ ∧ ∀ w', Below w.heap.size w w' → w'.cell? ⟨X, k, none⟩ = some (.int .i64 (nth ss2 k)) from fun k hk => by
    obtain ⟨M, e1, hl, e2⟩ := k4.get k (by rw [hl4]; exact hk)
    exact ⟨M, e1, fun w' hb => (hb.cell (p := ⟨M, k, none⟩) hl).trans e2⟩)
  have HCY := Lib.hid (show ∀ k, k < l5 → ∃ X, ya = some ⟨X, 0, none⟩ ∧ ∀ w', Below w.heap.size w w' → w'.cell? ⟨X, k, none⟩ = some (.int .i64 (nth xs2 k)) from fun k hk => by
    obtain ⟨M, e1, hl, e2⟩ := k5.get k (by rw [hl5]; exact hk)
    exact ⟨M, e1, fun w' hb => (hb.cell (p := ⟨M, k, none⟩) hl).trans e2⟩)
  have HCV := Lib.hid (show ∀ k, k < l6 → ∃ X, va = some ⟨X, 0, none⟩ ∧ ∀ w', Below w.heap.size w w' → w'.cell? ⟨X, k, none⟩ = some (.int .i64 (nth ts2 k)) from fun k hk => by
    obtain ⟨M, e1, hl, e2⟩ := k6.get k (by rw [hl6]; exact hk)
    exact ⟨M, e1, fun w' hb => (hb.cell (p := ⟨M, k, none⟩) hl).trans e2⟩)
  have HSZ := Lib.hid hsz
  have HLE := Lib.hid (show w.heap.size ≤ W0.heap.size by omega)
  obtain ⟨W1, hW1⟩ : ∃ W, W = W0.alloc (.cells #[] 3) := ⟨_, rfl⟩
  have T0 : Hid (Below W0.heap.size W0 W1) := Lib.hid (by rw [hW1]; exact below_grow _ _)
  have OW : Hid (Own W1 W0.heap.size (.slice (some ⟨w.heap.size + 1 + 1, 0, none⟩) 0 0) []) := Lib.hid (by
    have e : (⟨w.heap.size + 1 + 1, 0, none⟩ : Addr) = ⟨W0.heap.size, 0, none⟩ := by rw [hsz]
    rw [hW1, e]; exact own_made W0 _ rfl)
  clear hk hs hx ht hu hy hv k0 k1 k2 k3 k4 k5 k6 hn hl1 hl2 hl3 hl4 hl5 hl6 hsz
  cases h1 : someB g keys need ss q xs ts
  · have HXB := Lib.hid (show scfB g keys need ss q xs ts ss2 q2 xs2 ts2 = false by unfold scfB; rw [h1]; rfl)
    have HXL := Lib.hid (scfL_no HXB.out)
    have p0 := (FB.out _ T0.out).1.1.cell 0
    have r0 := (FB.out _ T0.out).1.2.cell 0
    have p1 := (FB.out _ T0.out).1.1.cell 1
    have r1 := (FB.out _ T0.out).1.2.cell 1
    have p2 := (FB.out _ T0.out).1.1.cell 2
    have r2 := (FB.out _ T0.out).1.2.cell 2
    have p3 := (FB.out _ T0.out).1.1.cell 3
    have r3 := (FB.out _ T0.out).1.2.cell 3
    simp at p0 p1 p2 p3 r0 r1 r2 r3
    go_enter Tryd.func33, Tryd.ntmps33
    go_upto_region 2 with (fail)
    rw [← hW0, ← hW1]
    clear hW0 hW1
    go_wp2_with fail
    refine (ssome_any g need _ keys _ q _ _ ss xs ts _ (FB.out _ T0.out).2.1 (FB.out _ T0.out).2.2.1.1 (FB.out _ T0.out).2.2.1.2.1 (FB.out _ T0.out).2.2.1.2.2).mono ?_
    rintro e w1 ⟨rfl, hb⟩
    rw [h1]
    have T1 := Lib.hid (Below.on T0.out hb)
    have OW1 := Lib.hid (own_below OW.out hb)
    clear hb
    clear p0 p1 p2 p3 r0 r1 r2 r3
    go_wp2
    go_ret2
    exact ⟨_, by rw [HXB.out]; rfl, by rw [HXL.out]; exact own_mono OW1.out HLE.out, (FB.out _ T1.out).2.2.2.2⟩
  · cases h2 : someB g keys need ss2 q2 xs2 ts2
    · have HXB := Lib.hid (show scfB g keys need ss q xs ts ss2 q2 xs2 ts2 = false by unfold scfB; rw [h1, h2]; rfl)
      have HXL := Lib.hid (scfL_no HXB.out)
      have p0 := (FB.out _ T0.out).1.1.cell 0
      have r0 := (FB.out _ T0.out).1.2.cell 0
      have p1 := (FB.out _ T0.out).1.1.cell 1
      have r1 := (FB.out _ T0.out).1.2.cell 1
      have p2 := (FB.out _ T0.out).1.1.cell 2
      have r2 := (FB.out _ T0.out).1.2.cell 2
      have p3 := (FB.out _ T0.out).1.1.cell 3
      have r3 := (FB.out _ T0.out).1.2.cell 3
      simp at p0 p1 p2 p3 r0 r1 r2 r3
      go_enter Tryd.func33, Tryd.ntmps33
      go_upto_region 2 with (fail)
      rw [← hW0, ← hW1]
      clear hW0 hW1
      go_wp2_with fail
      refine (ssome_any g need _ keys _ q _ _ ss xs ts _ (FB.out _ T0.out).2.1 (FB.out _ T0.out).2.2.1.1 (FB.out _ T0.out).2.2.1.2.1 (FB.out _ T0.out).2.2.1.2.2).mono ?_
      rintro e w1 ⟨rfl, hb⟩
      rw [h1]
      have T1 := Lib.hid (Below.on T0.out hb)
      have OW1 := Lib.hid (own_below OW.out hb)
      clear hb
      clear p0 p1 p2 p3 r0 r1 r2 r3
      have p0 := (FB.out _ T1.out).1.1.cell 0
      have r0 := (FB.out _ T1.out).1.2.cell 0
      have p1 := (FB.out _ T1.out).1.1.cell 1
      have r1 := (FB.out _ T1.out).1.2.cell 1
      have p2 := (FB.out _ T1.out).1.1.cell 2
      have r2 := (FB.out _ T1.out).1.2.cell 2
      have p3 := (FB.out _ T1.out).1.1.cell 3
      have r3 := (FB.out _ T1.out).1.2.cell 3
      simp at p0 p1 p2 p3 r0 r1 r2 r3
      go_wp2_with fail
      refine (ssome_any g need _ keys _ q2 _ _ ss2 xs2 ts2 _ (FB.out _ T1.out).2.1 (FB.out _ T1.out).2.2.2.1.1 (FB.out _ T1.out).2.2.2.1.2.1 (FB.out _ T1.out).2.2.2.1.2.2).mono ?_
      rintro e w2 ⟨rfl, hb⟩
      rw [h2]
      have T2 := Lib.hid (Below.on T1.out hb)
      have OW2 := Lib.hid (own_below OW1.out hb)
      clear hb
      clear p0 p1 p2 p3 r0 r1 r2 r3
      go_wp2
      go_ret2
      exact ⟨_, by rw [HXB.out]; rfl, by rw [HXL.out]; exact own_mono OW2.out HLE.out, (FB.out _ T2.out).2.2.2.2⟩
    · cases h3 : sameB ss ss2
      · have HXB := Lib.hid (show scfB g keys need ss q xs ts ss2 q2 xs2 ts2 = false by unfold scfB; rw [h1, h2, h3]; rfl)
        have HXL := Lib.hid (scfL_no HXB.out)
        have p0 := (FB.out _ T0.out).1.1.cell 0
        have r0 := (FB.out _ T0.out).1.2.cell 0
        have p1 := (FB.out _ T0.out).1.1.cell 1
        have r1 := (FB.out _ T0.out).1.2.cell 1
        have p2 := (FB.out _ T0.out).1.1.cell 2
        have r2 := (FB.out _ T0.out).1.2.cell 2
        have p3 := (FB.out _ T0.out).1.1.cell 3
        have r3 := (FB.out _ T0.out).1.2.cell 3
        simp at p0 p1 p2 p3 r0 r1 r2 r3
        go_enter Tryd.func33, Tryd.ntmps33
        go_upto_region 2 with (fail)
        rw [← hW0, ← hW1]
        clear hW0 hW1
        go_wp2_with fail
        refine (ssome_any g need _ keys _ q _ _ ss xs ts _ (FB.out _ T0.out).2.1 (FB.out _ T0.out).2.2.1.1 (FB.out _ T0.out).2.2.1.2.1 (FB.out _ T0.out).2.2.1.2.2).mono ?_
        rintro e w1 ⟨rfl, hb⟩
        rw [h1]
        have T1 := Lib.hid (Below.on T0.out hb)
        have OW1 := Lib.hid (own_below OW.out hb)
        clear hb
        clear p0 p1 p2 p3 r0 r1 r2 r3
        have p0 := (FB.out _ T1.out).1.1.cell 0
        have r0 := (FB.out _ T1.out).1.2.cell 0
        have p1 := (FB.out _ T1.out).1.1.cell 1
        have r1 := (FB.out _ T1.out).1.2.cell 1
        have p2 := (FB.out _ T1.out).1.1.cell 2
        have r2 := (FB.out _ T1.out).1.2.cell 2
        have p3 := (FB.out _ T1.out).1.1.cell 3
        have r3 := (FB.out _ T1.out).1.2.cell 3
        simp at p0 p1 p2 p3 r0 r1 r2 r3
        go_wp2_with fail
        refine (ssome_any g need _ keys _ q2 _ _ ss2 xs2 ts2 _ (FB.out _ T1.out).2.1 (FB.out _ T1.out).2.2.2.1.1 (FB.out _ T1.out).2.2.2.1.2.1 (FB.out _ T1.out).2.2.2.1.2.2).mono ?_
        rintro e w2 ⟨rfl, hb⟩
        rw [h2]
        have T2 := Lib.hid (Below.on T1.out hb)
        have OW2 := Lib.hid (own_below OW1.out hb)
        clear hb
        clear p0 p1 p2 p3 r0 r1 r2 r3
        have p0 := (FB.out _ T2.out).1.1.cell 0
        have r0 := (FB.out _ T2.out).1.2.cell 0
        have p1 := (FB.out _ T2.out).1.1.cell 1
        have r1 := (FB.out _ T2.out).1.2.cell 1
        have p2 := (FB.out _ T2.out).1.1.cell 2
        have r2 := (FB.out _ T2.out).1.2.cell 2
        have p3 := (FB.out _ T2.out).1.1.cell 3
        have r3 := (FB.out _ T2.out).1.2.cell 3
        simp at p0 p1 p2 p3 r0 r1 r2 r3
        go_wp2_with fail
        refine (ssame_any _ _ ss ss2 _ (FB.out _ T2.out).2.2.1.1 (FB.out _ T2.out).2.2.2.1.1).mono ?_
        rintro e w3 ⟨rfl, hb⟩
        rw [h3]
        have T3 := Lib.hid (Below.on T2.out hb)
        have OW3 := Lib.hid (own_below OW2.out hb)
        clear hb
        clear p0 p1 p2 p3 r0 r1 r2 r3
        have p0 := (FB.out _ T3.out).1.1.cell 0
        have r0 := (FB.out _ T3.out).1.2.cell 0
        have p1 := (FB.out _ T3.out).1.1.cell 1
        have r1 := (FB.out _ T3.out).1.2.cell 1
        have p2 := (FB.out _ T3.out).1.1.cell 2
        have r2 := (FB.out _ T3.out).1.2.cell 2
        have p3 := (FB.out _ T3.out).1.1.cell 3
        have r3 := (FB.out _ T3.out).1.2.cell 3
        simp at p0 p1 p2 p3 r0 r1 r2 r3
        go_wp2
        go_ret2
        exact ⟨_, by rw [HXB.out]; rfl, by rw [HXL.out]; exact own_mono OW3.out HLE.out, (FB.out _ T3.out).2.2.2.2⟩
      · by_cases h4 : q = q2
        · have hq4 : (q == q2) = true := by simpa using h4
          have HXB := Lib.hid (show scfB g keys need ss q xs ts ss2 q2 xs2 ts2 = false by unfold scfB; rw [h1, h2, h3, decide_eq_false (fun h => h h4)]; rfl)
          have HXL := Lib.hid (scfL_no HXB.out)
          clear h4
          have p0 := (FB.out _ T0.out).1.1.cell 0
          have r0 := (FB.out _ T0.out).1.2.cell 0
          have p1 := (FB.out _ T0.out).1.1.cell 1
          have r1 := (FB.out _ T0.out).1.2.cell 1
          have p2 := (FB.out _ T0.out).1.1.cell 2
          have r2 := (FB.out _ T0.out).1.2.cell 2
          have p3 := (FB.out _ T0.out).1.1.cell 3
          have r3 := (FB.out _ T0.out).1.2.cell 3
          simp at p0 p1 p2 p3 r0 r1 r2 r3
          go_enter Tryd.func33, Tryd.ntmps33
          go_upto_region 2 with (fail)
          rw [← hW0, ← hW1]
          clear hW0 hW1
          go_wp2_with fail
          refine (ssome_any g need _ keys _ q _ _ ss xs ts _ (FB.out _ T0.out).2.1 (FB.out _ T0.out).2.2.1.1 (FB.out _ T0.out).2.2.1.2.1 (FB.out _ T0.out).2.2.1.2.2).mono ?_
          rintro e w1 ⟨rfl, hb⟩
          rw [h1]
          have T1 := Lib.hid (Below.on T0.out hb)
          have OW1 := Lib.hid (own_below OW.out hb)
          clear hb
          clear p0 p1 p2 p3 r0 r1 r2 r3
          have p0 := (FB.out _ T1.out).1.1.cell 0
          have r0 := (FB.out _ T1.out).1.2.cell 0
          have p1 := (FB.out _ T1.out).1.1.cell 1
          have r1 := (FB.out _ T1.out).1.2.cell 1
          have p2 := (FB.out _ T1.out).1.1.cell 2
          have r2 := (FB.out _ T1.out).1.2.cell 2
          have p3 := (FB.out _ T1.out).1.1.cell 3
          have r3 := (FB.out _ T1.out).1.2.cell 3
          simp at p0 p1 p2 p3 r0 r1 r2 r3
          go_wp2_with fail
          refine (ssome_any g need _ keys _ q2 _ _ ss2 xs2 ts2 _ (FB.out _ T1.out).2.1 (FB.out _ T1.out).2.2.2.1.1 (FB.out _ T1.out).2.2.2.1.2.1 (FB.out _ T1.out).2.2.2.1.2.2).mono ?_
          rintro e w2 ⟨rfl, hb⟩
          rw [h2]
          have T2 := Lib.hid (Below.on T1.out hb)
          have OW2 := Lib.hid (own_below OW1.out hb)
          clear hb
          clear p0 p1 p2 p3 r0 r1 r2 r3
          have p0 := (FB.out _ T2.out).1.1.cell 0
          have r0 := (FB.out _ T2.out).1.2.cell 0
          have p1 := (FB.out _ T2.out).1.1.cell 1
          have r1 := (FB.out _ T2.out).1.2.cell 1
          have p2 := (FB.out _ T2.out).1.1.cell 2
          have r2 := (FB.out _ T2.out).1.2.cell 2
          have p3 := (FB.out _ T2.out).1.1.cell 3
          have r3 := (FB.out _ T2.out).1.2.cell 3
          simp at p0 p1 p2 p3 r0 r1 r2 r3
          go_wp2_with fail
          refine (ssame_any _ _ ss ss2 _ (FB.out _ T2.out).2.2.1.1 (FB.out _ T2.out).2.2.2.1.1).mono ?_
          rintro e w3 ⟨rfl, hb⟩
          rw [h3]
          have T3 := Lib.hid (Below.on T2.out hb)
          have OW3 := Lib.hid (own_below OW2.out hb)
          clear hb
          clear p0 p1 p2 p3 r0 r1 r2 r3
          have p0 := (FB.out _ T3.out).1.1.cell 0
          have r0 := (FB.out _ T3.out).1.2.cell 0
          have p1 := (FB.out _ T3.out).1.1.cell 1
          have r1 := (FB.out _ T3.out).1.2.cell 1
          have p2 := (FB.out _ T3.out).1.1.cell 2
          have r2 := (FB.out _ T3.out).1.2.cell 2
          have p3 := (FB.out _ T3.out).1.1.cell 3
          have r3 := (FB.out _ T3.out).1.2.cell 3
          simp at p0 p1 p2 p3 r0 r1 r2 r3
          go_wp2
          go_ret2
          exact ⟨_, by rw [HXB.out]; rfl, by rw [HXL.out]; exact own_mono OW3.out HLE.out, (FB.out _ T3.out).2.2.2.2⟩
        · have HXB := Lib.hid (show scfB g keys need ss q xs ts ss2 q2 xs2 ts2 = true by unfold scfB; rw [h1, h2, h3, decide_eq_true h4]; rfl)
          have HXL := Lib.hid (scfL_yes HXB.out)
          have hq4 : (q == q2) = false := by simpa using h4
          have S1 := someB_true.1 h1
          have S2 := someB_true.1 h2
          have n4 := S1.k.m.n4
          rw [HN.out] at n4
          have E1 : l1 = n := by rw [← Hl1.out, ← HN.out]; exact S1.l1
          have E2 : l2 = n := by rw [← Hl2.out, ← HN.out]; exact S1.l2
          have E3 : l3 = n := by rw [← Hl3.out, ← HN.out]; exact S1.l3
          have E4 : l4 = n := by rw [← Hl4.out, ← HN.out]; exact S2.l1
          have E5 : l5 = n := by rw [← Hl5.out, ← HN.out]; exact S2.l2
          have E6 : l6 = n := by rw [← Hl6.out, ← HN.out]; exact S2.l3
          have HE := Lib.hid (show (l1 = n ∧ l2 = n ∧ l3 = n) ∧ l4 = n ∧ l5 = n ∧ l6 = n from ⟨⟨E1, E2, E3⟩, E4, E5, E6⟩)
          have HSU := Lib.hid (fun k => scfTo_succ g keys ss xs ts ss2 xs2 ts2 k)
          have HSL := Lib.hid (fun k => scfTo_len g keys ss xs ts ss2 xs2 ts2 k)
          have HS0 := Lib.hid (show scfTo g keys ss xs ts ss2 xs2 ts2 0 = [] from rfl)
          clear h4 S1 S2 E1 E2 E3 E4 E5 E6
          have p0 := (FB.out _ T0.out).1.1.cell 0
          have r0 := (FB.out _ T0.out).1.2.cell 0
          have p1 := (FB.out _ T0.out).1.1.cell 1
          have r1 := (FB.out _ T0.out).1.2.cell 1
          have p2 := (FB.out _ T0.out).1.1.cell 2
          have r2 := (FB.out _ T0.out).1.2.cell 2
          have p3 := (FB.out _ T0.out).1.1.cell 3
          have r3 := (FB.out _ T0.out).1.2.cell 3
          simp at p0 p1 p2 p3 r0 r1 r2 r3
          go_enter Tryd.func33, Tryd.ntmps33
          go_upto_region 2 with (fail)
          rw [← hW0, ← hW1]
          clear hW0 hW1
          go_wp2_with fail
          refine (ssome_any g need _ keys _ q _ _ ss xs ts _ (FB.out _ T0.out).2.1 (FB.out _ T0.out).2.2.1.1 (FB.out _ T0.out).2.2.1.2.1 (FB.out _ T0.out).2.2.1.2.2).mono ?_
          rintro e w1 ⟨rfl, hb⟩
          rw [h1]
          have T1 := Lib.hid (Below.on T0.out hb)
          have OW1 := Lib.hid (own_below OW.out hb)
          clear hb
          clear p0 p1 p2 p3 r0 r1 r2 r3
          have p0 := (FB.out _ T1.out).1.1.cell 0
          have r0 := (FB.out _ T1.out).1.2.cell 0
          have p1 := (FB.out _ T1.out).1.1.cell 1
          have r1 := (FB.out _ T1.out).1.2.cell 1
          have p2 := (FB.out _ T1.out).1.1.cell 2
          have r2 := (FB.out _ T1.out).1.2.cell 2
          have p3 := (FB.out _ T1.out).1.1.cell 3
          have r3 := (FB.out _ T1.out).1.2.cell 3
          simp at p0 p1 p2 p3 r0 r1 r2 r3
          go_wp2_with fail
          refine (ssome_any g need _ keys _ q2 _ _ ss2 xs2 ts2 _ (FB.out _ T1.out).2.1 (FB.out _ T1.out).2.2.2.1.1 (FB.out _ T1.out).2.2.2.1.2.1 (FB.out _ T1.out).2.2.2.1.2.2).mono ?_
          rintro e w2 ⟨rfl, hb⟩
          rw [h2]
          have T2 := Lib.hid (Below.on T1.out hb)
          have OW2 := Lib.hid (own_below OW1.out hb)
          clear hb
          clear p0 p1 p2 p3 r0 r1 r2 r3
          have p0 := (FB.out _ T2.out).1.1.cell 0
          have r0 := (FB.out _ T2.out).1.2.cell 0
          have p1 := (FB.out _ T2.out).1.1.cell 1
          have r1 := (FB.out _ T2.out).1.2.cell 1
          have p2 := (FB.out _ T2.out).1.1.cell 2
          have r2 := (FB.out _ T2.out).1.2.cell 2
          have p3 := (FB.out _ T2.out).1.1.cell 3
          have r3 := (FB.out _ T2.out).1.2.cell 3
          simp at p0 p1 p2 p3 r0 r1 r2 r3
          go_wp2_with fail
          refine (ssame_any _ _ ss ss2 _ (FB.out _ T2.out).2.2.1.1 (FB.out _ T2.out).2.2.2.1.1).mono ?_
          rintro e w3 ⟨rfl, hb⟩
          rw [h3]
          have T3 := Lib.hid (Below.on T2.out hb)
          have OW3 := Lib.hid (own_below OW2.out hb)
          clear hb
          clear p0 p1 p2 p3 r0 r1 r2 r3
          have p0 := (FB.out _ T3.out).1.1.cell 0
          have r0 := (FB.out _ T3.out).1.2.cell 0
          have p1 := (FB.out _ T3.out).1.1.cell 1
          have r1 := (FB.out _ T3.out).1.2.cell 1
          have p2 := (FB.out _ T3.out).1.1.cell 2
          have r2 := (FB.out _ T3.out).1.2.cell 2
          have p3 := (FB.out _ T3.out).1.1.cell 3
          have r3 := (FB.out _ T3.out).1.2.cell 3
          simp at p0 p1 p2 p3 r0 r1 r2 r3
          go_wp2
          go_loopw [12, 13] (fun v i wr => ∃ k : Nat, k ≤ n ∧ i = .int .i64 k ∧ Hid (Own wr W0.heap.size v (scfTo g keys ss xs ts ss2 xs2 ts2 k) ∧ Below W0.heap.size W0 wr)) (fun _ i _ => n - (intOf i).toNat)
          case atStart => exact ⟨0, by omega, rfl, Lib.hid ⟨by rw [HS0.out]; exact OW3.out, T3.out⟩⟩
          case round =>
            clear p0 p1 p2 p3 r0 r1 r2 r3
            obtain ⟨k, hk, rfl, hO⟩ := hrel
            obtain ⟨wo, rfl⟩ : ∃ wo : World, wo = wr := ⟨_, rfl⟩
            by_cases hkn : k < n
            · have hk1 : (k : Int) < (n : Int) := by omega
              have hln := HSL.out k
              obtain ⟨XK, rfl, hcK⟩ := HCK.out k hkn
              have HHK := Lib.hid hcK
              clear hcK
              have hx1 : (k : Int) < (l1 : Int) := by have := HE.out.1.1; omega
              have hx2 : (k : Int) < (l2 : Int) := by have := HE.out.1.2.1; omega
              have hx3 : (k : Int) < (l3 : Int) := by have := HE.out.1.2.2; omega
              have hx4 : (k : Int) < (l4 : Int) := by have := HE.out.2.1; omega
              have hx5 : (k : Int) < (l5 : Int) := by have := HE.out.2.2.1; omega
              have hx6 : (k : Int) < (l6 : Int) := by have := HE.out.2.2.2; omega
              obtain ⟨ZS, rfl, hcS⟩ := HCS.out k (by omega)
              have HHS := Lib.hid hcS
              clear hcS
              obtain ⟨ZX, rfl, hcX⟩ := HCX.out k (by omega)
              have HHX := Lib.hid hcX
              clear hcX
              obtain ⟨ZT, rfl, hcT⟩ := HCT.out k (by omega)
              have HHT := Lib.hid hcT
              clear hcT
              obtain ⟨ZU, rfl, hcU⟩ := HCU.out k (by omega)
              have HHU := Lib.hid hcU
              clear hcU
              obtain ⟨ZY, rfl, hcY⟩ := HCY.out k (by omega)
              have HHY := Lib.hid hcY
              clear hcY
              obtain ⟨ZV, rfl, hcV⟩ := HCV.out k (by omega)
              have HHV := Lib.hid hcV
              clear hcV
              cases hsb : secB g (nth keys k) (nth ss k) (nth xs k) (nth ts k) (nth ss2 k) (nth xs2 k) (nth ts2 k)
              · have HSR := Lib.hid (sctR_no hsb)
                have HD : Hid (Below wo.heap.size wo wo.drew) := Lib.hid (Below.refl _ _).drew
                go_wp2_with fail
                refine wp_region_class (C := fun w' => Hid (Below wo.heap.size wo w')) (by kernel_rfl) (by kernel_rfl) HD ?_
                repeat (first | go_big_quiet_skip | (go_big_quiet_want; go_big_quiet_op; first | go_big_quiet_on | (refine ⟨_, fun _ _ => rfl, ?_⟩; go_big_quiet_on)))
                go_big_quiet_want
                go_big_quiet_op
                refine ⟨.int .i64 (nth keys k), fun w' hw' => ?_, ?_⟩
                · have FF := FB.out _ (Below.on hO.out.2 hw'.out)
                  have q0 := HHK.out _ FF.2.2.2.2
                  simp [go_sem, q0]
                go_big_quiet_on
                repeat (first | go_big_quiet_skip | (go_big_quiet_want; go_big_quiet_op; first | go_big_quiet_on | (refine ⟨_, fun _ _ => rfl, ?_⟩; go_big_quiet_on)))
                go_big_quiet_want
                go_big_quiet_op
                refine ⟨.slice (some ⟨ZS, 0, none⟩) l1 sc, fun w' hw' => ?_, ?_⟩
                · have FF := FB.out _ (Below.on hO.out.2 hw'.out)
                  have q0 := FF.1.1.cell 0
                  simp at q0
                  simp [go_sem, q0]
                go_big_quiet_on
                repeat (first | go_big_quiet_skip | (go_big_quiet_want; go_big_quiet_op; first | go_big_quiet_on | (refine ⟨_, fun _ _ => rfl, ?_⟩; go_big_quiet_on)))
                go_big_quiet_want
                go_big_quiet_op
                refine ⟨.int .i64 (nth ss k), fun w' hw' => ?_, ?_⟩
                · have FF := FB.out _ (Below.on hO.out.2 hw'.out)
                  have q0 := HHS.out _ FF.2.2.2.2
                  simp [go_sem, q0]
                go_big_quiet_on
                repeat (first | go_big_quiet_skip | (go_big_quiet_want; go_big_quiet_op; first | go_big_quiet_on | (refine ⟨_, fun _ _ => rfl, ?_⟩; go_big_quiet_on)))
                go_big_quiet_want
                go_big_quiet_op
                refine ⟨.slice (some ⟨ZX, 0, none⟩) l2 xc, fun w' hw' => ?_, ?_⟩
                · have FF := FB.out _ (Below.on hO.out.2 hw'.out)
                  have q0 := FF.1.1.cell 2
                  simp at q0
                  simp [go_sem, q0]
                go_big_quiet_on
                repeat (first | go_big_quiet_skip | (go_big_quiet_want; go_big_quiet_op; first | go_big_quiet_on | (refine ⟨_, fun _ _ => rfl, ?_⟩; go_big_quiet_on)))
                go_big_quiet_want
                go_big_quiet_op
                refine ⟨.int .i64 (nth xs k), fun w' hw' => ?_, ?_⟩
                · have FF := FB.out _ (Below.on hO.out.2 hw'.out)
                  have q0 := HHX.out _ FF.2.2.2.2
                  simp [go_sem, q0]
                go_big_quiet_on
                repeat (first | go_big_quiet_skip | (go_big_quiet_want; go_big_quiet_op; first | go_big_quiet_on | (refine ⟨_, fun _ _ => rfl, ?_⟩; go_big_quiet_on)))
                go_big_quiet_want
                go_big_quiet_op
                refine ⟨.slice (some ⟨ZT, 0, none⟩) l3 tc, fun w' hw' => ?_, ?_⟩
                · have FF := FB.out _ (Below.on hO.out.2 hw'.out)
                  have q0 := FF.1.1.cell 3
                  simp at q0
                  simp [go_sem, q0]
                go_big_quiet_on
                repeat (first | go_big_quiet_skip | (go_big_quiet_want; go_big_quiet_op; first | go_big_quiet_on | (refine ⟨_, fun _ _ => rfl, ?_⟩; go_big_quiet_on)))
                go_big_quiet_want
                go_big_quiet_op
                refine ⟨.int .i64 (nth ts k), fun w' hw' => ?_, ?_⟩
                · have FF := FB.out _ (Below.on hO.out.2 hw'.out)
                  have q0 := HHT.out _ FF.2.2.2.2
                  simp [go_sem, q0]
                go_big_quiet_on
                repeat (first | go_big_quiet_skip | (go_big_quiet_want; go_big_quiet_op; first | go_big_quiet_on | (refine ⟨_, fun _ _ => rfl, ?_⟩; go_big_quiet_on)))
                go_big_quiet_want
                go_big_quiet_op
                refine ⟨.slice (some ⟨ZU, 0, none⟩) l4 uc, fun w' hw' => ?_, ?_⟩
                · have FF := FB.out _ (Below.on hO.out.2 hw'.out)
                  have q0 := FF.1.2.cell 0
                  simp at q0
                  simp [go_sem, q0]
                go_big_quiet_on
                repeat (first | go_big_quiet_skip | (go_big_quiet_want; go_big_quiet_op; first | go_big_quiet_on | (refine ⟨_, fun _ _ => rfl, ?_⟩; go_big_quiet_on)))
                go_big_quiet_want
                go_big_quiet_op
                refine ⟨.int .i64 (nth ss2 k), fun w' hw' => ?_, ?_⟩
                · have FF := FB.out _ (Below.on hO.out.2 hw'.out)
                  have q0 := HHU.out _ FF.2.2.2.2
                  simp [go_sem, q0]
                go_big_quiet_on
                repeat (first | go_big_quiet_skip | (go_big_quiet_want; go_big_quiet_op; first | go_big_quiet_on | (refine ⟨_, fun _ _ => rfl, ?_⟩; go_big_quiet_on)))
                go_big_quiet_want
                go_big_quiet_op
                refine ⟨.slice (some ⟨ZY, 0, none⟩) l5 yc, fun w' hw' => ?_, ?_⟩
                · have FF := FB.out _ (Below.on hO.out.2 hw'.out)
                  have q0 := FF.1.2.cell 2
                  simp at q0
                  simp [go_sem, q0]
                go_big_quiet_on
                repeat (first | go_big_quiet_skip | (go_big_quiet_want; go_big_quiet_op; first | go_big_quiet_on | (refine ⟨_, fun _ _ => rfl, ?_⟩; go_big_quiet_on)))
                go_big_quiet_want
                go_big_quiet_op
                refine ⟨.int .i64 (nth xs2 k), fun w' hw' => ?_, ?_⟩
                · have FF := FB.out _ (Below.on hO.out.2 hw'.out)
                  have q0 := HHY.out _ FF.2.2.2.2
                  simp [go_sem, q0]
                go_big_quiet_on
                repeat (first | go_big_quiet_skip | (go_big_quiet_want; go_big_quiet_op; first | go_big_quiet_on | (refine ⟨_, fun _ _ => rfl, ?_⟩; go_big_quiet_on)))
                go_big_quiet_want
                go_big_quiet_op
                refine ⟨.slice (some ⟨ZV, 0, none⟩) l6 vc, fun w' hw' => ?_, ?_⟩
                · have FF := FB.out _ (Below.on hO.out.2 hw'.out)
                  have q0 := FF.1.2.cell 3
                  simp at q0
                  simp [go_sem, q0]
                go_big_quiet_on
                repeat (first | go_big_quiet_skip | (go_big_quiet_want; go_big_quiet_op; first | go_big_quiet_on | (refine ⟨_, fun _ _ => rfl, ?_⟩; go_big_quiet_on)))
                go_big_quiet_want
                go_big_quiet_op
                refine ⟨.int .i64 (nth ts2 k), fun w' hw' => ?_, ?_⟩
                · have FF := FB.out _ (Below.on hO.out.2 hw'.out)
                  have q0 := HHV.out _ FF.2.2.2.2
                  simp [go_sem, q0]
                go_big_quiet_on
                repeat (first | go_big_quiet_skip | (go_big_quiet_want; go_big_quiet_op; first | go_big_quiet_on | (refine ⟨_, fun _ _ => rfl, ?_⟩; go_big_quiet_on)))
                go_big_quiet_want
                go_big_quiet_op
                go_big_quiet_call ((intro hw; exact (ssec_no g _ _ _ _ _ _ _ _ hsb).mono fun _ _ ⟨he, hb⟩ => ⟨he, Lib.hid (Below.on hw.out hb)⟩))
                repeat (first | go_big_quiet_skip | (go_big_quiet_want; go_big_quiet_op; first | go_big_quiet_on | (refine ⟨_, fun _ _ => rfl, ?_⟩; go_big_quiet_on)))
                refine wpQuiet_nil ?_
                intro w5 hw5
                have ov := own_below hO.out.1 hw5.out
                have hbs := (Below.on hO.out.2 hw5.out).size
                go_wp2_with (at_builtin; refine wpAppInt rfl _ _ rfl rfl ov (by rw [hln]; omega) (by omega) rfl ?_)
                intro v8 w8 o8 g8 k8
                rw [show scfTo g keys ss xs ts ss2 xs2 ts2 k ++ [(-1)] = scfTo g keys ss xs ts ss2 xs2 ts2 (k + 1) by rw [HSU.out, HSR.out]] at o8
                have TZ := Lib.hid (show Own w8 W0.heap.size v8 (scfTo g keys ss xs ts ss2 xs2 ts2 (k + 1)) ∧ Below W0.heap.size W0 w8 from ⟨o8, (Below.on hO.out.2 hw5.out).grown g8 hbs fun e he => (ov.lt _ he).1⟩)
                clear o8 g8 k8 ov
                go_wp2
                go_roundw
                case rel => exact ⟨k + 1, by omega, by go_num, TZ⟩
                case measure => simp [intOf]; omega
              · have HSR := Lib.hid (sctR_yes hsb)
                have HD : Hid (Below wo.heap.size wo wo.drew) := Lib.hid (Below.refl _ _).drew
                go_wp2_with fail
                refine wp_region_class (C := fun w' => Hid (Below wo.heap.size wo w')) (by kernel_rfl) (by kernel_rfl) HD ?_
                repeat (first | go_big_quiet_skip | (go_big_quiet_want; go_big_quiet_op; first | go_big_quiet_on | (refine ⟨_, fun _ _ => rfl, ?_⟩; go_big_quiet_on)))
                go_big_quiet_want
                go_big_quiet_op
                refine ⟨.int .i64 (nth keys k), fun w' hw' => ?_, ?_⟩
                · have FF := FB.out _ (Below.on hO.out.2 hw'.out)
                  have q0 := HHK.out _ FF.2.2.2.2
                  simp [go_sem, q0]
                go_big_quiet_on
                repeat (first | go_big_quiet_skip | (go_big_quiet_want; go_big_quiet_op; first | go_big_quiet_on | (refine ⟨_, fun _ _ => rfl, ?_⟩; go_big_quiet_on)))
                go_big_quiet_want
                go_big_quiet_op
                refine ⟨.slice (some ⟨ZS, 0, none⟩) l1 sc, fun w' hw' => ?_, ?_⟩
                · have FF := FB.out _ (Below.on hO.out.2 hw'.out)
                  have q0 := FF.1.1.cell 0
                  simp at q0
                  simp [go_sem, q0]
                go_big_quiet_on
                repeat (first | go_big_quiet_skip | (go_big_quiet_want; go_big_quiet_op; first | go_big_quiet_on | (refine ⟨_, fun _ _ => rfl, ?_⟩; go_big_quiet_on)))
                go_big_quiet_want
                go_big_quiet_op
                refine ⟨.int .i64 (nth ss k), fun w' hw' => ?_, ?_⟩
                · have FF := FB.out _ (Below.on hO.out.2 hw'.out)
                  have q0 := HHS.out _ FF.2.2.2.2
                  simp [go_sem, q0]
                go_big_quiet_on
                repeat (first | go_big_quiet_skip | (go_big_quiet_want; go_big_quiet_op; first | go_big_quiet_on | (refine ⟨_, fun _ _ => rfl, ?_⟩; go_big_quiet_on)))
                go_big_quiet_want
                go_big_quiet_op
                refine ⟨.slice (some ⟨ZX, 0, none⟩) l2 xc, fun w' hw' => ?_, ?_⟩
                · have FF := FB.out _ (Below.on hO.out.2 hw'.out)
                  have q0 := FF.1.1.cell 2
                  simp at q0
                  simp [go_sem, q0]
                go_big_quiet_on
                repeat (first | go_big_quiet_skip | (go_big_quiet_want; go_big_quiet_op; first | go_big_quiet_on | (refine ⟨_, fun _ _ => rfl, ?_⟩; go_big_quiet_on)))
                go_big_quiet_want
                go_big_quiet_op
                refine ⟨.int .i64 (nth xs k), fun w' hw' => ?_, ?_⟩
                · have FF := FB.out _ (Below.on hO.out.2 hw'.out)
                  have q0 := HHX.out _ FF.2.2.2.2
                  simp [go_sem, q0]
                go_big_quiet_on
                repeat (first | go_big_quiet_skip | (go_big_quiet_want; go_big_quiet_op; first | go_big_quiet_on | (refine ⟨_, fun _ _ => rfl, ?_⟩; go_big_quiet_on)))
                go_big_quiet_want
                go_big_quiet_op
                refine ⟨.slice (some ⟨ZT, 0, none⟩) l3 tc, fun w' hw' => ?_, ?_⟩
                · have FF := FB.out _ (Below.on hO.out.2 hw'.out)
                  have q0 := FF.1.1.cell 3
                  simp at q0
                  simp [go_sem, q0]
                go_big_quiet_on
                repeat (first | go_big_quiet_skip | (go_big_quiet_want; go_big_quiet_op; first | go_big_quiet_on | (refine ⟨_, fun _ _ => rfl, ?_⟩; go_big_quiet_on)))
                go_big_quiet_want
                go_big_quiet_op
                refine ⟨.int .i64 (nth ts k), fun w' hw' => ?_, ?_⟩
                · have FF := FB.out _ (Below.on hO.out.2 hw'.out)
                  have q0 := HHT.out _ FF.2.2.2.2
                  simp [go_sem, q0]
                go_big_quiet_on
                repeat (first | go_big_quiet_skip | (go_big_quiet_want; go_big_quiet_op; first | go_big_quiet_on | (refine ⟨_, fun _ _ => rfl, ?_⟩; go_big_quiet_on)))
                go_big_quiet_want
                go_big_quiet_op
                refine ⟨.slice (some ⟨ZU, 0, none⟩) l4 uc, fun w' hw' => ?_, ?_⟩
                · have FF := FB.out _ (Below.on hO.out.2 hw'.out)
                  have q0 := FF.1.2.cell 0
                  simp at q0
                  simp [go_sem, q0]
                go_big_quiet_on
                repeat (first | go_big_quiet_skip | (go_big_quiet_want; go_big_quiet_op; first | go_big_quiet_on | (refine ⟨_, fun _ _ => rfl, ?_⟩; go_big_quiet_on)))
                go_big_quiet_want
                go_big_quiet_op
                refine ⟨.int .i64 (nth ss2 k), fun w' hw' => ?_, ?_⟩
                · have FF := FB.out _ (Below.on hO.out.2 hw'.out)
                  have q0 := HHU.out _ FF.2.2.2.2
                  simp [go_sem, q0]
                go_big_quiet_on
                repeat (first | go_big_quiet_skip | (go_big_quiet_want; go_big_quiet_op; first | go_big_quiet_on | (refine ⟨_, fun _ _ => rfl, ?_⟩; go_big_quiet_on)))
                go_big_quiet_want
                go_big_quiet_op
                refine ⟨.slice (some ⟨ZY, 0, none⟩) l5 yc, fun w' hw' => ?_, ?_⟩
                · have FF := FB.out _ (Below.on hO.out.2 hw'.out)
                  have q0 := FF.1.2.cell 2
                  simp at q0
                  simp [go_sem, q0]
                go_big_quiet_on
                repeat (first | go_big_quiet_skip | (go_big_quiet_want; go_big_quiet_op; first | go_big_quiet_on | (refine ⟨_, fun _ _ => rfl, ?_⟩; go_big_quiet_on)))
                go_big_quiet_want
                go_big_quiet_op
                refine ⟨.int .i64 (nth xs2 k), fun w' hw' => ?_, ?_⟩
                · have FF := FB.out _ (Below.on hO.out.2 hw'.out)
                  have q0 := HHY.out _ FF.2.2.2.2
                  simp [go_sem, q0]
                go_big_quiet_on
                repeat (first | go_big_quiet_skip | (go_big_quiet_want; go_big_quiet_op; first | go_big_quiet_on | (refine ⟨_, fun _ _ => rfl, ?_⟩; go_big_quiet_on)))
                go_big_quiet_want
                go_big_quiet_op
                refine ⟨.slice (some ⟨ZV, 0, none⟩) l6 vc, fun w' hw' => ?_, ?_⟩
                · have FF := FB.out _ (Below.on hO.out.2 hw'.out)
                  have q0 := FF.1.2.cell 3
                  simp at q0
                  simp [go_sem, q0]
                go_big_quiet_on
                repeat (first | go_big_quiet_skip | (go_big_quiet_want; go_big_quiet_op; first | go_big_quiet_on | (refine ⟨_, fun _ _ => rfl, ?_⟩; go_big_quiet_on)))
                go_big_quiet_want
                go_big_quiet_op
                refine ⟨.int .i64 (nth ts2 k), fun w' hw' => ?_, ?_⟩
                · have FF := FB.out _ (Below.on hO.out.2 hw'.out)
                  have q0 := HHV.out _ FF.2.2.2.2
                  simp [go_sem, q0]
                go_big_quiet_on
                repeat (first | go_big_quiet_skip | (go_big_quiet_want; go_big_quiet_op; first | go_big_quiet_on | (refine ⟨_, fun _ _ => rfl, ?_⟩; go_big_quiet_on)))
                go_big_quiet_want
                go_big_quiet_op
                go_big_quiet_call ((intro hw; exact (ssec_yes g _ _ _ _ _ _ _ _ hsb).mono fun _ _ ⟨he, hb⟩ => ⟨he, Lib.hid (Below.on hw.out hb)⟩))
                repeat (first | go_big_quiet_skip | (go_big_quiet_want; go_big_quiet_op; first | go_big_quiet_on | (refine ⟨_, fun _ _ => rfl, ?_⟩; go_big_quiet_on)))
                refine wpQuiet_nil ?_
                intro w5 hw5
                have ov := own_below hO.out.1 hw5.out
                have hbs := (Below.on hO.out.2 hw5.out).size
                go_wp2_with (at_builtin; refine wpAppInt rfl _ _ rfl rfl ov (by rw [hln]; omega) (by omega) rfl ?_)
                intro v8 w8 o8 g8 k8
                rw [show scfTo g keys ss xs ts ss2 xs2 ts2 k ++ [(secretOf g (nth xs k) (nth ts k) (nth xs2 k) (nth ts2 k))] = scfTo g keys ss xs ts ss2 xs2 ts2 (k + 1) by rw [HSU.out, HSR.out]] at o8
                have TZ := Lib.hid (show Own w8 W0.heap.size v8 (scfTo g keys ss xs ts ss2 xs2 ts2 (k + 1)) ∧ Below W0.heap.size W0 w8 from ⟨o8, (Below.on hO.out.2 hw5.out).grown g8 hbs fun e he => (ov.lt _ he).1⟩)
                clear o8 g8 k8 ov
                go_wp2
                go_roundw
                case rel => exact ⟨k + 1, by omega, by go_num, TZ⟩
                case measure => simp [intOf]; omega
            · obtain rfl : k = n := by omega
              have hk1 : ¬ (k : Int) < (k : Int) := by omega
              go_wp2
              go_ret2
              exact ⟨_, by rw [HXB.out]; rfl, by rw [HXL.out, HN.out]; exact own_mono hO.out.1 HLE.out, (FB.out _ hO.out.2).2.2.2.2⟩
end Go.Proofs.YtacalanlepjljaaDoor
