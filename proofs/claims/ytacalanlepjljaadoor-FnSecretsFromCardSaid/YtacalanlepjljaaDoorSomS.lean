/- spec.SomeOk. -/
import Derived.Test.YtacalanlepjljaaDoorSomI
import Derived.Test.YtacalanlepjljaaDoorLinS
namespace Go.Proofs.YtacalanlepjljaaDoor
open Go.RowKit

set_option maxRecDepth 20000 in
set_option maxHeartbeats 3200000 in
theorem ssome_any (g need : Int) (kv : Value) (keys : List Int) (sv : Value) (q : Int) (xv tv : Value) (ss xs ts : List Int) (w : World) (hk : Ints w kv keys) (hs : Ints w sv ss) (hx : Ints w xv xs) (ht : Ints w tv ts) :
    Calls Tryd.prog 28 #[.int .i64 g, kv, .int .i64 need, .agg #[sv, .int .i64 q, xv, tv]] w fun e w' => e = .returned (.bool (someB g keys need ss q xs ts)) ∧ Below w.heap.size w w' := by
  obtain ⟨ka, kc, rfl, k0⟩ := hk.opened
  obtain ⟨sa, sc, rfl, k1⟩ := hs.opened
  obtain ⟨xa, xc, rfl, k2⟩ := hx.opened
  obtain ⟨ta, tc, rfl, k3⟩ := ht.opened
  obtain ⟨n, hn⟩ : ∃ n, keys.length = n := ⟨_, rfl⟩
  obtain ⟨l1, hl1⟩ : ∃ n, ss.length = n := ⟨_, rfl⟩
  obtain ⟨l2, hl2⟩ : ∃ n, xs.length = n := ⟨_, rfl⟩
  obtain ⟨l3, hl3⟩ : ∃ n, ts.length = n := ⟨_, rfl⟩
  have HN := Lib.hid hn; have HL1 := Lib.hid hl1; have HL2 := Lib.hid hl2; have HL3 := Lib.hid hl3
  have m0 := k0.max; have m1 := k1.max; have m2 := k2.max; have m3 := k3.max
  rw [hn] at hk m0; rw [hl1] at hs m1; rw [hl2] at hx m2; rw [hl3] at ht m3
  rw [hn, hl1, hl2, hl3]
  unfold maxLen at m0 m1 m2 m3
  obtain ⟨W0, hW0⟩ : ∃ W, W = w.alloc (.cells #[.slice sa l1 sc, .int .i64 q, .slice xa l2 xc, .slice ta l3 tc] 24) := ⟨_, rfl⟩
  have FB := Lib.hid (show ∀ w', Below W0.heap.size W0 w' → Box w' w.heap.size [.slice sa l1 sc, .int .i64 q, .slice xa l2 xc, .slice ta l3 tc] ∧ (Ints w' (.slice ka n kc) keys ∧ Ints w' (.slice sa l1 sc) ss ∧ Ints w' (.slice xa l2 xc) xs ∧ Ints w' (.slice ta l3 tc) ts) ∧ Below w.heap.size w w' from fun w' hb => by
    have h0 : Below w.heap.size w w' := by rw [hW0] at hb; exact Below.on (below_grow w _) hb
    refine ⟨by rw [hW0] at hb; exact (Box.made w _ _).on hb, ⟨hk.below h0, hs.below h0, hx.below h0, ht.below h0⟩, h0⟩)
  have T0 := Lib.hid (Below.refl W0.heap.size W0)
  have HCK := Lib.hid (show ∀ k, k < n → ∃ X, ka = some ⟨X, 0, none⟩ ∧ ∀ w', Below w.heap.size w w' → w'.cell? ⟨X, k, none⟩ = some (.int .i64 (nth keys k)) from fun k hk => by
    obtain ⟨M, e1, hl, e2⟩ := k0.get k (by rw [hn]; exact hk)
    exact ⟨M, e1, fun w' hb => (hb.cell (p := ⟨M, k, none⟩) hl).trans e2⟩)
  have HCS := Lib.hid (show ∀ k, k < l1 → ∃ X, sa = some ⟨X, 0, none⟩ ∧ ∀ w', Below w.heap.size w w' → w'.cell? ⟨X, k, none⟩ = some (.int .i64 (nth ss k)) from fun k hk => by
    obtain ⟨M, e1, hl, e2⟩ := k1.get k (by rw [hl1]; exact hk)
    exact ⟨M, e1, fun w' hb => (hb.cell (p := ⟨M, k, none⟩) hl).trans e2⟩)
  have HCX := Lib.hid (show ∀ k, k < l2 → ∃ X, xa = some ⟨X, 0, none⟩ ∧ ∀ w', Below w.heap.size w w' → w'.cell? ⟨X, k, none⟩ = some (.int .i64 (nth xs k)) from fun k hk => by
    obtain ⟨M, e1, hl, e2⟩ := k2.get k (by rw [hl2]; exact hk)
    exact ⟨M, e1, fun w' hb => (hb.cell (p := ⟨M, k, none⟩) hl).trans e2⟩)
  have HCT := Lib.hid (show ∀ k, k < l3 → ∃ X, ta = some ⟨X, 0, none⟩ ∧ ∀ w', Below w.heap.size w w' → w'.cell? ⟨X, k, none⟩ = some (.int .i64 (nth ts k)) from fun k hk => by
    obtain ⟨M, e1, hl, e2⟩ := k3.get k (by rw [hl3]; exact hk)
    exact ⟨M, e1, fun w' hb => (hb.cell (p := ⟨M, k, none⟩) hl).trans e2⟩)
  clear hk hs hx ht k0 k1 k2 k3 hn hl1 hl2 hl3
  cases hky : kysB g keys need
  · have HX := Lib.hid (show someB g keys need ss q xs ts = false by unfold someB; rw [hky]; rfl)
    go_enter Tryd.func28, Tryd.ntmps28
    go_wp2_with fail
    rw [← hW0]
    clear hW0
    refine (skeys_any g need _ keys _ (FB.out _ T0.out).2.1.1).mono ?_
    rintro e w1 ⟨rfl, hb⟩
    rw [hky]
    have T1 := Lib.hid (Below.on T0.out hb)
    clear hb
    go_wp2
    go_ret
    exact ⟨by rw [HX.out]; rfl, (FB.out _ T1.out).2.2⟩
  · by_cases e1 : l1 = n
    · by_cases e2 : l2 = n
      · by_cases e3 : l3 = n
        · have HKY := Lib.hid (kysB_true.1 hky)
          have h9 := HKY.out.m.n4
          rw [HN.out] at h9
          have b1 : ((l1 : Int) != (n : Int)) = false := by simp; omega
          have b2 : ((l2 : Int) != (n : Int)) = false := by simp; omega
          have b3 : ((l3 : Int) != (n : Int)) = false := by simp; omega
          have E1 := Lib.hid e1
          have E2 := Lib.hid e2
          have E3 := Lib.hid e3
          clear e1 e2 e3
          have HALL := Lib.hid (show ∀ a b, toksB g keys ss xs ts n = a → linB g need q xs = b → someB g keys need ss q xs ts = (a && b) from fun a b h1 h2 => by unfold someB; rw [hky, HN.out, HL1.out, HL2.out, HL3.out, decide_eq_true E1.out, decide_eq_true E2.out, decide_eq_true E3.out, h1, h2]; rfl)
          cases hli : linB g need q xs
          · have HX := Lib.hid (show someB g keys need ss q xs ts = false by rw [HALL.out _ false rfl hli, Bool.and_false])
            go_enter Tryd.func28, Tryd.ntmps28
            go_wp2_with fail
            rw [← hW0]
            clear hW0
            refine (skeys_any g need _ keys _ (FB.out _ T0.out).2.1.1).mono ?_
            rintro e w1 ⟨rfl, hb⟩
            rw [hky]
            have T1 := Lib.hid (Below.on T0.out hb)
            clear hb
            have p0 := (FB.out _ T1.out).1.cell 0
            have p1 := (FB.out _ T1.out).1.cell 1
            have p2 := (FB.out _ T1.out).1.cell 2
            have p3 := (FB.out _ T1.out).1.cell 3
            simp at p0 p1 p2 p3
            go_wp2_with fail
            refine (slin_any g need q _ xs _ (FB.out _ T1.out).2.1.2.2.1).mono ?_
            rintro e w2 ⟨rfl, hb⟩
            rw [hli]
            have T2 := Lib.hid (Below.on T1.out hb)
            clear hb p0 p1 p2 p3
            go_wp2
            go_ret
            exact ⟨by rw [HX.out]; rfl, (FB.out _ T2.out).2.2⟩
          · go_enter Tryd.func28, Tryd.ntmps28
            go_wp2_with fail
            rw [← hW0]
            clear hW0
            refine (skeys_any g need _ keys _ (FB.out _ T0.out).2.1.1).mono ?_
            rintro e w1 ⟨rfl, hb⟩
            rw [hky]
            have T1 := Lib.hid (Below.on T0.out hb)
            clear hb
            have p0 := (FB.out _ T1.out).1.cell 0
            have p1 := (FB.out _ T1.out).1.cell 1
            have p2 := (FB.out _ T1.out).1.cell 2
            have p3 := (FB.out _ T1.out).1.cell 3
            simp at p0 p1 p2 p3
            go_wp2_with fail
            refine (slin_any g need q _ xs _ (FB.out _ T1.out).2.1.2.2.1).mono ?_
            rintro e w2 ⟨rfl, hb⟩
            rw [hli]
            have T2 := Lib.hid (Below.on T1.out hb)
            clear hb p0 p1 p2 p3
            go_wp2
            go_loopw [9] (fun i wr => ∃ k : Nat, k ≤ n ∧ i = .int .i64 k ∧ Hid (∀ j, j < k → tokB g (nth keys j) (nth ss j) (nth xs j) (nth ts j) = true) ∧ Hid (Below W0.heap.size W0 wr)) (fun i _ => n - (intOf i).toNat)
            case atStart => exact ⟨0, by omega, rfl, Lib.hid fun j hj => by omega, T2⟩
            case round =>
              obtain ⟨k, hk, rfl, hT, hB⟩ := hrel
              obtain ⟨wo, rfl⟩ : ∃ wo : World, wo = wr := ⟨_, rfl⟩
              by_cases hkn : k < n
              · have hk1 : (k : Int) < (n : Int) := by omega
                have hx1 : (k : Int) < (l1 : Int) := by have := E1.out; omega
                have hx2 : (k : Int) < (l2 : Int) := by have := E2.out; omega
                have hx3 : (k : Int) < (l3 : Int) := by have := E3.out; omega
                obtain ⟨YK, rfl, hcK⟩ := HCK.out k (by omega)
                have HHK := Lib.hid hcK
                clear hcK
                obtain ⟨YS, rfl, hcS⟩ := HCS.out k (by omega)
                have HHS := Lib.hid hcS
                clear hcS
                obtain ⟨YX, rfl, hcX⟩ := HCX.out k (by omega)
                have HHX := Lib.hid hcX
                clear hcX
                obtain ⟨YT, rfl, hcT⟩ := HCT.out k (by omega)
                have HHT := Lib.hid hcT
                clear hcT
                cases hto : tokB g (nth keys k) (nth ss k) (nth xs k) (nth ts k)
                · have HX := Lib.hid (show someB g keys need ss q xs ts = false by rw [HALL.out false _ (toksB_false hkn hto) rfl]; rfl)
                  have HD : Hid (Below W0.heap.size W0 wo.drew) := Lib.hid hB.out.drew
                  go_wp2_with fail
                  refine wp_region_class (C := fun w' => Hid (Below W0.heap.size W0 w')) (by kernel_rfl) (by kernel_rfl) HD ?_
                  repeat (first | go_big_quiet_skip | (go_big_quiet_want; go_big_quiet_op; first | go_big_quiet_on | (refine ⟨_, fun _ _ => rfl, ?_⟩; go_big_quiet_on)))
                  go_big_quiet_want
                  go_big_quiet_op
                  refine ⟨.int .i64 (nth keys k), fun w' hw' => ?_, ?_⟩
                  · have q0 := HHK.out _ (FB.out _ hw'.out).2.2
                    simp [go_sem, q0]
                  go_big_quiet_on
                  repeat (first | go_big_quiet_skip | (go_big_quiet_want; go_big_quiet_op; first | go_big_quiet_on | (refine ⟨_, fun _ _ => rfl, ?_⟩; go_big_quiet_on)))
                  go_big_quiet_want
                  go_big_quiet_op
                  refine ⟨.slice (some ⟨YS, 0, none⟩) l1 sc, fun w' hw' => ?_, ?_⟩
                  · have q0 := (FB.out _ hw'.out).1.cell 0
                    simp at q0
                    simp [go_sem, q0]
                  go_big_quiet_on
                  repeat (first | go_big_quiet_skip | (go_big_quiet_want; go_big_quiet_op; first | go_big_quiet_on | (refine ⟨_, fun _ _ => rfl, ?_⟩; go_big_quiet_on)))
                  go_big_quiet_want
                  go_big_quiet_op
                  refine ⟨.int .i64 (nth ss k), fun w' hw' => ?_, ?_⟩
                  · have q0 := HHS.out _ (FB.out _ hw'.out).2.2
                    simp [go_sem, q0]
                  go_big_quiet_on
                  repeat (first | go_big_quiet_skip | (go_big_quiet_want; go_big_quiet_op; first | go_big_quiet_on | (refine ⟨_, fun _ _ => rfl, ?_⟩; go_big_quiet_on)))
                  go_big_quiet_want
                  go_big_quiet_op
                  refine ⟨.slice (some ⟨YX, 0, none⟩) l2 xc, fun w' hw' => ?_, ?_⟩
                  · have q0 := (FB.out _ hw'.out).1.cell 2
                    simp at q0
                    simp [go_sem, q0]
                  go_big_quiet_on
                  repeat (first | go_big_quiet_skip | (go_big_quiet_want; go_big_quiet_op; first | go_big_quiet_on | (refine ⟨_, fun _ _ => rfl, ?_⟩; go_big_quiet_on)))
                  go_big_quiet_want
                  go_big_quiet_op
                  refine ⟨.int .i64 (nth xs k), fun w' hw' => ?_, ?_⟩
                  · have q0 := HHX.out _ (FB.out _ hw'.out).2.2
                    simp [go_sem, q0]
                  go_big_quiet_on
                  repeat (first | go_big_quiet_skip | (go_big_quiet_want; go_big_quiet_op; first | go_big_quiet_on | (refine ⟨_, fun _ _ => rfl, ?_⟩; go_big_quiet_on)))
                  go_big_quiet_want
                  go_big_quiet_op
                  refine ⟨.slice (some ⟨YT, 0, none⟩) l3 tc, fun w' hw' => ?_, ?_⟩
                  · have q0 := (FB.out _ hw'.out).1.cell 3
                    simp at q0
                    simp [go_sem, q0]
                  go_big_quiet_on
                  repeat (first | go_big_quiet_skip | (go_big_quiet_want; go_big_quiet_op; first | go_big_quiet_on | (refine ⟨_, fun _ _ => rfl, ?_⟩; go_big_quiet_on)))
                  go_big_quiet_want
                  go_big_quiet_op
                  refine ⟨.int .i64 (nth ts k), fun w' hw' => ?_, ?_⟩
                  · have q0 := HHT.out _ (FB.out _ hw'.out).2.2
                    simp [go_sem, q0]
                  go_big_quiet_on
                  repeat (first | go_big_quiet_skip | (go_big_quiet_want; go_big_quiet_op; first | go_big_quiet_on | (refine ⟨_, fun _ _ => rfl, ?_⟩; go_big_quiet_on)))
                  go_big_quiet_want
                  go_big_quiet_op
                  go_big_quiet_call ((intro hw; exact (stok_any g _ _ _ _ _).mono fun _ _ ⟨he, hb⟩ => ⟨by rw [hto] at he; exact he, Lib.hid (Below.on hw.out hb)⟩))
                  repeat (first | go_big_quiet_skip | (go_big_quiet_want; go_big_quiet_op; first | go_big_quiet_on | (refine ⟨_, fun _ _ => rfl, ?_⟩; go_big_quiet_on)))
                  refine wpQuiet_nil ?_
                  intro w5 hw5
                  go_wp2
                  go_ret
                  exact ⟨by rw [HX.out]; rfl, (FB.out _ hw5.out).2.2⟩
                · have HD : Hid (Below W0.heap.size W0 wo.drew) := Lib.hid hB.out.drew
                  go_wp2_with fail
                  refine wp_region_class (C := fun w' => Hid (Below W0.heap.size W0 w')) (by kernel_rfl) (by kernel_rfl) HD ?_
                  repeat (first | go_big_quiet_skip | (go_big_quiet_want; go_big_quiet_op; first | go_big_quiet_on | (refine ⟨_, fun _ _ => rfl, ?_⟩; go_big_quiet_on)))
                  go_big_quiet_want
                  go_big_quiet_op
                  refine ⟨.int .i64 (nth keys k), fun w' hw' => ?_, ?_⟩
                  · have q0 := HHK.out _ (FB.out _ hw'.out).2.2
                    simp [go_sem, q0]
                  go_big_quiet_on
                  repeat (first | go_big_quiet_skip | (go_big_quiet_want; go_big_quiet_op; first | go_big_quiet_on | (refine ⟨_, fun _ _ => rfl, ?_⟩; go_big_quiet_on)))
                  go_big_quiet_want
                  go_big_quiet_op
                  refine ⟨.slice (some ⟨YS, 0, none⟩) l1 sc, fun w' hw' => ?_, ?_⟩
                  · have q0 := (FB.out _ hw'.out).1.cell 0
                    simp at q0
                    simp [go_sem, q0]
                  go_big_quiet_on
                  repeat (first | go_big_quiet_skip | (go_big_quiet_want; go_big_quiet_op; first | go_big_quiet_on | (refine ⟨_, fun _ _ => rfl, ?_⟩; go_big_quiet_on)))
                  go_big_quiet_want
                  go_big_quiet_op
                  refine ⟨.int .i64 (nth ss k), fun w' hw' => ?_, ?_⟩
                  · have q0 := HHS.out _ (FB.out _ hw'.out).2.2
                    simp [go_sem, q0]
                  go_big_quiet_on
                  repeat (first | go_big_quiet_skip | (go_big_quiet_want; go_big_quiet_op; first | go_big_quiet_on | (refine ⟨_, fun _ _ => rfl, ?_⟩; go_big_quiet_on)))
                  go_big_quiet_want
                  go_big_quiet_op
                  refine ⟨.slice (some ⟨YX, 0, none⟩) l2 xc, fun w' hw' => ?_, ?_⟩
                  · have q0 := (FB.out _ hw'.out).1.cell 2
                    simp at q0
                    simp [go_sem, q0]
                  go_big_quiet_on
                  repeat (first | go_big_quiet_skip | (go_big_quiet_want; go_big_quiet_op; first | go_big_quiet_on | (refine ⟨_, fun _ _ => rfl, ?_⟩; go_big_quiet_on)))
                  go_big_quiet_want
                  go_big_quiet_op
                  refine ⟨.int .i64 (nth xs k), fun w' hw' => ?_, ?_⟩
                  · have q0 := HHX.out _ (FB.out _ hw'.out).2.2
                    simp [go_sem, q0]
                  go_big_quiet_on
                  repeat (first | go_big_quiet_skip | (go_big_quiet_want; go_big_quiet_op; first | go_big_quiet_on | (refine ⟨_, fun _ _ => rfl, ?_⟩; go_big_quiet_on)))
                  go_big_quiet_want
                  go_big_quiet_op
                  refine ⟨.slice (some ⟨YT, 0, none⟩) l3 tc, fun w' hw' => ?_, ?_⟩
                  · have q0 := (FB.out _ hw'.out).1.cell 3
                    simp at q0
                    simp [go_sem, q0]
                  go_big_quiet_on
                  repeat (first | go_big_quiet_skip | (go_big_quiet_want; go_big_quiet_op; first | go_big_quiet_on | (refine ⟨_, fun _ _ => rfl, ?_⟩; go_big_quiet_on)))
                  go_big_quiet_want
                  go_big_quiet_op
                  refine ⟨.int .i64 (nth ts k), fun w' hw' => ?_, ?_⟩
                  · have q0 := HHT.out _ (FB.out _ hw'.out).2.2
                    simp [go_sem, q0]
                  go_big_quiet_on
                  repeat (first | go_big_quiet_skip | (go_big_quiet_want; go_big_quiet_op; first | go_big_quiet_on | (refine ⟨_, fun _ _ => rfl, ?_⟩; go_big_quiet_on)))
                  go_big_quiet_want
                  go_big_quiet_op
                  go_big_quiet_call ((intro hw; exact (stok_any g _ _ _ _ _).mono fun _ _ ⟨he, hb⟩ => ⟨by rw [hto] at he; exact he, Lib.hid (Below.on hw.out hb)⟩))
                  repeat (first | go_big_quiet_skip | (go_big_quiet_want; go_big_quiet_op; first | go_big_quiet_on | (refine ⟨_, fun _ _ => rfl, ?_⟩; go_big_quiet_on)))
                  refine wpQuiet_nil ?_
                  intro w5 hw5
                  have HTO := Lib.hid hto
                  go_wp2
                  go_roundw
                  case rel => exact ⟨k + 1, by omega, by go_num, Lib.hid fun j hj => by
                    by_cases e : j < k
                    · exact hT.out j e
                    · obtain rfl : j = k := by omega
                      exact HTO.out, hw5⟩
                  case measure => simp [intOf]; omega
              · obtain rfl : k = n := by omega
                have hk1 : ¬ (k : Int) < (k : Int) := by omega
                have HX := Lib.hid (HALL.out true true (toksB_true.2 hT.out) hli)
                clear hT
                go_wp2
                go_ret
                exact ⟨by rw [HX.out]; rfl, (FB.out _ hB.out).2.2⟩
        · have HX := Lib.hid (show someB g keys need ss q xs ts = false from someB_false fun h => e3 (by rw [← HL3.out, ← HN.out]; exact h.l3))
          have b1 : ((l1 : Int) != (n : Int)) = false := by simp; omega
          have b2 : ((l2 : Int) != (n : Int)) = false := by simp; omega
          have b3 : ((l3 : Int) != (n : Int)) = true := by simp; omega
          clear e1
          clear e2
          go_enter Tryd.func28, Tryd.ntmps28
          go_wp2_with fail
          rw [← hW0]
          clear hW0
          refine (skeys_any g need _ keys _ (FB.out _ T0.out).2.1.1).mono ?_
          rintro e w1 ⟨rfl, hb⟩
          rw [hky]
          have T1 := Lib.hid (Below.on T0.out hb)
          clear hb
          have p0 := (FB.out _ T1.out).1.cell 0
          have p1 := (FB.out _ T1.out).1.cell 1
          have p2 := (FB.out _ T1.out).1.cell 2
          have p3 := (FB.out _ T1.out).1.cell 3
          simp at p0 p1 p2 p3
          go_wp2
          go_ret
          exact ⟨by rw [HX.out]; rfl, (FB.out _ T1.out).2.2⟩
      · have HX := Lib.hid (show someB g keys need ss q xs ts = false from someB_false fun h => e2 (by rw [← HL2.out, ← HN.out]; exact h.l2))
        have b1 : ((l1 : Int) != (n : Int)) = false := by simp; omega
        have b2 : ((l2 : Int) != (n : Int)) = true := by simp; omega
        clear e1
        go_enter Tryd.func28, Tryd.ntmps28
        go_wp2_with fail
        rw [← hW0]
        clear hW0
        refine (skeys_any g need _ keys _ (FB.out _ T0.out).2.1.1).mono ?_
        rintro e w1 ⟨rfl, hb⟩
        rw [hky]
        have T1 := Lib.hid (Below.on T0.out hb)
        clear hb
        have p0 := (FB.out _ T1.out).1.cell 0
        have p1 := (FB.out _ T1.out).1.cell 1
        have p2 := (FB.out _ T1.out).1.cell 2
        have p3 := (FB.out _ T1.out).1.cell 3
        simp at p0 p1 p2 p3
        go_wp2
        go_ret
        exact ⟨by rw [HX.out]; rfl, (FB.out _ T1.out).2.2⟩
    · have HX := Lib.hid (show someB g keys need ss q xs ts = false from someB_false fun h => e1 (by rw [← HL1.out, ← HN.out]; exact h.l1))
      have b1 : ((l1 : Int) != (n : Int)) = true := by simp; omega
      go_enter Tryd.func28, Tryd.ntmps28
      go_wp2_with fail
      rw [← hW0]
      clear hW0
      refine (skeys_any g need _ keys _ (FB.out _ T0.out).2.1.1).mono ?_
      rintro e w1 ⟨rfl, hb⟩
      rw [hky]
      have T1 := Lib.hid (Below.on T0.out hb)
      clear hb
      have p0 := (FB.out _ T1.out).1.cell 0
      have p1 := (FB.out _ T1.out).1.cell 1
      have p2 := (FB.out _ T1.out).1.cell 2
      have p3 := (FB.out _ T1.out).1.cell 3
      simp at p0 p1 p2 p3
      go_wp2
      go_ret
      exact ⟨by rw [HX.out]; rfl, (FB.out _ T1.out).2.2⟩
end Go.Proofs.YtacalanlepjljaaDoor
