/- impl.knownOk, impl.freeOk. -/
import Derived.Test.YtljekapbcphdaabDoorSofP
import Derived.Deep.Cut
namespace Go.Proofs.YtljekapbcphdaabDoor
open Go.RowKit

set_option maxHeartbeats 3200000 in
theorem iknown_any (g need : Int) (kv sv : Value) (keys secrets : List Int) (w : World) (G : Gr w) (hk : Ints w kv keys) (hs : Ints w sv secrets) : Calls Tryd.prog 104 #[.int .i64 g, kv, .int .i64 need, sv] w fun e w' => e = .returned (.bool (knoB g keys need secrets)) ∧ Below w.heap.size w w' := by
  obtain ⟨ka, kc, rfl, k0⟩ := hk.opened
  obtain ⟨sa, sc, rfl, k1⟩ := hs.opened
  obtain ⟨n, hn⟩ : ∃ n, keys.length = n := ⟨_, rfl⟩
  obtain ⟨l, hll⟩ : ∃ n, secrets.length = n := ⟨_, rfl⟩
  have HCK := Lib.hid (show ∀ k, k < n → ∃ X, ka = some ⟨X, 0, none⟩ ∧ ∀ w', Below w.heap.size w w' → w'.cell? ⟨X, k, none⟩ = some (.int .i64 (nth keys k)) from fun k hk => by
    obtain ⟨M, e1, hl, e2⟩ := k0.get k (by omega)
    exact ⟨M, e1, fun w' hb => (hb.cell (p := ⟨M, k, none⟩) hl).trans e2⟩)
  have HCS := Lib.hid (show ∀ k, k < l → ∃ X, sa = some ⟨X, 0, none⟩ ∧ ∀ w', Below w.heap.size w w' → w'.cell? ⟨X, k, none⟩ = some (.int .i64 (nth secrets k)) from fun k hk => by
    obtain ⟨M, e1, hl, e2⟩ := k1.get k (by omega)
    exact ⟨M, e1, fun w' hb => (hb.cell (p := ⟨M, k, none⟩) hl).trans e2⟩)
  have HG := Lib.hid G; have HK := Lib.hid hk
  have HN := Lib.hid hn; have HL := Lib.hid hll
  have mx := k1.max
  rw [hll] at mx
  unfold maxLen at mx
  rw [hn] at HK
  rw [hn, hll]
  clear hk hs k0 k1 G hn hll
  cases h1 : kysB g keys need
  · have HX := Lib.hid (show knoB g keys need secrets = false by unfold knoB; rw [h1]; rfl)
    go_enter Tryd.func104, Tryd.ntmps104
    go_wp2_with fail
    refine (ikeys_any g need _ keys _ HG.out HK.out).mono ?_
    rintro e w1 ⟨rfl, hb⟩
    rw [h1]
    have B1 := Lib.hid hb
    clear hb
    go_wp2
    go_ret
    exact ⟨by rw [HX.out]; rfl, B1.out⟩
  · by_cases h2 : l = n
    · subst h2
      have h4 : l ≤ 4 := by have := (kysB_true.1 h1).m.n4; rw [HN.out] at this; exact this
      have HALL := Lib.hid (show ∀ b, knwB g keys secrets l = b → knoB g keys need secrets = (b && decide ((cntK secrets l : Int) = need)) from fun b hb => by unfold knoB; rw [h1, HN.out, HL.out, hb, decide_eq_true rfl]; rfl)
      have HC1 := Lib.hid (fun k (h : nth secrets k = -1) => cntK_no h)
      have HC2 := Lib.hid (fun k (h : nth secrets k ≠ -1) => cntK_yes h)
      have HCL := Lib.hid (fun k => cntK_le secrets k)
      have HC0 := Lib.hid (show cntK secrets 0 = 0 from rfl)
      have hll : ((l : Int) != (l : Int)) = false := by simp
      go_enter Tryd.func104, Tryd.ntmps104
      go_wp2_with fail
      refine (ikeys_any g need _ keys _ HG.out HK.out).mono ?_
      rintro e w1 ⟨rfl, hb⟩
      rw [h1]
      have B1 := Lib.hid hb
      clear hb
      go_wp2
      go_loopw [9, 26] (fun c i wr => ∃ k : Nat, k ≤ l ∧ i = .int .i64 k ∧ c = .int .i64 (cntK secrets k) ∧ Hid (∀ j, j < k → nth secrets j = -1 ∨ keyOf g (nth secrets j) = nth keys j) ∧ Hid (Below w.heap.size w wr)) (fun _ i _ => l - (intOf i).toNat)
      case atStart => exact ⟨0, by omega, rfl, by rw [HC0.out]; rfl, Lib.hid fun j hj => by omega, B1⟩
      case round =>
        obtain ⟨k, hk, rfl, rfl, hP, hB⟩ := hrel
        obtain ⟨wo, rfl⟩ : ∃ wo : World, wo = wr := ⟨_, rfl⟩
        have hcl := HCL.out k
        by_cases hkn : k < l
        · have hk1 : (k : Int) < (l : Int) := by omega
          obtain ⟨X, rfl, hc⟩ := HCS.out k hkn
          have c0 := hc _ hB.out
          clear hc
          by_cases hu : nth secrets k = -1
          · have hb : (nth secrets k == -1) = true := by simpa using hu
            have HCE := Lib.hid (HC1.out k hu)
            have HPK := Lib.hid (show ∀ j, j < k + 1 → nth secrets j = -1 ∨ keyOf g (nth secrets j) = nth keys j from fun j hj => by
              by_cases e : j < k
              · exact hP.out j e
              · obtain rfl : j = k := by omega
                exact .inl hu)
            clear hu
            go_wp2
            go_roundw
            case rel => exact ⟨k + 1, by omega, by go_num, by rw [HCE.out], HPK, hB⟩
            case measure => simp [intOf]; omega
          · have hb : (nth secrets k == -1) = false := by simpa using hu
            have HU := Lib.hid hu
            obtain ⟨Y, rfl, hd⟩ := HCK.out k hkn
            have HD := Lib.hid hd
            clear hu hd
            have HD1 : Hid (Below w.heap.size w wo.drew) := Lib.hid hB.out.drew
            go_wp2_with fail
            refine wp_region_class (C := fun w' => Hid (Below w.heap.size w w')) (by kernel_rfl) (by kernel_rfl) HD1 ?_
            repeat (first | go_big_quiet_skip | (go_big_quiet_want; go_big_quiet_op; first | go_big_quiet_on | (refine ⟨_, fun _ _ => rfl, ?_⟩; go_big_quiet_on)))
            go_big_quiet_want
            go_big_quiet_op
            go_big_quiet_call ((intro hw; exact (ikey_any g _ _ (HG.out.on hw.out)).mono fun _ _ ⟨he, hb⟩ => ⟨he, Lib.hid (Below.on hw.out hb)⟩))
            repeat (first | go_big_quiet_skip | (go_big_quiet_want; go_big_quiet_op; first | go_big_quiet_on | (refine ⟨_, fun _ _ => rfl, ?_⟩; go_big_quiet_on)))
            go_big_quiet_want
            go_big_quiet_op
            refine ⟨.int .i64 (nth keys k), fun w' hw' => ?_, ?_⟩
            · have q0 := HD.out _ hw'.out
              simp [go_sem, q0]
            go_big_quiet_on
            repeat (first | go_big_quiet_skip | (go_big_quiet_want; go_big_quiet_op; first | go_big_quiet_on | (refine ⟨_, fun _ _ => rfl, ?_⟩; go_big_quiet_on)))
            refine wpQuiet_nil ?_
            intro w5 hw5
            by_cases he : keyOf g (nth secrets k) = nth keys k
            · have hne : (keyOf g (nth secrets k) != nth keys k) = false := by simpa using he
              have HCE := Lib.hid (HC2.out k HU.out)
              have HPK := Lib.hid (show ∀ j, j < k + 1 → nth secrets j = -1 ∨ keyOf g (nth secrets j) = nth keys j from fun j hj => by
                by_cases e : j < k
                · exact hP.out j e
                · obtain rfl : j = k := by omega
                  exact .inr he)
              clear he
              go_wp2
              go_roundw
              case rel => exact ⟨k + 1, by omega, by go_num, by rw [HCE.out]; go_num, HPK, hw5⟩
              case measure => simp [intOf]; omega
            · have hne : (keyOf g (nth secrets k) != nth keys k) = true := by simpa using he
              have HX := Lib.hid (show knoB g keys need secrets = false by rw [HALL.out false (knwB_false hkn HU.out he)]; rfl)
              clear he
              go_wp2
              go_ret
              exact ⟨by rw [HX.out]; rfl, hw5.out⟩
        · obtain rfl : k = l := by omega
          have hk1 : ¬ (k : Int) < (k : Int) := by omega
          have HX := Lib.hid (show knoB g keys need secrets = decide ((cntK secrets k : Int) = need) by rw [HALL.out true (knwB_true.2 hP.out), Bool.true_and])
          clear hP
          by_cases he : (cntK secrets k : Int) = need
          · have hne : ((cntK secrets k : Int) == need) = true := by simpa using he
            have HE := Lib.hid he
            clear he
            go_wp2
            go_ret
            exact ⟨by rw [HX.out, decide_eq_true HE.out]; rfl, hB.out⟩
          · have hne : ((cntK secrets k : Int) == need) = false := by simpa using he
            have HE := Lib.hid he
            clear he
            go_wp2
            go_ret
            exact ⟨by rw [HX.out, decide_eq_false HE.out]; rfl, hB.out⟩
    · have HX := Lib.hid (show knoB g keys need secrets = false by unfold knoB; rw [HN.out, HL.out, decide_eq_false h2]; simp)
      have hne : ((l : Int) != (n : Int)) = true := by simp; omega
      go_enter Tryd.func104, Tryd.ntmps104
      go_wp2_with fail
      refine (ikeys_any g need _ keys _ HG.out HK.out).mono ?_
      rintro e w1 ⟨rfl, hb⟩
      rw [h1]
      have B1 := Lib.hid hb
      clear hb
      go_wp2
      go_ret
      exact ⟨by rw [HX.out]; rfl, B1.out⟩

set_option maxHeartbeats 3200000 in
theorem ifree_any (g : Int) (sv fv gv : Value) (secrets first second : List Int) (w : World) (G : Gr w) (hs : Ints w sv secrets) (hf : Ints w fv first) (hg : Ints w gv second) : Calls Tryd.prog 105 #[.int .i64 g, sv, fv, gv] w fun e w' => e = .returned (.bool (freB g secrets first second)) ∧ Below w.heap.size w w' := by
  obtain ⟨sa, sc, rfl, k1⟩ := hs.opened
  obtain ⟨fa, fc, rfl, k2⟩ := hf.opened
  obtain ⟨ga, gc, rfl, k3⟩ := hg.opened
  obtain ⟨l, hll⟩ : ∃ n, secrets.length = n := ⟨_, rfl⟩
  obtain ⟨m1, hm1⟩ : ∃ n, first.length = n := ⟨_, rfl⟩
  obtain ⟨m2, hm2⟩ : ∃ n, second.length = n := ⟨_, rfl⟩
  have HCS := Lib.hid (show ∀ k, k < l → ∃ X, sa = some ⟨X, 0, none⟩ ∧ ∀ w', Below w.heap.size w w' → w'.cell? ⟨X, k, none⟩ = some (.int .i64 (nth secrets k)) from fun k hk => by
    obtain ⟨M, e1, hl, e2⟩ := k1.get k (by omega)
    exact ⟨M, e1, fun w' hb => (hb.cell (p := ⟨M, k, none⟩) hl).trans e2⟩)
  have HCG := Lib.hid (show ∀ k, k < m2 → ∃ X, ga = some ⟨X, 0, none⟩ ∧ ∀ w', Below w.heap.size w w' → w'.cell? ⟨X, k, none⟩ = some (.int .i64 (nth second k)) from fun k hk => by
    obtain ⟨M, e1, hl, e2⟩ := k3.get k (by omega)
    exact ⟨M, e1, fun w' hb => (hb.cell (p := ⟨M, k, none⟩) hl).trans e2⟩)
  have HG := Lib.hid G; have HF := Lib.hid hf; have HS2 := Lib.hid hg
  have HL := Lib.hid hll; have HM1 := Lib.hid hm1; have HM2 := Lib.hid hm2
  have mx := k1.max; have mx2 := k2.max; have mx3 := k3.max
  rw [hll] at mx; rw [hm1] at mx2 HF; rw [hm2] at mx3 HS2
  unfold maxLen at mx mx2 mx3
  rw [hll, hm1, hm2]
  clear hs hf hg k1 k2 k3 G hll hm1 hm2
  by_cases e1 : m1 = l
  · subst e1
    by_cases e2 : m2 = m1
    · subst e2
      have hne : ((m2 : Int) != (m2 : Int)) = false := by simp
      have HALL := Lib.hid (show ∀ b, frzB secrets second m2 = b → freB g secrets first second = (b && (allEx g first && allEx g second)) from fun b hb => by unfold freB; rw [HL.out, HM1.out, HM2.out, hb, decide_eq_true rfl]; rfl)
      go_enter Tryd.func105, Tryd.ntmps105
      go_wp2
      go_loopw [25] (fun i wr => ∃ k : Nat, k ≤ m2 ∧ i = .int .i64 k ∧ Hid (∀ j, j < k → nth secrets j = -1 ∨ nth second j = 0) ∧ Hid (Below w.heap.size w wr)) (fun i _ => m2 - (intOf i).toNat)
      case atStart => exact ⟨0, by omega, rfl, Lib.hid fun j hj => by omega, Lib.hid (Below.refl _ _)⟩
      case round =>
        obtain ⟨k, hk, rfl, hP, hB⟩ := hrel
        obtain ⟨wo, rfl⟩ : ∃ wo : World, wo = wr := ⟨_, rfl⟩
        by_cases hkn : k < m2
        · have hk1 : (k : Int) < (m2 : Int) := by omega
          obtain ⟨X, rfl, hc⟩ := HCS.out k hkn
          have c0 := hc _ hB.out
          clear hc
          obtain ⟨Y, rfl, hd⟩ := HCG.out k hkn
          have d0 := hd _ hB.out
          clear hd
          by_cases hu : nth secrets k = -1
          · have hb : (nth secrets k != -1) = false := by simpa using hu
            have HPK := Lib.hid (show ∀ j, j < k + 1 → nth secrets j = -1 ∨ nth second j = 0 from fun j hj => by
              by_cases e : j < k
              · exact hP.out j e
              · obtain rfl : j = k := by omega
                exact .inl hu)
            clear hu
            go_wp2
            go_roundw
            case rel => exact ⟨k + 1, by omega, by go_num, HPK, hB⟩
            case measure => simp [intOf]; omega
          · have hb : (nth secrets k != -1) = true := by simpa using hu
            by_cases hz : nth second k = 0
            · have hb2 : (nth second k != 0) = false := by simpa using hz
              have HPK := Lib.hid (show ∀ j, j < k + 1 → nth secrets j = -1 ∨ nth second j = 0 from fun j hj => by
                by_cases e : j < k
                · exact hP.out j e
                · obtain rfl : j = k := by omega
                  exact .inr hz)
              clear hu hz
              go_wp2
              go_roundw
              case rel => exact ⟨k + 1, by omega, by go_num, HPK, hB⟩
              case measure => simp [intOf]; omega
            · have hb2 : (nth second k != 0) = true := by simpa using hz
              have HX := Lib.hid (show freB g secrets first second = false by rw [HALL.out false (frzB_false hkn hu hz)]; rfl)
              clear hu hz
              go_wp2
              go_ret
              exact ⟨by rw [HX.out]; rfl, hB.out⟩
        · obtain rfl : k = m2 := by omega
          have hk1 : ¬ (k : Int) < (k : Int) := by omega
          have HX := Lib.hid (HALL.out true (frzB_true.2 hP.out))
          clear hP
          cases h1 : allEx g first
          · go_wp2_with fail
            refine (iexsok_any g _ first _ (HG.out.on hB.out) (HF.out.below hB.out)).mono ?_
            rintro e w5 ⟨rfl, hb⟩
            rw [h1]
            have B5 := Lib.hid (Below.on hB.out hb)
            clear hb
            go_wp2
            go_ret
            exact ⟨by rw [HX.out, h1]; rfl, B5.out⟩
          · go_wp2_with fail
            refine (iexsok_any g _ first _ (HG.out.on hB.out) (HF.out.below hB.out)).mono ?_
            rintro e w5 ⟨rfl, hb⟩
            rw [h1]
            have B5 := Lib.hid (Below.on hB.out hb)
            clear hb
            go_wp2_with fail
            refine (iexsok_any g _ second _ (HG.out.on B5.out) (HS2.out.below B5.out)).mono ?_
            rintro e w6 ⟨rfl, hb⟩
            have B6 := Lib.hid (Below.on B5.out hb)
            clear hb
            go_wp2
            go_ret
            exact ⟨by rw [HX.out, h1]; rfl, B6.out⟩
    · have HX := Lib.hid (show freB g secrets first second = false by unfold freB; rw [HL.out, HM1.out, HM2.out, decide_eq_false e2]; simp)
      have hn1 : ((m1 : Int) != (m1 : Int)) = false := by simp
      have hne : ((m2 : Int) != (m1 : Int)) = true := by simp; omega
      go_enter Tryd.func105, Tryd.ntmps105
      go_wp2
      go_ret
      exact ⟨by rw [HX.out]; rfl, Below.refl _ _⟩
  · have HX := Lib.hid (show freB g secrets first second = false by unfold freB; rw [HL.out, HM1.out, decide_eq_false e1]; rfl)
    have hne : ((m1 : Int) != (l : Int)) = true := by simp; omega
    go_enter Tryd.func105, Tryd.ntmps105
    go_wp2
    go_ret
    exact ⟨by rw [HX.out]; rfl, Below.refl _ _⟩
end Go.Proofs.YtljekapbcphdaabDoor
