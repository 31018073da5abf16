/- spec.TimesTable. -/
import Derived.Test.YtndknjjafoebhabTtbI
import Derived.Test.YtndknjjafoebhabTabS
import Derived.Test.YtndknjjafoebhabBReg
namespace Go.Proofs.Ytndknjjafoebhab
open Go.RowKit

theorem stab_is {v : Value} {t : List (List Int)} {w : World} {r : Bool} (h : tabB t = r) (hi : IntSS w v t) : Calls Try.prog 6 #[v] w fun e w' => e = .returned (.bool r) ∧ Below w.heap.size w w' := by rw [← h]; exact stab_any v t w hi
theorem ownSS_zero (w : World) : OwnSS (w.alloc (.cells #[] 30)) w.heap.size (w.alloc (.cells #[] 30)).heap.size (.slice (some ⟨w.heap.size, 0, none⟩) 0 0) [] [] := by
  have h := World.ownsRow_lit (base := w.heap.size) (e := 30) (size := 1) w #[] 0 (Nat.le_refl _) (by decide) rfl
  exact ⟨h, rfl, fun k hk => (h.lt k hk).2, fun j hj => by simp at hj, fun j hj => by simp at hj, fun i j _ hj => by simp at hj, fun j hj => by simp at hj⟩
theorem timT_ints {w : World} {lo hi : Nat} {v : Value} {us : List Value} {a b : List (List Int)} (ta : Tab a) (tb : Tab b) (h : OwnSS w lo hi v us (timT a b)) : IntSS w v (timT a b) := by
  have ra := ta.r2
  have rb := tb.r2
  have ca := ta.a2
  have cb := tb.a2
  have h1 := Nat.mul_le_mul ra rb
  have h2 := Nat.mul_le_mul ca cb
  refine h.ints (by rw [timT_len]; unfold maxLen; omega) fun j hj => ?_
  rw [(tim_row ta tb hj).1]; unfold maxLen; omega

theorem sttb_no1 (va vb : Value) (a b : List (List Int)) (w : World) (h : IntSS w va a) (ha : tabB a = false) : Calls Try.prog 10 #[va, vb] w (TtPost a b w) := by
  have HIA := Lib.hid (show ∀ w', Below w.heap.size w w' → IntSS w' va a from fun w' hb => h.on hb)
  have hk : ttB a b = false := ttB_false fun k => by rw [tabB_true.2 k.ta] at ha; cases ha
  have HX := Lib.hid hk
  have HY := Lib.hid (ttL_no hk)
  have O0 := Lib.hid (ownSS_zero w)
  have B0 := Lib.hid (below_grow w (.cells #[] 30))
  clear h hk
  go_enter Try.func10, Try.ntmps10
  go_wp2_with fail
  refine (stab_is ha (HIA.out _ B0.out)).mono ?_
  rintro e w1 ⟨rfl, hb⟩
  have B1 := Lib.hid (Below.on B0.out hb)
  have O1 := Lib.hid (O0.out.grew hb)
  clear hb
  go_wp2
  go_ret2
  exact ⟨_, [], by rw [HX.out]; rfl, by rw [HY.out]; exact O1.out, B1.out⟩

theorem sttb_no2 (va vb : Value) (a b : List (List Int)) (w : World) (h : IntSS w va a) (h' : IntSS w vb b) (ha : tabB a = true) (hb : tabB b = false) : Calls Try.prog 10 #[va, vb] w (TtPost a b w) := by
  have HIA := Lib.hid (show ∀ w', Below w.heap.size w w' → IntSS w' va a from fun w' hb => h.on hb)
  have HIB := Lib.hid (show ∀ w', Below w.heap.size w w' → IntSS w' vb b from fun w' hb => h'.on hb)
  have hk : ttB a b = false := ttB_false fun k => by rw [tabB_true.2 k.tb] at hb; cases hb
  have HX := Lib.hid hk
  have HY := Lib.hid (ttL_no hk)
  have O0 := Lib.hid (ownSS_zero w)
  have B0 := Lib.hid (below_grow w (.cells #[] 30))
  have HBB := Lib.hid hb
  clear h h' hk hb
  go_enter Try.func10, Try.ntmps10
  go_wp2_with fail
  refine (stab_is ha (HIA.out _ B0.out)).mono ?_
  rintro e w1 ⟨rfl, hb⟩
  have B1 := Lib.hid (Below.on B0.out hb)
  have O1 := Lib.hid (O0.out.grew hb)
  clear hb
  go_wp2_with fail
  refine (stab_is HBB.out (HIB.out _ B1.out)).mono ?_
  rintro e w2 ⟨rfl, hb⟩
  have B2 := Lib.hid (Below.on B1.out hb)
  have O2 := Lib.hid (O1.out.grew hb)
  clear hb
  go_wp2
  go_ret2
  exact ⟨_, [], by rw [HX.out]; rfl, by rw [HY.out]; exact O2.out, B2.out⟩

set_option maxHeartbeats 6400000 in
theorem sttb_both (va vb : Value) (a b : List (List Int)) (w : World) (h : IntSS w va a) (h' : IntSS w vb b) (ha : tabB a = true) (hb : tabB b = true) : Calls Try.prog 10 #[va, vb] w (TtPost a b w) := by
  have HIA := Lib.hid (show ∀ w', Below w.heap.size w w' → IntSS w' va a from fun w' hb => h.on hb)
  have HIB := Lib.hid (show ∀ w', Below w.heap.size w w' → IntSS w' vb b from fun w' hb => h'.on hb)
  have ta := tabB_true.1 ha
  have tb := tabB_true.1 hb
  have ra := ta.r2
  have rb := tb.r2
  have ca := ta.a2
  have cb := tb.a2
  obtain ⟨aa, ac, rfl, k1⟩ := id h.opened
  obtain ⟨ba, bc, rfl, k2⟩ := id h'.opened
  have HCA := Lib.hid (show ∀ k, k < a.length → ∃ G x, aa = some ⟨G, 0, none⟩ ∧ (∀ w', Below w.heap.size w w' → w'.cell? ⟨G, k, none⟩ = some x) ∧ ∃ ax cx, x = .slice ax (row a k).length cx ∧ ∀ j, j < (row a k).length → ∃ X, ax = some ⟨X, 0, none⟩ ∧ ∀ w', Below w.heap.size w w' → w'.cell? ⟨X, j, none⟩ = some (.int .i64 (nth (row a k) j)) from fun k hk => by
    obtain ⟨G, x, e1, hl, e2, e3⟩ := k1.get k hk
    obtain ⟨ax, cx, e4, e5⟩ := e3.opened
    refine ⟨G, x, e1, fun w' hb => (hb.cell (p := ⟨G, k, none⟩) hl).trans e2, ax, cx, e4, fun j hj => ?_⟩
    obtain ⟨X, f1, f2, f3⟩ := e5.get j hj
    exact ⟨X, f1, fun w' hb => (hb.cell (p := ⟨X, j, none⟩) f2).trans f3⟩)
  have HCB := Lib.hid (show ∀ k, k < b.length → ∃ G x, ba = some ⟨G, 0, none⟩ ∧ (∀ w', Below w.heap.size w w' → w'.cell? ⟨G, k, none⟩ = some x) ∧ ∃ ax cx, x = .slice ax (row b k).length cx ∧ ∀ j, j < (row b k).length → ∃ X, ax = some ⟨X, 0, none⟩ ∧ ∀ w', Below w.heap.size w w' → w'.cell? ⟨X, j, none⟩ = some (.int .i64 (nth (row b k) j)) from fun k hk => by
    obtain ⟨G, x, e1, hl, e2, e3⟩ := k2.get k hk
    obtain ⟨ax, cx, e4, e5⟩ := e3.opened
    refine ⟨G, x, e1, fun w' hb => (hb.cell (p := ⟨G, k, none⟩) hl).trans e2, ax, cx, e4, fun j hj => ?_⟩
    obtain ⟨X, f1, f2, f3⟩ := e5.get j hj
    exact ⟨X, f1, fun w' hb => (hb.cell (p := ⟨X, j, none⟩) f2).trans f3⟩)
  obtain ⟨n, hn⟩ : ∃ n, a.length = n := ⟨_, rfl⟩
  obtain ⟨m, hm⟩ : ∃ m, b.length = m := ⟨_, rfl⟩
  obtain ⟨T, hT⟩ : ∃ T : Nat → List (List Int), T = timTo a b := ⟨_, rfl⟩
  obtain ⟨I, hI⟩ : ∃ I : Nat → Nat → List (List Int), I = fun i j => timTo a b i ++ timIn (row a i) b j := ⟨_, rfl⟩
  have HT : Hid (T n = timT a b) := Lib.hid (by rw [hT, ← hn]; rfl)
  have H0 : Hid (T 0 = []) := Lib.hid (by rw [hT]; rfl)
  have HI0 : Hid (∀ i, I i 0 = T i) := Lib.hid (fun i => by rw [hI, hT]; exact List.append_nil _)
  have HI1 : Hid (∀ i j, I i (j + 1) = I i j ++ [mulRow (row a i) (row b j)]) := Lib.hid (fun i j => by rw [hI]; show timTo a b i ++ (timIn (row a i) b j ++ [mulRow (row a i) (row b j)]) = _; rw [List.append_assoc])
  have HIm : Hid (∀ i, I i m = T (i + 1)) := Lib.hid (fun i => by rw [hI, hT, ← hm]; rfl)
  have HL : Hid (∀ i j, i < n → j < m → (I i j).length < 1000) := Lib.hid (fun i j hi hj => by
    rw [hI]
    show (timTo a b i ++ timIn (row a i) b j).length < 1000
    rw [List.length_append, timTo_len, timIn_len, hm]
    have := Nat.mul_le_mul (show i ≤ 12 by omega) (show m ≤ 12 by omega)
    omega)
  have HRA := Lib.hid (show ∀ k, k < n → (row a k).length ≤ 8 ∧ ∀ j, j < (row a k).length → nth (row a k) j = 0 ∨ nth (row a k) j = 1 from fun k hk => ⟨by rw [ta.len k (by omega)]; exact ca, fun j hj => ta.bit k j (by omega) hj⟩)
  have HRB := Lib.hid (show ∀ k, k < m → (row b k).length ≤ 8 ∧ ∀ j, j < (row b k).length → nth (row b k) j = 0 ∨ nth (row b k) j = 1 from fun k hk => ⟨by rw [tb.len k (by omega)]; exact cb, fun j hj => tb.bit k j (by omega) hj⟩)
  have HTA := Lib.hid ta
  have HTB := Lib.hid tb
  have HBB := Lib.hid hb
  have O0 := Lib.hid (ownSS_zero w)
  have B0 := Lib.hid (below_grow w (.cells #[] 30))
  rw [hn] at ra HCA HIA ⊢
  rw [hm] at rb HCB HIB ⊢
  clear h h' hn hm k1 k2 ta tb hT hI hb ca cb
  go_enter Try.func10, Try.ntmps10
  go_wp2_with fail
  refine (stab_is ha (HIA.out _ B0.out)).mono ?_
  rintro e w1 ⟨rfl, hb⟩
  have B1 := Lib.hid (Below.on B0.out hb)
  have O1 := Lib.hid (O0.out.grew hb)
  clear hb
  go_wp2_with fail
  refine (stab_is HBB.out (HIB.out _ B1.out)).mono ?_
  rintro e w2 ⟨rfl, hb⟩
  have B2 := Lib.hid (Below.on B1.out hb)
  have O2 := Lib.hid (O1.out.grew hb)
  clear hb O0 B0 O1 B1 ha
  go_wp2
  go_loopw [6, 7] (fun x i wr => ∃ k : Nat, k ≤ n ∧ i = .int .i64 k ∧ Hid (∃ us, OwnSS wr w.heap.size wr.heap.size x us (T k)) ∧ Hid (Below w.heap.size w wr)) (fun _ i _ => n - (intOf i).toNat)
  case atStart => exact ⟨0, by omega, rfl, Lib.hid ⟨[], by rw [H0.out]; exact O2.out⟩, B2⟩
  case round =>
    obtain ⟨k, hk, rfl, hO, hB⟩ := hrel
    obtain ⟨wo, rfl⟩ : ∃ wo : World, wo = wr := ⟨_, rfl⟩
    clear O2 B2
    by_cases hlt : k < n
    · obtain ⟨GA, x, rfl, hcx, ax, cx, rfl, hcells⟩ := HCA.out k hlt
      obtain ⟨lx, hlx⟩ : ∃ lx, (row a k).length = lx := ⟨_, rfl⟩
      have HLX := Lib.hid hlx
      have RA := Lib.hid (HRA.out k hlt)
      have hlx8 : lx ≤ 8 := by rw [← hlx]; exact RA.out.1
      rw [hlx] at hcx hcells
      have HAK := Lib.hid hcx
      have HAC := Lib.hid hcells
      have J1 := Lib.hid (HI1.out k)
      have JL := Lib.hid (fun j (hj : j < m) => HL.out k j hlt hj)
      have JM := Lib.hid (HIm.out k)
      have O1 : Hid (∃ us, OwnSS wo w.heap.size wo.heap.size u6 us (I k 0)) := Lib.hid (by rw [HI0.out]; exact hO.out)
      have hltn : (k : Int) < (n : Int) := by omega
      clear hlx hcx hcells hO
      go_wp2
      go_loopw [6, 8] (fun x i wr => ∃ j : Nat, j ≤ m ∧ i = .int .i64 j ∧ Hid (∃ us, OwnSS wr w.heap.size wr.heap.size x us (I k j)) ∧ Hid (Below w.heap.size w wr)) (fun _ i _ => m - (intOf i).toNat)
      case atStart => exact ⟨0, by omega, rfl, O1, hB⟩
      case round =>
        obtain ⟨j, hj, rfl, hO2, hB2⟩ := hrel
        obtain ⟨wj, rfl⟩ : ∃ wj : World, wj = wr := ⟨_, rfl⟩
        clear O1 hB
        by_cases hjl : j < m
        · obtain ⟨GB, y, rfl, hcy, ay, cy, rfl, hcellsy⟩ := HCB.out j hjl
          obtain ⟨ly, hly⟩ : ∃ ly, (row b j).length = ly := ⟨_, rfl⟩
          have HLY := Lib.hid hly
          have RB := Lib.hid (HRB.out j hjl)
          have hly8 : ly ≤ 8 := by rw [← hly]; exact RB.out.1
          rw [hly] at hcy hcellsy
          have HBK := Lib.hid hcy
          have HBC := Lib.hid hcellsy
          obtain ⟨M, hM⟩ : ∃ M : Nat → List Int, M = mulTo (row a k) (row b j) := ⟨_, rfl⟩
          obtain ⟨J, hJ⟩ : ∃ J : Nat → Nat → List Int, J = fun i h => mulTo (row a k) (row b j) i ++ mulIn (nth (row a k) i) (row b j) h := ⟨_, rfl⟩
          have MX : Hid (mulRow (row a k) (row b j) = M lx) := Lib.hid (by rw [hM, ← HLX.out]; rfl)
          have M0 : Hid (M 0 = []) := Lib.hid (by rw [hM]; rfl)
          have MI0 : Hid (∀ i, J i 0 = M i) := Lib.hid (fun i => by rw [hJ, hM]; exact List.append_nil _)
          have MI1 : Hid (∀ i h, J i (h + 1) = J i h ++ [nth (row a k) i * nth (row b j) h]) := Lib.hid (fun i h => by rw [hJ]; show mulTo (row a k) (row b j) i ++ (mulIn (nth (row a k) i) (row b j) h ++ [nth (row a k) i * nth (row b j) h]) = _; rw [List.append_assoc])
          have MIm : Hid (∀ i, J i ly = M (i + 1)) := Lib.hid (fun i => by rw [hJ, hM, ← HLY.out]; rfl)
          have ML : Hid (∀ i h, i < lx → h < ly → (J i h).length < 1000) := Lib.hid (fun i h hi hh => by
            rw [hJ]
            show (mulTo (row a k) (row b j) i ++ mulIn (nth (row a k) i) (row b j) h).length < 1000
            rw [List.length_append, mulTo_len, mulIn_len, HLY.out]
            have := Nat.mul_le_mul (show i ≤ 8 by omega) (show ly ≤ 8 by omega)
            omega)
          have JJ := Lib.hid (J1.out j)
          have JLJ := Lib.hid (JL.out j hjl)
          have R0 : Hid (Own (wj.alloc (.cells #[] 3)) wj.heap.size (.slice (some ⟨wj.heap.size, 0, none⟩) 0 0) (M 0)) := Lib.hid (by rw [M0.out]; exact own_made' wj)
          have BJ0 := Lib.hid (below_grow wj (.cells #[] 3))
          have hjlm : (j : Int) < (m : Int) := by omega
          clear hly hcy hcellsy hM hJ
          go_wp2
          go_loopw [9, 10] (fun x i wr => ∃ q : Nat, q ≤ lx ∧ i = .int .i64 q ∧ Hid (Own wr wj.heap.size x (M q)) ∧ Hid (Below wj.heap.size wj wr)) (fun _ i _ => lx - (intOf i).toNat)
          case atStart => exact ⟨0, by omega, rfl, R0, BJ0⟩
          case round =>
            obtain ⟨q, hq, rfl, hR, hBq⟩ := hrel
            obtain ⟨wq, rfl⟩ : ∃ wq : World, wq = wr := ⟨_, rfl⟩
            clear R0 BJ0
            have ca1 := HAK.out _ (Below.on hB2.out hBq.out)
            by_cases hql : q < lx
            · obtain ⟨XA, rfl, hxa⟩ := HAC.out q hql
              have HXA := Lib.hid hxa
              obtain ⟨xq, hxq⟩ : ∃ xq, nth (row a k) q = xq := ⟨_, rfl⟩
              have bxq := RA.out.2 q (by rw [HLX.out]; exact hql)
              have N1 : Hid (∀ h, J q (h + 1) = J q h ++ [xq * nth (row b j) h]) := Lib.hid (fun h => by rw [MI1.out, hxq])
              have NL := Lib.hid (fun h (hh : h < ly) => ML.out q h hql hh)
              have NM := Lib.hid (MIm.out q)
              have R1 : Hid (Own wq wj.heap.size u9 (J q 0)) := Lib.hid (by rw [MI0.out]; exact hR.out)
              rw [hxq] at HXA bxq
              have hqlm : (q : Int) < (lx : Int) := by omega
              clear hxa hxq hR
              go_wp2
              clear ca1
              go_loopw [9, 11] (fun x i wr => ∃ p : Nat, p ≤ ly ∧ i = .int .i64 p ∧ Hid (Own wr wj.heap.size x (J q p)) ∧ Hid (Below wj.heap.size wj wr)) (fun _ i _ => ly - (intOf i).toNat)
              case atStart => exact ⟨0, by omega, rfl, R1, hBq⟩
              case round =>
                obtain ⟨p, hp, rfl, hR2, hBp⟩ := hrel
                obtain ⟨wp, rfl⟩ : ∃ wp : World, wp = wr := ⟨_, rfl⟩
                clear R1 hBq
                have cb1 := HBK.out _ (Below.on hB2.out hBp.out)
                by_cases hpl : p < ly
                · obtain ⟨XB, rfl, hxb⟩ := HBC.out p hpl
                  have HXB := Lib.hid hxb
                  obtain ⟨yp, hyp⟩ : ∃ yp, nth (row b j) p = yp := ⟨_, rfl⟩
                  have byp := RB.out.2 p (by rw [HLY.out]; exact hpl)
                  have P1 := Lib.hid (N1.out p)
                  rw [hyp] at HXB byp P1
                  obtain ⟨p1, p2⟩ := bit_mul bxq byp
                  obtain ⟨z, hz⟩ : ∃ z, xq * yp = z := ⟨_, rfl⟩
                  have hz1 : IntKind.wrap .i64 (xq * yp) = z := by rw [hz]; exact wrap_small _ (by omega) (by omega)
                  rw [hz] at P1
                  have HLZ := Lib.hid (NL.out p hpl)
                  have hplm : (p : Int) < (ly : Int) := by omega
                  have HK : Hid (Kp wj wj.heap.size u9 (J q p) z none wp.drew) := Lib.hid (Kp.on (w1 := wp) ⟨hBp.out, hBp.out.size, hR2.out⟩ (Below.refl _ _).drew)
                  have HBY : Hid (∀ zz w', Kp wj wj.heap.size u9 (J q p) z zz w' → Below w.heap.size w w') := Lib.hid fun zz w' h => Below.on hB2.out h.below.1
                  clear hxb hyp hz p1 p2 hR2 byp
                  go_wp2_with fail
                  clear cb1
                  apply wp_region_H (S := fun k => k == 16 || k == 17) (C := fun zz w' => Hid (Kp wj wj.heap.size u9 (J q p) z zz w')) [0, 1, 2, 3, 4, 5, 6, 7, 8, 9, 10, 11, 12, 13, 14, 15] none
                  · kernel_rfl
                  · kernel_rfl
                  · kernel_rfl
                  · exact ⟨rfl, rfl, rfl, rfl, rfl, rfl, rfl, rfl, rfl, rfl, rfl, rfl, rfl, rfl, rfl, rfl, trivial⟩
                  · rfl
                  · decide
                  · exact HK
                  · intro zz
                    dsimp only [pickL, nthO]
                    repeat (first | go_big_quiet_skip | (go_big_quiet_want; go_big_quiet_op; first | go_big_quiet_on | (refine ⟨_, fun _ _ => rfl, ?_⟩; go_big_quiet_on)))
                    go_big_quiet_want
                    go_big_quiet_op
                    refine ⟨.slice (some ⟨XA, 0, none⟩) lx cx, fun w' hw' => ?_, ?_⟩
                    · have q := HAK.out w' (HBY.out _ _ hw'.out)
                      simp [go_sem, q]
                    go_big_quiet_on
                    repeat (first | go_big_quiet_skip | (go_big_quiet_want; go_big_quiet_op; first | go_big_quiet_on | (refine ⟨_, fun _ _ => rfl, ?_⟩; go_big_quiet_on)))
                    go_big_quiet_want
                    go_big_quiet_op
                    refine ⟨.int .i64 xq, fun w' hw' => ?_, ?_⟩
                    · have q := HXA.out w' (HBY.out _ _ hw'.out)
                      simp [go_sem, q]
                    go_big_quiet_on
                    repeat (first | go_big_quiet_skip | (go_big_quiet_want; go_big_quiet_op; first | go_big_quiet_on | (refine ⟨_, fun _ _ => rfl, ?_⟩; go_big_quiet_on)))
                    go_big_quiet_want
                    go_big_quiet_op
                    refine ⟨.slice (some ⟨XB, 0, none⟩) ly cy, fun w' hw' => ?_, ?_⟩
                    · have q := HBK.out w' (HBY.out _ _ hw'.out)
                      simp [go_sem, q]
                    go_big_quiet_on
                    repeat (first | go_big_quiet_skip | (go_big_quiet_want; go_big_quiet_op; first | go_big_quiet_on | (refine ⟨_, fun _ _ => rfl, ?_⟩; go_big_quiet_on)))
                    go_big_quiet_want
                    go_big_quiet_op
                    refine ⟨.int .i64 yp, fun w' hw' => ?_, ?_⟩
                    · have q := HXB.out w' (HBY.out _ _ hw'.out)
                      simp [go_sem, q]
                    go_big_quiet_on
                    repeat (first | go_big_quiet_skip | (go_big_quiet_want; go_big_quiet_op; first | go_big_quiet_on | (refine ⟨_, fun _ _ => rfl, ?_⟩; go_big_quiet_on)))
                    exact wpQuiet_nil rfl
                  · refine wpAnyH_special (i := 16) (d := some 69) rfl (by kernel_rfl) rfl rfl (by kernel_rfl) fun wa hc => ⟨.slice (some ⟨wa.heap.size, 0, none⟩) 1 1, wa.alloc (.cells #[.int .i64 z] 3), some (.inl wa.heap.size), .inl (by first | kernel_rfl | simp [go_sem, hz1]), Lib.hid (Kp.build hc.out), ?_⟩
                    clear hc
                    have hlz := HLZ.out
                    refine wpAnyH_app (i := 17) (d := some 70) (v := u9) (xs := J q p) (y := z) (B := wj.heap.size) (N := wa.heap.size) (.tmp 53) (.tmp 69) rfl (by kernel_rfl) rfl rfl (by kernel_rfl) rfl rfl rfl fun wb hc => ⟨hc.out.2.2.1, by omega, hc.out.2.1, hc.out.2.2.2, fun v' wc o4 g4 => ⟨some (.inr v'), Lib.hid (hc.out.app o4 g4), ?_⟩⟩
                    clear hc o4 g4 hlz
                    refine wpAnyH_assign (i := 18) (d := some 9) _ rfl (by kernel_rfl) rfl rfl (by kernel_rfl) rfl ?_
                    refine ⟨by kernel_rfl, fun w3 hw3 => ?_⟩
                    simp only [Act.put, Act.eval]
                    have R3 : Hid (Own w3 wj.heap.size v' (J q (p + 1))) := Lib.hid (by rw [P1.out]; exact hw3.out.2.2)
                    have B3 : Hid (Below wj.heap.size wj w3) := Lib.hid hw3.out.1
                    clear hw3 HK HBY hz1
                    go_wp2
                    go_roundw
                    case rel => exact ⟨p + 1, by omega, by go_num, R3, B3⟩
                    case measure => simp [intOf]; omega
                · obtain rfl : p = ly := by omega
                  have R3 : Hid (Own wp wj.heap.size u9 (M (q + 1))) := Lib.hid (by rw [← NM.out]; exact hR2.out)
                  clear hR2
                  go_wp2
                  go_roundw
                  case rel => exact ⟨q + 1, by omega, by go_num, R3, hBp⟩
                  case measure => simp [intOf]; omega
            · obtain rfl : q = lx := by omega
              have hrv : Own wq wj.heap.size u9 (mulRow (row a k) (row b j)) := by rw [MX.out]; exact hR.out
              obtain ⟨ar, cr, hur⟩ := hrv.form
              subst hur
              have HRV := Lib.hid hrv
              obtain ⟨us, ho⟩ := hO2.out
              have HO := Lib.hid ho
              have hul : us.length < 1000000000 := by have := ho.len; have := JLJ.out; omega
              have hou := (ho.on hBq.out).outer
              have hlo := Nat.le_trans hB2.out.size hBq.out.size
              clear ho hrv hO2 hR
              go_wp2_with (at_builtin; refine wpAppRow rfl _ _ rfl rfl hou (by omega) hlo rfl rfl ?_)
              intro v5 w5 o5 g5 k5
              have O5 : Hid (∃ us, OwnSS w5 w.heap.size w5.heap.size v5 us (I k (j + 1))) := Lib.hid ⟨_, by rw [JJ.out]; exact HO.out.next hB2.out.size hBq.out HRV.out (by simpa using o5) g5 k5⟩
              have B5 := Lib.hid ((Below.on hB2.out hBq.out).grown g5 hlo (fun b hb => (HO.out.outer.lt b hb).1))
              clear o5 g5 k5 hou hlo hul HO HRV hB2 hBq ca1
              go_wp2
              go_roundw
              case rel => exact ⟨j + 1, by omega, by go_num, O5, B5⟩
              case measure => simp [intOf]; omega
        · obtain rfl : j = m := by omega
          have O2 : Hid (∃ us, OwnSS wj w.heap.size wj.heap.size u6 us (T (k + 1))) := Lib.hid (by rw [← JM.out]; exact hO2.out)
          clear hO2
          go_wp2
          go_roundw
          case rel => exact ⟨k + 1, by omega, by go_num, O2, hB2⟩
          case measure => simp [intOf]; omega
    · obtain rfl : k = n := by omega
      obtain ⟨us, ho⟩ := hO.out
      rw [HT.out] at ho
      have HO := Lib.hid ho
      clear ho hO
      cases ht : tabB (timT a b)
      · have hk : ttB a b = false := ttB_false fun kk => by
          rw [tabB_true.2 ((tim_tab kk.ta kk.tb).2 ⟨kk.r, kk.c⟩)] at ht; cases ht
        have HX := Lib.hid hk
        have HY := Lib.hid (ttL_no hk)
        clear hk
        go_wp2_with fail
        refine (stab_is ht (timT_ints HTA.out HTB.out HO.out)).mono ?_
        rintro e w3 ⟨rfl, hb⟩
        have B3 := Lib.hid (Below.on hB.out hb)
        clear hb
        have O4 := Lib.hid ((ownSS_zero w3).lower B3.out.size)
        have B4 := Lib.hid (Below.on B3.out (below_grow w3 (.cells #[] 30)))
        clear ht
        go_wp2
        go_ret2
        exact ⟨_, [], by rw [HX.out]; rfl, by rw [HY.out]; exact O4.out, B4.out⟩
      · have hk : ttB a b = true := ttB_true.2 ⟨HTA.out, HTB.out, ((tim_tab HTA.out HTB.out).1 (tabB_true.1 ht)).1, ((tim_tab HTA.out HTB.out).1 (tabB_true.1 ht)).2⟩
        have HX := Lib.hid hk
        have HY := Lib.hid (ttL_yes hk)
        clear hk
        go_wp2_with fail
        refine (stab_is ht (timT_ints HTA.out HTB.out HO.out)).mono ?_
        rintro e w3 ⟨rfl, hb⟩
        have B3 := Lib.hid (Below.on hB.out hb)
        have O3 := Lib.hid (HO.out.grew hb)
        clear hb ht
        go_wp2
        go_ret2
        exact ⟨_, us, by rw [HX.out]; rfl, by rw [HY.out]; exact O3.out, B3.out⟩

theorem sttb_any (va vb : Value) (a b : List (List Int)) (w : World) (h : IntSS w va a) (h' : IntSS w vb b) : Calls Try.prog 10 #[va, vb] w (TtPost a b w) := by
  cases ha : tabB a
  · exact sttb_no1 va vb a b w h ha
  cases hb : tabB b
  · exact sttb_no2 va vb a b w h h' ha hb
  exact sttb_both va vb a b w h h' ha hb
end Go.Proofs.Ytndknjjafoebhab
