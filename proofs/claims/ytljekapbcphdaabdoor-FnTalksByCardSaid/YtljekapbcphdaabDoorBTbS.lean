/- TbQ, TbS, TbM, in one text. -/
import Derived.Test.YtljekapbcphdaabDoorTbP
import Derived.Sort.LotA
import Derived.Test.YtljekapbcphdaabDoorSofS
import Derived.Test.YtljekapbcphdaabDoorKysI
import Derived.Test.YtljekapbcphdaabDoorSmyI
/- An insertion sort of numbers, as plain mathematics: the kit's own, and that it sorts. -/
namespace Go.Proofs.YtljekapbcphdaabDoor

abbrev ltI : Int → Int → Bool := fun x y => decide (x < y)
theorem swoI : Sort.SWO ltI where
  irrefl x := by simp [ltI]
  trans x y z h1 h2 := by simp [ltI] at *; omega
  ntrans x y z h1 h2 := by simp [ltI] at *; omega
theorem antiI (x y : Int) (h1 : ltI x y = false) (h2 : ltI y x = false) : x = y := by
  simp [ltI] at h1 h2; omega
theorem sortedI_is (d d' : Array Int) (hp : Sort.PermIn 0 d.size d d') (hs : Sort.SortedIn ltI 0 d.size d') : d'.toList = sortI d.toList := by
  have h := Sort.sorted_unique_holds swoI antiI d d' hp hs
  rw [h]
  unfold sortI
  congr 1
  funext x y
  by_cases h : y < x
  · simp [ltI, h]
  · simp [ltI, h]; omega
theorem outerI_on {n k : Nat} {D : Array Int} (h : k < n) : Sort.insOuter ltI 0 n k D = Sort.insOuter ltI 0 n (k + 1) (Sort.insInner ltI 0 k D) := by
  conv => lhs; unfold Sort.insOuter
  rw [if_pos h]
theorem outerI_end {n k : Nat} {D : Array Int} (h : ¬ k < n) : Sort.insOuter ltI 0 n k D = D := by
  unfold Sort.insOuter
  rw [if_neg h]
theorem innerI_yes {i : Nat} {D : Array Int} (h : D[i + 1]! < D[i]!) : Sort.insInner ltI 0 (i + 1) D = Sort.insInner ltI 0 i (Sort.swp D (i + 1) i) := by
  show (if i + 1 > 0 && ltI D[i + 1]! D[i]! then _ else _) = _
  rw [show ltI D[i + 1]! D[i]! = true from decide_eq_true h]
  simp
theorem innerI_no {i : Nat} {D : Array Int} (h : ¬ D[i + 1]! < D[i]!) : Sort.insInner ltI 0 (i + 1) D = D := by
  show (if i + 1 > 0 && ltI D[i + 1]! D[i]! then _ else _) = _
  rw [show ltI D[i + 1]! D[i]! = false from decide_eq_false h]
  simp
theorem insI_is (d : List Int) : (Sort.insOuter ltI 0 d.length 1 d.toArray).toList = sortI d := by
  have h := Sort.insertionSort_holds swoI d.toArray 0 d.length (Nat.zero_le _) (by simp)
  have := sortedI_is d.toArray (Sort.insertionSort ltI d.toArray 0 d.length) (by simpa using h.1) (by simpa using h.2)
  simpa [Sort.insertionSort] using this
theorem nth_arr {D : Array Int} {i : Nat} (h : i < D.size) : nth D.toList i = D[i]! := by
  rw [nth_get (by simpa using h), getElem!_pos D i h]; exact Array.getElem_toList ..
end Go.Proofs.YtljekapbcphdaabDoor

/- spec.TalksBy: all numbers of free exponents, the talks, their numbers, sorted in place. -/
namespace Go.Proofs.YtljekapbcphdaabDoor
open Go.RowKit

theorem ssof_is {keys secrets first second : List Int} {need ask : Int} {r : Bool} (hr : sofB 0 keys need secrets first second ask = r) (kv sv fv gv : Value) (w : World) (hk : Ints w kv keys) (hs : Ints w sv secrets) (hf : Ints w fv first) (hg : Ints w gv second) :
    Calls Tryd.prog 82 #[.int .i64 0, kv, .int .i64 need, sv, fv, gv, .int .i64 ask] w fun e w' => ∃ sv xv tv, e = .returned (.tuple #[.agg #[sv, .int .i64 (sQ r ask), xv, tv], .bool r]) ∧ OwnS w' w.heap.size w'.heap.size sv xv tv (sL r (mapTo (sofS 0 keys secrets first second) keys.length)) (sL r (mapTo (sofX 0 secrets first ask keys.length) keys.length)) (sL r (mapTo (sofT 0 secrets first second ask keys.length) keys.length)) ∧ Below w.heap.size w w' := by
  have := ssof_any 0 need ask kv sv fv gv keys secrets first second w hk hs hf hg
  rwa [hr] at this
theorem skeys_is {g need : Int} {xs : List Int} {r : Bool} (hr : kysB g xs need = r) (v : Value) (w : World) (h : Ints w v xs) : Calls Tryd.prog 81 #[.int .i64 g, v, .int .i64 need] w fun e w' => e = .returned (.bool r) ∧ Below w.heap.size w w' := by rw [← hr]; exact skeys_any g need v xs w h
/-- Two lists of digits, apart from each other, in memory of their own. -/
structure Dg (wj : World) (a b : Value) (xs ys : List Int) (w : World) : Prop where
  oa : Own w wj.heap.size a xs
  ob : Own w wj.heap.size b ys
  ap : ∀ k, a.ownBlock = some k → b.ownBlock = some k → False
  bl : Below wj.heap.size wj w
theorem Dg.start (w : World) : Dg w (.slice (some ⟨w.heap.size, 0, none⟩) 0 0) (.slice (some ⟨w.heap.size + 1, 0, none⟩) 0 0) [] [] ((w.alloc (.cells #[] 3)).alloc (.cells #[] 3)) := by
  have h1 := own_made w 3 rfl
  have h2 := own_made (w.alloc (.cells #[] 3)) 3 rfl
  refine ⟨own_below h1 (below_grow _ _), own_mono (by simpa using h2) (by simp), fun k e1 e2 => ?_, (below_grow w _).trans ((below_grow _ _).mono (by simp))⟩
  simp [Value.ownBlock] at e1 e2
  omega
theorem Dg.first {wj w w' : World} {a b a' : Value} {xs ys : List Int} {y : Int} (h : Dg wj a b xs ys w) (ho : Own w' wj.heap.size a' (xs ++ [y])) (hg : w.grownBy w' a.ownBlock) (hk : a'.ownBlock = a.ownBlock ∨ ∃ k, a'.ownBlock = some k ∧ w.heap.size ≤ k) : Dg wj a' b (xs ++ [y]) ys w' :=
  ⟨ho, own_stay h.ob hg (fun k e1 e2 => h.ap k e2 e1), fun k e1 e2 => by
    rcases hk with hk | ⟨m, hm, hl⟩
    · exact h.ap k (by rw [← hk]; exact e1) e2
    · rw [hm] at e1; cases e1; have := (h.ob.lt k e2).2; omega, h.bl.grown hg h.bl.size (fun k hk => (h.oa.lt k hk).1)⟩
theorem Dg.second {wj w w' : World} {a b b' : Value} {xs ys : List Int} {y : Int} (h : Dg wj a b xs ys w) (ho : Own w' wj.heap.size b' (ys ++ [y])) (hg : w.grownBy w' b.ownBlock) (hk : b'.ownBlock = b.ownBlock ∨ ∃ k, b'.ownBlock = some k ∧ w.heap.size ≤ k) : Dg wj a b' xs (ys ++ [y]) w' :=
  ⟨own_stay h.oa hg h.ap, ho, fun k e1 e2 => by
    rcases hk with hk | ⟨m, hm, hl⟩
    · exact h.ap k e1 (by rw [← hk]; exact e2)
    · rw [hm] at e2; cases e2; have := (h.oa.lt k e1).2; omega, h.bl.grown hg h.bl.size (fun k hk => (h.ob.lt k hk).1)⟩
theorem own_slice9 {w : World} {B : Nat} {v : Value} {xs : List Int} (h : Own w B v xs) (hx : 0 < xs.length) : ∃ g c, v = .slice (some ⟨g, 0, none⟩) xs.length c := by
  rcases id h.2 with ⟨rfl, hn⟩ | ⟨g, cap, cur, rfl, _⟩
  · omega
  · exact ⟨g, cap, rfl⟩
/-- A list that is sorted in place, and what was there before. -/
def Ls9 (w : World) (v : Value) (D : Array Int) (w' : World) : Prop := Own w' w.heap.size v D.toList ∧ Below w.heap.size w w'
theorem Ls9.on {w : World} {v : Value} {D : Array Int} {w1 w2 : World} (h : Ls9 w v D w1) (hb : Below w1.heap.size w1 w2) : Ls9 w v D w2 := ⟨own_below h.1 hb, Below.on h.2 hb⟩

set_option maxHeartbeats 6400000 in
set_option maxRecDepth 20000 in
theorem stby_any (kv sv : Value) (keys secrets : List Int) (need ask : Int) (w : World) (hk : Ints w kv keys) (hs : Ints w sv secrets) :
    Calls Tryd.prog 38 #[kv, .int .i64 need, sv, .int .i64 ask] w fun e w' => ∃ v, e = .returned v ∧ Own w' w.heap.size v (tby keys need secrets ask) ∧ Below w.heap.size w w' := by
  have HIK0 := Lib.hid hk
  have HIS0 := Lib.hid hs
  obtain ⟨ka, kc, rfl, hka⟩ := hk.opened
  obtain ⟨sa, sc, rfl, hsa⟩ := hs.opened
  clear hk hs hka hsa
  obtain ⟨m, hm⟩ : ∃ m, keys.length = m := ⟨_, rfl⟩
  obtain ⟨ns, hns⟩ : ∃ ns, secrets.length = ns := ⟨_, rfl⟩
  have HIK : Hid (Ints w (.slice ka m kc) keys) := Lib.hid (by rw [← hm]; exact HIK0.out)
  have HIS : Hid (Ints w (.slice sa ns sc) secrets) := Lib.hid (by rw [← hns]; exact HIS0.out)
  rw [hm, hns]
  clear HIK0 HIS0
  cases hky : kysB 0 keys need
  · have HX := Lib.hid (tby_no (secrets := secrets) (ask := ask) hky)
    have HK : Hid (kysB 0 keys need = false) := Lib.hid hky
    clear hky hm hns
    go_enter Tryd.func38, Tryd.ntmps38
    go_wp2_with fail
    refine (skeys_is HK.out _ _ (HIK.out.below (below_grow _ _))).mono ?_
    rintro e w1 ⟨rfl, hb⟩
    have OE : Hid (Own w1 w.heap.size (.slice (some ⟨w.heap.size, 0, none⟩) 0 0) []) := Lib.hid (own_below (own_made w 3 rfl) hb)
    have B1 : Hid (Below w.heap.size w w1) := Lib.hid (Below.on (below_grow _ _) hb)
    clear hb
    go_wp2
    go_ret
    exact ⟨_, rfl, by rw [HX.out]; exact OE.out, B1.out⟩
  · have h12 := kys_two hky
    rw [hm] at h12
    have hm2 : m ≤ 2 := by omega
    have HK : Hid (kysB 0 keys need = true) := Lib.hid hky
    by_cases hne : ns = m
    rotate_left
    · have HX := Lib.hid (tby_len_no (keys := keys) (need := need) (secrets := secrets) (ask := ask) (by rw [hm, hns]; exact hne))
      have hnz : ((ns : Int) != (m : Int)) = true := by simp; omega
      have hm3 : decide ((2 : Int) < (m : Int)) = false := by simp; omega
      clear hky hm hns h12 hne
      go_enter Tryd.func38, Tryd.ntmps38
      go_wp2_with fail
      refine (skeys_is HK.out _ _ (HIK.out.below (below_grow _ _))).mono ?_
      rintro e w1 ⟨rfl, hb⟩
      have OE : Hid (Own w1 w.heap.size (.slice (some ⟨w.heap.size, 0, none⟩) 0 0) []) := Lib.hid (own_below (own_made w 3 rfl) hb)
      have B1 : Hid (Below w.heap.size w w1) := Lib.hid (Below.on (below_grow _ _) hb)
      clear hb
      go_wp2
      go_ret
      exact ⟨_, rfl, by rw [HX.out]; exact OE.out, B1.out⟩
    · have hnz : ((ns : Int) != (m : Int)) = false := by simp; omega
      have hm3 : decide ((2 : Int) < (m : Int)) = false := by simp; omega
      obtain ⟨f, hf⟩ : ∃ f, f = fnS keys need secrets ask := ⟨_, rfl⟩
      obtain ⟨N, hN⟩ : ∃ N, 9 ^ m = N := ⟨_, rfl⟩
      have hN81 : N ≤ 81 := by
        rw [← hN]
        rcases h12 with e | e <;> rw [e] <;> decide
      have HX : Hid (tby keys need secrets ask = sortI (colTo f N)) := Lib.hid (by rw [tby_S hky, hf, hm, hN])
      have HNO := Lib.hid (show ∀ k, sofB 0 keys need secrets (mapTo (fun i => ((k / 9 ^ i % 3 : Nat) : Int)) m) (mapTo (fun i => ((k / 9 ^ i / 3 % 3 : Nat) : Int)) m) ask = false → colTo f (k + 1) = colTo f k from fun k h => colTo_no (by rw [hf]; unfold fnS pS fiS seS; rw [hm]; exact pk_no h))
      have HYES := Lib.hid (show ∀ k, sofB 0 keys need secrets (mapTo (fun i => ((k / 9 ^ i % 3 : Nat) : Int)) m) (mapTo (fun i => ((k / 9 ^ i / 3 % 3 : Nat) : Int)) m) ask = true → colTo f (k + 1) = colTo f k ++ [codeTo (mapTo (sofS 0 keys secrets (mapTo (fun i => ((k / 9 ^ i % 3 : Nat) : Int)) m) (mapTo (fun i => ((k / 9 ^ i / 3 % 3 : Nat) : Int)) m)) m) (mapTo (sofX 0 secrets (mapTo (fun i => ((k / 9 ^ i % 3 : Nat) : Int)) m) ask m) m) (mapTo (sofT 0 secrets (mapTo (fun i => ((k / 9 ^ i % 3 : Nat) : Int)) m) (mapTo (fun i => ((k / 9 ^ i / 3 % 3 : Nat) : Int)) m) ask m) m) m] from fun k h => colTo_yes (by rw [hf]; unfold fnS pS fiS seS; rw [hm]; refine (pk_yes h).trans ?_; unfold cdO; rw [hm]))
      have HDIG := Lib.hid (show ∀ k, sofB 0 keys need secrets (mapTo (fun i => ((k / 9 ^ i % 3 : Nat) : Int)) m) (mapTo (fun i => ((k / 9 ^ i / 3 % 3 : Nat) : Int)) m) ask = true → Digs (mapTo (sofS 0 keys secrets (mapTo (fun i => ((k / 9 ^ i % 3 : Nat) : Int)) m) (mapTo (fun i => ((k / 9 ^ i / 3 % 3 : Nat) : Int)) m)) m) (mapTo (sofX 0 secrets (mapTo (fun i => ((k / 9 ^ i % 3 : Nat) : Int)) m) ask m) m) (mapTo (sofT 0 secrets (mapTo (fun i => ((k / 9 ^ i % 3 : Nat) : Int)) m) (mapTo (fun i => ((k / 9 ^ i / 3 % 3 : Nat) : Int)) m) ask m) m) m from fun k h => by have := sof_digs h; rwa [hm] at this)
      have HP0 := Lib.hid (show ∀ k, k < m → ∃ c : Nat, 9 ^ k = c ∧ c ≤ 9 ∧ 9 ^ (k + 1) = c * 9 from fun k hk => ⟨_, rfl, by
        have : k = 0 ∨ k = 1 := by omega
        rcases this with rfl | rfl <;> decide, Nat.pow_succ ..⟩)
      have HN := Lib.hid hN
      have HM := Lib.hid hm
      have HNS := Lib.hid hne
      clear hky hm hns h12 hf hN hne
      go_enter Tryd.func38, Tryd.ntmps38
      go_wp2_with fail
      refine (skeys_is HK.out _ _ (HIK.out.below (below_grow _ _))).mono ?_
      rintro e w1 ⟨rfl, hb⟩
      have OE : Hid (Own w1 w.heap.size (.slice (some ⟨w.heap.size, 0, none⟩) 0 0) (colTo f 0)) := Lib.hid (own_below (own_made w 3 rfl) hb)
      have B1 : Hid (Below w.heap.size w w1) := Lib.hid (Below.on (below_grow _ _) hb)
      clear hb
      go_wp2
      go_loopw [10, 11] (fun a i wr => ∃ k c : Nat, k ≤ m ∧ i = .int .i64 k ∧ a = .int .i64 c ∧ Hid (9 ^ k = c) ∧ wr = w1) (fun _ i _ => m - (intOf i).toNat)
      case atStart => exact ⟨0, 1, by omega, rfl, rfl, Lib.hid rfl, rfl⟩
      case round =>
        obtain ⟨k, c, hk, rfl, rfl, hc, rfl⟩ := hrel
        by_cases hlt : k < m
        · have hlt1 : (k : Int) < (m : Int) := by omega
          obtain ⟨c2, h1, h2, h3⟩ := HP0.out k hlt
          have hcc : c ≤ 9 := by have := hc.out; omega
          have H3 : Hid (9 ^ (k + 1) = c * 9) := Lib.hid (by rw [h3, ← h1, hc.out])
          clear h1 h2 h3
          go_wp2
          go_roundw
          case rel => exact ⟨k + 1, c * 9, by omega, by go_num, by go_num, H3, by first | rfl | trivial⟩
          case measure => simp [intOf]; omega
        · obtain rfl : k = m := by omega
          have hcN : c = N := by rw [← hc.out]; exact HN.out
          clear hc
          subst hcN
          go_wp2
          go_loopw [9, 12] (fun v i wr => ∃ n : Nat, n ≤ c ∧ i = .int .i64 n ∧ Hid (Own wr w.heap.size v (colTo f n)) ∧ Hid (Below w.heap.size w wr)) (fun _ i _ => c - (intOf i).toNat)
          case atStart => exact ⟨0, by omega, rfl, OE, B1⟩
          case round =>
            obtain ⟨n, hn, rfl, hO, hB⟩ := hrel
            obtain ⟨wj, rfl⟩ : ∃ wj : World, wj = wr := ⟨_, rfl⟩
            clear OE B1
            by_cases hltn : n < c
            · have hltn1 : (n : Int) < (c : Int) := by omega
              have D0 := Lib.hid (Dg.start wj)
              go_wp2
              go_loopw [13, 14, 15, 16] (fun fv gv r i wr => ∃ j R : Nat, j ≤ k ∧ i = .int .i64 j ∧ r = .int .i64 R ∧ R ≤ 81 ∧ Hid (R = n / 9 ^ j) ∧ Hid (Dg wj fv gv (mapTo (fun i => ((n / 9 ^ i % 3 : Nat) : Int)) j) (mapTo (fun i => ((n / 9 ^ i / 3 % 3 : Nat) : Int)) j) wr)) (fun _ _ _ i _ => k - (intOf i).toNat)
              case atStart => exact ⟨0, n, by omega, rfl, rfl, by omega, Lib.hid (by simp), D0⟩
              case round =>
                obtain ⟨j, R, hj, rfl, rfl, hR81, hR, hD⟩ := hrel
                obtain ⟨w3, rfl⟩ : ∃ w3 : World, w3 = wr := ⟨_, rfl⟩
                clear D0
                by_cases hjl : j < k
                · have hjl1 : (j : Int) < (k : Int) := by omega
                  have hl1 : (mapTo (fun i => ((n / 9 ^ i % 3 : Nat) : Int)) j).length < 1000000000 := by rw [mapTo_len]; omega
                  have hl2 : (mapTo (fun i => ((n / 9 ^ i / 3 % 3 : Nat) : Int)) j).length < 1000000000 := by rw [mapTo_len]; omega
                  have oa := hD.out.oa
                  have za := hD.out.bl.size
                  go_wp2_with (at_builtin; refine wpAppInt rfl _ _ rfl rfl oa hl1 za rfl ?_)
                  intro v4 w4 o4 g4 k4
                  have D4 := Lib.hid (hD.out.first o4 g4 k4)
                  clear oa za o4 g4 k4 hD
                  have ob := D4.out.ob
                  have zb := D4.out.bl.size
                  go_wp2_with (at_builtin; refine wpAppInt rfl _ _ rfl rfl ob hl2 zb rfl ?_)
                  intro v5 w5 o5 g5 k5
                  have D5 := Lib.hid (D4.out.second o5 g5 k5)
                  clear ob zb o5 g5 k5 D4 hl1 hl2
                  have D6 : Hid (Dg wj v4 v5 (mapTo (fun i => ((n / 9 ^ i % 3 : Nat) : Int)) (j + 1)) (mapTo (fun i => ((n / 9 ^ i / 3 % 3 : Nat) : Int)) (j + 1)) w5) := Lib.hid (by
                    rw [mapTo_succ, mapTo_succ, ← hR.out]; exact D5.out)
                  have HR1 : Hid (R / 9 = n / 9 ^ (j + 1)) := Lib.hid (by rw [hR.out, Nat.div_div_eq_div_mul, Nat.pow_succ])
                  clear D5 hR
                  go_wp2
                  go_roundw
                  case rel => exact ⟨j + 1, R / 9, by omega, by go_num, rfl, by omega, HR1, D6⟩
                  case measure => simp [intOf]; omega
                · obtain rfl : j = k := by omega
                  have DG := hD
                  clear hD hR hR81
                  cases hr : sofB 0 keys need secrets (mapTo (fun i => ((n / 9 ^ i % 3 : Nat) : Int)) j) (mapTo (fun i => ((n / 9 ^ i / 3 % 3 : Nat) : Int)) j) ask
                  · skip
                    have HR : Hid (sofB 0 keys need secrets (mapTo (fun i => ((n / 9 ^ i % 3 : Nat) : Int)) j) (mapTo (fun i => ((n / 9 ^ i / 3 % 3 : Nat) : Int)) j) ask = false) := Lib.hid hr
                    clear hr
                    go_wp2_with fail
                    have cc := ssof_is HR.out (.slice ka j kc) (.slice sa ns sc) _ _ w3 (HIK.out.below (Below.on hB.out DG.out.bl)) (HIS.out.below (Below.on hB.out DG.out.bl)) (Ints.of_own DG.out.oa (by rw [mapTo_len]; unfold maxLen; omega)) (Ints.of_own DG.out.ob (by rw [mapTo_len]; unfold maxLen; omega))
                    rw [HM.out, show sQ false ask = 0 from rfl] at cc
                    refine cc.mono ?_
                    rintro e w4 ⟨sv, xv, tv, rfl, o1, hb⟩
                    obtain ⟨s9, n9, x1⟩ := o1.s.form
                    obtain ⟨x9, k9, x2⟩ := o1.x.form
                    obtain ⟨t9, m9, x3⟩ := o1.t.form
                    rw [show (sL false (mapTo (sofS 0 keys secrets (mapTo (fun i => ((n / 9 ^ i % 3 : Nat) : Int)) j) (mapTo (fun i => ((n / 9 ^ i / 3 % 3 : Nat) : Int)) j)) j)).length = 0 from rfl] at x1
                    rw [show (sL false (mapTo (sofX 0 secrets (mapTo (fun i => ((n / 9 ^ i % 3 : Nat) : Int)) j) ask j) j)).length = 0 from rfl] at x2
                    rw [show (sL false (mapTo (sofT 0 secrets (mapTo (fun i => ((n / 9 ^ i % 3 : Nat) : Int)) j) (mapTo (fun i => ((n / 9 ^ i / 3 % 3 : Nat) : Int)) j) ask j) j)).length = 0 from rfl] at x3
                    subst x1 x2 x3
                    have B4 := Lib.hid (Below.on hB.out (Below.on DG.out.bl hb))
                    have O4 : Hid (Own w4 w.heap.size u9 (colTo f n)) := Lib.hid (own_below hO.out (Below.on DG.out.bl hb))
                    have OS := Lib.hid o1
                    clear o1 hb cc DG hO hB
                    have hn := Lib.hid (HNO.out n HR.out)
                    have B5 := Lib.hid (Below.on B4.out (below_grow w4 (.cells #[.slice s9 0 n9, .int .i64 0, .slice x9 0 k9, .slice t9 0 m9] 75)))
                    have O5 : Hid (Own (w4.alloc (.cells #[.slice s9 0 n9, .int .i64 0, .slice x9 0 k9, .slice t9 0 m9] 75)) w.heap.size u9 (colTo f (n + 1))) := Lib.hid (by rw [hn.out]; exact own_below O4.out (below_grow _ _))
                    clear O4 B4 OS
                    go_wp2
                    go_roundw
                    case rel => exact ⟨n + 1, by omega, by go_num, O5, B5⟩
                    case measure => simp [intOf]; omega
                  · skip
                    have HR : Hid (sofB 0 keys need secrets (mapTo (fun i => ((n / 9 ^ i % 3 : Nat) : Int)) j) (mapTo (fun i => ((n / 9 ^ i / 3 % 3 : Nat) : Int)) j) ask = true) := Lib.hid hr
                    clear hr
                    go_wp2_with fail
                    have cc := ssof_is HR.out (.slice ka j kc) (.slice sa ns sc) _ _ w3 (HIK.out.below (Below.on hB.out DG.out.bl)) (HIS.out.below (Below.on hB.out DG.out.bl)) (Ints.of_own DG.out.oa (by rw [mapTo_len]; unfold maxLen; omega)) (Ints.of_own DG.out.ob (by rw [mapTo_len]; unfold maxLen; omega))
                    rw [HM.out, show sQ true ask = ask from rfl] at cc
                    refine cc.mono ?_
                    rintro e w4 ⟨sv, xv, tv, rfl, o1, hb⟩
                    obtain ⟨s9, n9, x1⟩ := o1.s.form
                    obtain ⟨x9, k9, x2⟩ := o1.x.form
                    obtain ⟨t9, m9, x3⟩ := o1.t.form
                    rw [show (sL true (mapTo (sofS 0 keys secrets (mapTo (fun i => ((n / 9 ^ i % 3 : Nat) : Int)) j) (mapTo (fun i => ((n / 9 ^ i / 3 % 3 : Nat) : Int)) j)) j)).length = j from mapTo_len _ _] at x1
                    rw [show (sL true (mapTo (sofX 0 secrets (mapTo (fun i => ((n / 9 ^ i % 3 : Nat) : Int)) j) ask j) j)).length = j from mapTo_len _ _] at x2
                    rw [show (sL true (mapTo (sofT 0 secrets (mapTo (fun i => ((n / 9 ^ i % 3 : Nat) : Int)) j) (mapTo (fun i => ((n / 9 ^ i / 3 % 3 : Nat) : Int)) j) ask j) j)).length = j from mapTo_len _ _] at x3
                    subst x1 x2 x3
                    have B4 := Lib.hid (Below.on hB.out (Below.on DG.out.bl hb))
                    have O4 : Hid (Own w4 w.heap.size u9 (colTo f n)) := Lib.hid (own_below hO.out (Below.on DG.out.bl hb))
                    have OS := Lib.hid o1
                    clear o1 hb cc DG hO hB
                    have hy := Lib.hid (HYES.out n HR.out)
                    have HDG := Lib.hid (HDIG.out n HR.out)
                    have hbg := below_grow w4 (.cells #[.slice s9 j n9, .int .i64 ask, .slice x9 j k9, .slice t9 j m9] 75)
                    have II := Lib.hid (And.intro ((Ints.of_own OS.out.s (by show (mapTo _ _).length ≤ maxLen; rw [mapTo_len]; unfold maxLen; omega)).below hbg) (And.intro ((Ints.of_own OS.out.x (by show (mapTo _ _).length ≤ maxLen; rw [mapTo_len]; unfold maxLen; omega)).below hbg) ((Ints.of_own OS.out.t (by show (mapTo _ _).length ≤ maxLen; rw [mapTo_len]; unfold maxLen; omega)).below hbg)))
                    have B5 := Lib.hid (Below.on B4.out hbg)
                    have O5 := Lib.hid (own_below O4.out hbg)
                    clear O4 B4 OS hbg
                    go_wp2_with fail
                    refine (scode_any _ _ _ _ _ _ _ j _ II.out.1 II.out.2.1 II.out.2.2 HDG.out).mono ?_
                    rintro e w6 ⟨rfl, hb⟩
                    have B6 := Lib.hid (Below.on B5.out hb)
                    have o6 := own_below O5.out hb
                    have hl6 := colTo_len f n
                    have z6 := B6.out.size
                    clear hb O5 B5 II
                    go_wp2_with (at_builtin; refine wpAppInt rfl _ _ rfl rfl o6 (by omega) z6 rfl ?_)
                    intro v7 w7 o7 g7 _
                    have O7 : Hid (Own w7 w.heap.size v7 (colTo f (n + 1))) := Lib.hid (by rw [hy.out]; exact o7)
                    have B7 := Lib.hid (B6.out.grown g7 z6 (fun k hk => (o6.lt k hk).1))
                    clear o7 g7 o6 hl6 z6 B6
                    go_wp2
                    go_roundw
                    case rel => exact ⟨n + 1, by omega, by go_num, O7, B7⟩
                    case measure => simp [intOf]; omega
            · obtain rfl : n = c := by omega
              obtain ⟨a9, c9, hu⟩ := hO.out.form
              obtain ⟨L, hL⟩ : ∃ L, (colTo f n).length = L := ⟨_, rfl⟩
              have hL81 : L ≤ 81 := by have := colTo_len f n; omega
              have HRES : Hid ((Sort.insOuter ltI 0 L 1 (colTo f n).toArray).toList = tby keys need secrets ask) := Lib.hid (by rw [HX.out, ← hL]; exact insI_is _)
              rw [hL] at hu
              subst hu
              have HSL := Lib.hid (show 0 < L → ∃ g, a9 = some ⟨g, 0, none⟩ from fun h => by
                obtain ⟨g, c, e⟩ := own_slice9 hO.out (by omega)
                injection e with e _ _
                exact ⟨g, e⟩)
              have M1 : Hid (Ls9 w (.slice a9 L c9) (colTo f n).toArray wj) := Lib.hid ⟨by simpa using hO.out, hB.out⟩
              have HSZ0 : Hid ((colTo f n).toArray.size = L) := Lib.hid (by simpa using hL)
              clear hO hB hL
              go_wp2
              go_loopw [19] (fun x wr => ∃ k : Nat, x = .int .i64 k ∧ 1 ≤ k ∧ k ≤ L + 1 ∧ ∃ D : Array Int, Hid (D.size = L) ∧ Hid ((Sort.insOuter ltI 0 L k D).toList = tby keys need secrets ask) ∧ Hid (Ls9 w (.slice a9 L c9) D wr)) (fun x _ => L + 1 - (intOf x).toNat)
              case atStart => exact ⟨1, rfl, by omega, by omega, (colTo f n).toArray, HSZ0, HRES, M1⟩
              case round =>
                obtain ⟨p, rfl, hp1, hp2, D0, hD0, hres, M⟩ := hrel
                obtain ⟨wo, rfl⟩ : ∃ wo : World, wo = wr := ⟨_, rfl⟩
                clear M1
                by_cases hpl : p < L
                · obtain ⟨g, rfl⟩ := HSL.out (by omega)
                  have hpl1 : (p : Int) < (L : Int) := by omega
                  obtain ⟨TT, hT⟩ : ∃ T, Sort.insInner ltI 0 p D0 = T := ⟨_, rfl⟩
                  have HO : Hid ((Sort.insOuter ltI 0 L (p + 1) TT).toList = tby keys need secrets ask) := Lib.hid (by rw [← hT, ← outerI_on hpl]; exact hres.out)
                  have HT := Lib.hid hT
                  clear hres hT
                  go_wp2
                  go_loopw [20] (fun x wr => ∃ j : Nat, x = .int .i64 j ∧ j ≤ p ∧ ∃ D : Array Int, Hid (D.size = L) ∧ Hid (Sort.insInner ltI 0 j D = TT) ∧ Hid (Ls9 w (.slice (some ⟨g, 0, none⟩) L c9) D wr)) (fun x _ => (intOf x).toNat)
                  case atStart => exact ⟨p, rfl, Nat.le_refl _, D0, hD0, HT, M⟩
                  case round =>
                    obtain ⟨j, rfl, hj, D, hD, hins, MM⟩ := hrel
                    obtain ⟨wq, rfl⟩ : ∃ wq : World, wq = wr := ⟨_, rfl⟩
                    have HD : Hid (Ls9 w (.slice (some ⟨g, 0, none⟩) L c9) D wq.drew) := Lib.hid (MM.out.on (Below.refl _ _).drew)
                    clear M hD0 HT
                    cases j with
                    | zero =>
                      have hTD : TT = D := hins.out.symm
                      subst hTD
                      go_wp2_with fail
                      refine wp_region_class (C := fun w' => Hid (Ls9 w (.slice (some ⟨g, 0, none⟩) L c9) TT w')) (by kernel_rfl) (by kernel_rfl) HD ?_
                      repeat (first | go_big_quiet_skip | (go_big_quiet_want; go_big_quiet_op; first | go_big_quiet_on | (refine ⟨_, fun _ _ => rfl, ?_⟩; go_big_quiet_on)))
                      refine wpQuiet_nil ?_
                      intro w2 M2
                      clear HD MM
                      go_wp2
                      go_roundw
                      case rel => exact ⟨p + 1, by go_num, by omega, by omega, TT, hD, HO, M2⟩
                      case measure => simp [intOf]; omega
                    | succ i =>
                      obtain ⟨xa, hxa⟩ : ∃ x, D[i + 1]! = x := ⟨_, rfl⟩
                      obtain ⟨xb, hxb⟩ : ∃ x, D[i]! = x := ⟨_, rfl⟩
                      have hin : i + 1 < L := by omega
                      have HA1 : Hid (nth D.toList (i + 1) = xa) := Lib.hid (by rw [nth_arr (by rw [hD.out]; exact hin)]; exact hxa)
                      have HA2 : Hid (nth D.toList i = xb) := Lib.hid (by rw [nth_arr (by rw [hD.out]; omega)]; exact hxb)
                      have HLN : Hid (D.toList.length = L) := Lib.hid (by simpa using hD.out)
                      have HAT := Lib.hid (show ∀ w', Ls9 w (.slice (some ⟨g, 0, none⟩) L c9) D w' → w'.cell? ⟨g, i + 1, none⟩ = some (.int .i64 xa) ∧ w'.cell? ⟨g, i, none⟩ = some (.int .i64 xb) from fun w' h => by
                        have h1 := (Own.set h.1 HLN.out (k := i + 1) hin 0).1.2
                        have h2 := (Own.set h.1 HLN.out (k := i) (by omega) 0).1.2
                        rw [HA1.out] at h1
                        rw [HA2.out] at h2
                        exact ⟨h1, h2⟩)
                      have HXA := Lib.hid hxa
                      have HXB := Lib.hid hxb
                      clear hxa hxb
                      go_wp2_with fail
                      refine wp_region_class (C := fun w' => Hid (Ls9 w (.slice (some ⟨g, 0, none⟩) L c9) D w')) (by kernel_rfl) (by kernel_rfl) HD ?_
                      repeat (first | go_big_quiet_skip | (go_big_quiet_want; go_big_quiet_op; first | go_big_quiet_on | (refine ⟨_, fun _ _ => rfl, ?_⟩; go_big_quiet_on)))
                      go_big_quiet_want
                      go_big_quiet_op
                      refine ⟨.int .i64 xa, fun w' hw' => ?_, ?_⟩
                      · have q := (HAT.out _ hw'.out).1
                        simp [go_sem, q]
                      go_big_quiet_on
                      repeat (first | go_big_quiet_skip | (go_big_quiet_want; go_big_quiet_op; first | go_big_quiet_on | (refine ⟨_, fun _ _ => rfl, ?_⟩; go_big_quiet_on)))
                      go_big_quiet_want
                      go_big_quiet_op
                      refine ⟨.int .i64 xb, fun w' hw' => ?_, ?_⟩
                      · have q := (HAT.out _ hw'.out).2
                        simp [go_sem, q]
                      go_big_quiet_on
                      repeat (first | go_big_quiet_skip | (go_big_quiet_want; go_big_quiet_op; first | go_big_quiet_on | (refine ⟨_, fun _ _ => rfl, ?_⟩; go_big_quiet_on)))
                      refine wpQuiet_nil ?_
                      intro w2 M2
                      clear HD MM
                      by_cases hlt2 : xa < xb
                      rotate_left
                      · have hTD : TT = D := by rw [← hins.out]; exact innerI_no (by rw [HXA.out, HXB.out]; exact hlt2)
                        subst hTD
                        go_wp2
                        go_roundw
                        case rel => exact ⟨p + 1, by go_num, by omega, by omega, TT, hD, HO, M2⟩
                        case measure => simp [intOf]; omega
                      · have HNX := Lib.hid (innerI_yes (D := D) (i := i) (by rw [HXA.out, HXB.out]; exact hlt2))
                        obtain ⟨⟨f1, c1⟩, o3, g3⟩ := Own.set M2.out.1 HLN.out (k := i + 1) hin xb
                        rw [HA1.out] at c1
                        have c2 := (HAT.out _ M2.out).2
                        have HL3 : Hid ((D.toList.set (i + 1) xb).length = L) := Lib.hid (by rw [List.length_set]; exact HLN.out)
                        obtain ⟨⟨f2, c3⟩, o4, g4⟩ := Own.set o3 HL3.out (k := i) (by omega) xa
                        have hn3 : nth (D.toList.set (i + 1) xb) i = xb := by
                          rw [← HA2.out]
                          unfold nth
                          rw [List.getD_eq_getElem?_getD, List.getD_eq_getElem?_getD, List.getElem?_set_ne (by omega)]
                        rw [hn3] at c3
                        have B4 : Hid (Below w.heap.size w ((w2.setCell ⟨g, i + 1, none⟩ (.int .i64 xb)).setCell ⟨g, i, none⟩ (.int .i64 xa))) := Lib.hid ((M2.out.2.setCell (M2.out.1.lt g rfl).1 _).setCell (M2.out.1.lt g rfl).1 _)
                        have O4 := Lib.hid o4
                        have HSW : Hid ((Sort.swp D (i + 1) i).toList = (D.toList.set (i + 1) xb).set i xa) := Lib.hid (by
                          unfold Sort.swp
                          rw [HXA.out, HXB.out, Array.toList_setIfInBounds, Array.toList_setIfInBounds])
                        have M5 : Hid (Ls9 w (.slice (some ⟨g, 0, none⟩) L c9) (Sort.swp D (i + 1) i) ((w2.setCell ⟨g, i + 1, none⟩ (.int .i64 xb)).setCell ⟨g, i, none⟩ (.int .i64 xa))) := Lib.hid ⟨by rw [HSW.out]; exact O4.out, B4.out⟩
                        have HSZ5 : Hid ((Sort.swp D (i + 1) i).size = L) := Lib.hid (by unfold Sort.swp; simpa using hD.out)
                        have HI5 : Hid (Sort.insInner ltI 0 i (Sort.swp D (i + 1) i) = TT) := Lib.hid (by rw [← HNX.out]; exact hins.out)
                        clear o3 o4 g3 g4 hn3 M2 O4 B4
                        go_wp2
                        go_roundw
                        case rel => exact ⟨i, by go_num, by omega, Sort.swp D (i + 1) i, HSZ5, HI5, M5⟩
                        case measure => simp [intOf]
                · have hfin : D0.toList = tby keys need secrets ask := by rw [← hres.out, outerI_end hpl]
                  have MF : Hid (Own wo w.heap.size (.slice a9 L c9) (tby keys need secrets ask) ∧ Below w.heap.size w wo) := Lib.hid (by rw [← hfin]; exact M.out)
                  clear M hfin hres
                  go_wp2
                  go_ret
                  exact ⟨_, rfl, MF.out.1, MF.out.2⟩
end Go.Proofs.YtljekapbcphdaabDoor

/- The promise of TalksBy, as plain mathematics: over all elements, exponents and questions of the group 0. -/
namespace Go.Proofs.YtljekapbcphdaabDoor

def tbC (keys : List Int) (need : Int) (secrets : List Int) (ask : Int) : List Int := colTo (fnS keys need secrets ask) (9 ^ keys.length)
theorem tby_C {keys : List Int} {need : Int} {secrets : List Int} {ask : Int} (h : kysB 0 keys need = true) : tby keys need secrets ask = sortI (tbC keys need secrets ask) := tby_S h
theorem chk_two : ∀ a b q : Fin 3, ((tbC [keyOf 0 (a.val : Nat), keyOf 0 (b.val : Nat)] 1 [(a.val : Int), -1] (q.val : Nat)).length = 27 ∧ (tbC [keyOf 0 (a.val : Nat), keyOf 0 (b.val : Nat)] 1 [(a.val : Int), -1] (q.val : Nat)).Nodup) ∧
    (tbC [keyOf 0 (a.val : Nat), keyOf 0 (b.val : Nat)] 1 [(a.val : Int), -1] (q.val : Nat)).isPerm (tbC [keyOf 0 (a.val : Nat), keyOf 0 (b.val : Nat)] 1 [-1, (b.val : Int)] (q.val : Nat)) = true := by decide +kernel
theorem chk_all : ∀ a b q : Fin 3, (tbC [keyOf 0 (a.val : Nat), keyOf 0 (b.val : Nat)] 2 [(a.val : Int), (b.val : Int)] (q.val : Nat)).length = 9 ∧ (tbC [keyOf 0 (a.val : Nat), keyOf 0 (b.val : Nat)] 2 [(a.val : Int), (b.val : Int)] (q.val : Nat)).Nodup := by decide +kernel
theorem chk_one : ∀ a q : Fin 3, (tbC [keyOf 0 (a.val : Nat)] 1 [(a.val : Int)] (q.val : Nat)).length = 3 ∧ (tbC [keyOf 0 (a.val : Nat)] 1 [(a.val : Int)] (q.val : Nat)).Nodup := by decide +kernel
theorem chk_log : ∀ a : Fin 3, glog 0 2 (keyOf 0 (a.val : Nat)) = (a.val : Nat) := by decide +kernel
theorem chk_kys : ∀ a b : Fin 3, kysB 0 [keyOf 0 (a.val : Nat), keyOf 0 (b.val : Nat)] 1 = true ∧ kysB 0 [keyOf 0 (a.val : Nat), keyOf 0 (b.val : Nat)] 2 = true ∧ kysB 0 [keyOf 0 (a.val : Nat)] 1 = true := by decide +kernel
/-- What the draw gives. -/
inductive TbD : List Int → Int → List Int → Prop where
  | fst (a b : Fin 3) : TbD [keyOf 0 (a.val : Nat), keyOf 0 (b.val : Nat)] 1 [((a.val : Nat) : Int), -1]
  | snd (a b : Fin 3) : TbD [keyOf 0 (a.val : Nat), keyOf 0 (b.val : Nat)] 1 [-1, ((b.val : Nat) : Int)]
  | all (a b : Fin 3) : TbD [keyOf 0 (a.val : Nat), keyOf 0 (b.val : Nat)] 2 [((a.val : Nat) : Int), ((b.val : Nat) : Int)]
  | one (a : Fin 3) : TbD [keyOf 0 (a.val : Nat)] 1 [((a.val : Nat) : Int)]
/-- What the law asks of an answer that is not empty. -/
structure TbF (keys : List Int) (need ask : Int) (R : List Int) : Prop where
  len : (R.length : Int) = smyM 0 keys need ask
  asc : ∀ i, i + 1 < R.length → nth R i < nth R (i + 1)
  two : keys.length = 2 → need = 1 → ∃ Ka Kb a b : Int, keys = [Ka, Kb] ∧ glog 0 2 Ka = a ∧ glog 0 2 Kb = b ∧ tby keys 1 [a, -1] ask = R ∧ tby keys 1 [-1, b] ask = R
theorem asc_of {xs : List Int} (h : xs.Nodup) : ∀ i, i + 1 < (sortI xs).length → nth (sortI xs) i < nth (sortI xs) (i + 1) := fun i hi => by
  have hn : (sortI xs).Nodup := (sortI_perm xs).nodup_iff.2 h
  have h1 := List.pairwise_iff_getElem.1 (sortI_pair xs) i (i + 1) (by omega) hi (by omega)
  have h2 := List.pairwise_iff_getElem.1 hn i (i + 1) (by omega) hi (by omega)
  rw [nth_get (by omega), nth_get hi]
  omega
theorem tby_ask {keys : List Int} {need : Int} {secrets : List Int} {ask : Int} (h : exB 0 ask = false) : tby keys need secrets ask = [] := by
  cases hk : kysB 0 keys need
  · exact tby_no hk
  · rw [tby_S hk, colTo_none (show ∀ k, fnS keys need secrets ask k = none from fun k => pk_no (sofB_false fun hs => by rw [hs.a] at h; cases h)), sortI_nil]
theorem tb_law {keys : List Int} {need : Int} {secrets : List Int} {ask : Int} (hd : TbD keys need secrets) (hne : tby keys need secrets ask ≠ []) : TbF keys need ask (tby keys need secrets ask) := by
  cases hx : exB 0 ask
  · exact absurd (tby_ask hx) hne
  obtain ⟨_, q0, q1⟩ := exB_true.1 hx
  have ho : ord 0 = 3 := rfl
  obtain ⟨q, rfl⟩ : ∃ q : Fin 3, ask = (q.val : Nat) := ⟨⟨ask.toNat, by omega⟩, by show ask = ((ask.toNat : Nat) : Int); omega⟩
  cases hd with
  | fst a b =>
    obtain ⟨hk, _, _⟩ := chk_kys a b
    obtain ⟨⟨h1, h2⟩, h3⟩ := chk_two a b q
    refine ⟨by rw [tby_C hk, sortI_len, smyM_yes hk hx, h1]; rfl, by rw [tby_C hk]; exact asc_of h2, fun _ _ => ⟨_, _, _, _, rfl, chk_log a, chk_log b, rfl, ?_⟩⟩
    rw [tby_C hk, tby_C hk]
    exact (sortI_same (List.isPerm_iff.1 h3)).symm
  | snd a b =>
    obtain ⟨hk, _, _⟩ := chk_kys a b
    obtain ⟨⟨h1, h2⟩, h3⟩ := chk_two a b q
    have hp := List.isPerm_iff.1 h3
    refine ⟨by rw [tby_C hk, sortI_len, smyM_yes hk hx, ← hp.length_eq, h1]; rfl, by rw [tby_C hk]; exact asc_of (hp.nodup_iff.1 h2), fun _ _ => ⟨_, _, _, _, rfl, chk_log a, chk_log b, ?_, rfl⟩⟩
    rw [tby_C hk, tby_C hk]
    exact sortI_same hp
  | all a b =>
    obtain ⟨_, hk, _⟩ := chk_kys a b
    obtain ⟨h1, h2⟩ := chk_all a b q
    exact ⟨by rw [tby_C hk, sortI_len, smyM_yes hk hx, h1]; rfl, by rw [tby_C hk]; exact asc_of h2, fun _ h => by cases h⟩
  | one a =>
    obtain ⟨_, _, hk⟩ := chk_kys a a
    obtain ⟨h1, h2⟩ := chk_one a q
    exact ⟨by rw [tby_C hk, sortI_len, smyM_yes hk hx, h1]; rfl, by rw [tby_C hk]; exact asc_of h2, fun h _ => by cases h⟩

end Go.Proofs.YtljekapbcphdaabDoor
