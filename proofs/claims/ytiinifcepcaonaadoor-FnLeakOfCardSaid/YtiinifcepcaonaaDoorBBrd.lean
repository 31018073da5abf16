/- BrdI, BrdJ, BrdS, in one text. -/
import Derived.Test.YtiinifcepcaonaaDoorNtl
import Derived.Test.YtiinifcepcaonaaDoorImplT
import Derived.Test.YtiinifcepcaonaaDoorBMark
import Derived.Test.YtiinifcepcaonaaDoorBReg
import Derived.Test.YtiinifcepcaonaaDoorBSol
import Derived.Deep.Cut
import Derived.IntWalk
/- impl: notes compared; slices.Index, slices.Contains at notes; keysOf. -/
namespace Go.Proofs.YtiinifcepcaonaaDoor
open Go.RowKit

theorem noteStood : Tryd.prog.stoodInHeld 47 = false := by kernel_rfl
theorem noteGuard : Tryd.prog.eqGuardType Tryd.prog.depth 47 = false := by kernel_rfl
theorem noteFields : Tryd.prog.underlying 47 = some (.struct (Tryd.prog.fieldsOf 47)) := by kernel_rfl
theorem run_equal_note (x y : Nt) (w : World) : (Op.equalIn 10000 47 (.agg #[.int .i64 x.key, .int .i64 x.on, .int .i64 x.say, .int .i64 x.ask, .int .i64 x.tell]) (.agg #[.int .i64 y.key, .int .i64 y.on, .int .i64 y.say, .int .i64 y.ask, .int .i64 y.tell])).run Tryd.prog w = .ok (ntB x y) w := by
  rw [run_equalIn_struct w 9999 _ _ _ noteFields noteStood]
  by_cases h0 : x.key = y.key <;> by_cases h4 : x.on = y.on <;> by_cases h1 : x.say = y.say <;> by_cases h2 : x.ask = y.ask <;> by_cases h3 : x.tell = y.tell <;> simp [Program.fieldsOf, Tryd.underlying47, Tryd.underlying45, Op.eqFields, go_sem, ntB, h0, h1, h2, h3, h4, Tryd.underlying3]

/-- slices.Index at notes. -/
def ixN (ns : List Nt) (x : Nt) : Int := match ns.findIdx? (ntB x) with
  | some k => (k : Int)
  | none => -1
theorem ixN_at {ns : List Nt} {x : Nt} {k : Nat} (hk : k < ns.length) (h : NotN ns x k) (e : ntB x (nthN ns k) = true) : ixN ns x = k := by
  have : ns.findIdx? (ntB x) = some k := List.findIdx?_eq_some_iff_getElem.2 ⟨hk, by rw [← nthN_get hk]; exact e, fun j hj => by
    have := h j hj
    rw [nthN_get (by omega), ntB_symm] at this
    simpa using this⟩
  unfold ixN; rw [this]
theorem ixN_none {ns : List Nt} {x : Nt} (h : NotN ns x ns.length) : ixN ns x = -1 := by
  have : ns.findIdx? (ntB x) = none := List.findIdx?_eq_none_iff.2 fun y hy => by
    obtain ⟨j, hj, e⟩ := List.getElem_of_mem hy
    have := h j hj
    rw [nthN_get hj, e, ntB_symm] at this
    exact this
  unfold ixN; rw [this]
theorem hasN_ix (ns : List Nt) (x : Nt) : hasN ns x = decide (0 ≤ ixN ns x) := by
  unfold hasN ixN
  cases h : ns.findIdx? (ntB x) with
  | some k =>
    obtain ⟨hk, e, _⟩ := List.findIdx?_eq_some_iff_getElem.1 h
    rw [List.any_eq_true.2 ⟨ns[k], List.getElem_mem _, e⟩]; simp
  | none =>
    have := List.findIdx?_eq_none_iff.1 h
    rw [List.any_eq_false.2 fun y hy => by rw [this y hy]; simp]; rfl

set_option maxHeartbeats 1600000 in
theorem inx_any (v : Value) (ns : List Nt) (x : Nt) (w : World) (h : Nts w v ns) : Calls Tryd.prog 80 #[v, .agg #[.int .i64 x.key, .int .i64 x.on, .int .i64 x.say, .int .i64 x.ask, .int .i64 x.tell]] w fun e w' => e = .returned (.int .i64 (ixN ns x)) ∧ Below w.heap.size w w' := by
  obtain ⟨a, c, rfl, k1⟩ := h.opened
  obtain ⟨n, hn⟩ : ∃ n, ns.length = n := ⟨_, rfl⟩
  have hmax := k1.max
  have HC := Lib.hid (fun w' (hb : Below w.heap.size w w') k (hk : k < n) => (k1.on hb).get k (by rw [hn]; exact hk))
  have HY := Lib.hid (show ∀ k, k < n → NotN ns x k → ntB x (nthN ns k) = true → ixN ns x = k from fun k hk h e => ixN_at (by rw [hn]; exact hk) h e)
  have HN := Lib.hid (show NotN ns x n → ixN ns x = -1 from fun h => ixN_none (by rw [hn]; exact h))
  have IB0 := Lib.hid (InB.start w (encN x) 47)
  have tg := noteGuard
  have te := run_equal_note
  rw [hn] at hmax ⊢
  unfold maxLen at hmax
  unfold encN at IB0
  clear h k1 hn
  go_enter Tryd.func80, Tryd.ntmps80
  go_wp2
  go_loopw [8] (fun i wr => ∃ k : Nat, k ≤ n ∧ i = .int .i64 k ∧ Hid (NotN ns x k) ∧ Hid (InB w [.int .i64 x.key, .int .i64 x.on, .int .i64 x.say, .int .i64 x.ask, .int .i64 x.tell] 47 wr)) (fun i _ => n - (intOf i).toNat)
  case atStart => exact ⟨0, by omega, rfl, Lib.hid (NotN.zero _ _), IB0⟩
  case round =>
    obtain ⟨k, hk, rfl, hj, hb⟩ := hrel
    obtain ⟨wo, rfl⟩ : ∃ wo : World, wo = wr := ⟨_, rfl⟩
    by_cases hlt : k < n
    · obtain ⟨G, rfl, _, hc⟩ := HC.out _ hb.out.fin k hlt
      obtain ⟨y, hy⟩ : ∃ y, nthN ns k = y := ⟨_, rfl⟩
      rw [hy] at hc
      obtain ⟨c0, c1, c2, c3, c4⟩ := hc
      have q := hb.out.box
      have q0 := q.cell 0
      have q1 := q.cell 1
      have q2 := q.cell 2
      have q3 := q.cell 3
      have q4 := q.cell 4
      simp at q0 q1 q2 q3 q4
      have hlt1 : (k : Int) < (n : Int) := by omega
      clear q
      cases he : ntB x y
      · have HJ : Hid (NotN ns x (k + 1)) := Lib.hid (hj.out.succ (by rw [hy, ntB_symm]; exact he))
        clear hj hy
        go_wp2_with fail
        go_quiet (fail)
        clear c0 c1 c2 c3 c4 q0 q1 q2 q3 q4
        go_wp2
        go_roundw
        case rel => exact ⟨k + 1, by omega, by go_num, HJ, Lib.hid (hb.out.on (below_drewN (Below.refl _ _) _))⟩
        case measure => simp [intOf]; omega
      · have HX := Lib.hid (HY.out k hlt hj.out (by rw [hy]; exact he))
        clear hj hy
        go_wp2_with fail
        go_quiet (fail)
        clear c0 c1 c2 c3 c4 q0 q1 q2 q3 q4
        go_wp2
        go_ret
        exact ⟨by rw [HX.out]; rfl, (hb.out.on (below_drewN (Below.refl _ _) _)).fin⟩
    · obtain rfl : k = n := by omega
      have HX := Lib.hid (HN.out hj.out)
      go_wp2
      go_ret
      exact ⟨by rw [HX.out]; rfl, hb.out.fin⟩

theorem inc_any (v : Value) (ns : List Nt) (x : Nt) (w : World) (h : Nts w v ns) : Calls Tryd.prog 61 #[v, .agg #[.int .i64 x.key, .int .i64 x.on, .int .i64 x.say, .int .i64 x.ask, .int .i64 x.tell]] w fun e w' => e = .returned (.bool (hasN ns x)) ∧ Below w.heap.size w w' := by
  obtain ⟨a, c, rfl, _⟩ := h.opened
  have H := Lib.hid (h.on (below_grow w (.cells #[.int .i64 x.key, .int .i64 x.on, .int .i64 x.say, .int .i64 x.ask, .int .i64 x.tell] 47)))
  have HD := hasN_ix ns x
  obtain ⟨r, hr⟩ : ∃ r, ixN ns x = r := ⟨_, rfl⟩
  rw [hr] at HD
  have HR := Lib.hid hr
  have HX := Lib.hid HD
  clear h hr HD
  by_cases h0 : 0 ≤ r
  · have hd : decide (0 ≤ r) = true := by simpa using h0
    go_enter Tryd.func61, Tryd.ntmps61
    go_wp2_with fail
    refine (inx_any _ ns x _ H.out).mono ?_
    rintro e w1 ⟨rfl, hb⟩
    rw [HR.out]
    have B1 := Lib.hid (Below.on (below_grow w _) hb)
    clear hb
    go_wp2
    go_ret
    exact ⟨by rw [HX.out]; try simp [h0], B1.out⟩
  · have hd : decide (0 ≤ r) = false := by simpa using h0
    go_enter Tryd.func61, Tryd.ntmps61
    go_wp2_with fail
    refine (inx_any _ ns x _ H.out).mono ?_
    rintro e w1 ⟨rfl, hb⟩
    rw [HR.out]
    have B1 := Lib.hid (Below.on (below_grow w _) hb)
    clear hb
    go_wp2
    go_ret
    exact ⟨by rw [HX.out]; try simp [h0], B1.out⟩

set_option maxRecDepth 20000 in
set_option maxHeartbeats 1600000 in
theorem ikeys_any (g : Int) (v : Value) (ns : List Nt) (w : World) (h : Nts w v ns) (hl : ns.length ≤ 2000000) : Calls Tryd.prog 44 #[.agg #[.int .i64 g, v]] w fun e w' => ∃ u, e = .returned u ∧ Own w' w.heap.size u (keysN ns) ∧ Below w.heap.size w w' := by
  obtain ⟨a, c, rfl, k1⟩ := h.opened
  obtain ⟨n, hn⟩ : ∃ n, ns.length = n := ⟨_, rfl⟩
  have HC := Lib.hid (fun w' (hb : Below w.heap.size w w') k (hk : k < n) => (k1.on hb).get k (by rw [hn]; exact hk))
  have HY := Lib.hid (show ∀ k, k < n → (nthN ns k).on = -1 → keysN (ns.take (k + 1)) = keysN (ns.take k) ++ [(nthN ns k).key] from fun k hk ho => keysN_yes (by rw [hn]; exact hk) ho)
  have HN := Lib.hid (show ∀ k, k < n → (nthN ns k).on ≠ -1 → keysN (ns.take (k + 1)) = keysN (ns.take k) from fun k hk ho => keysN_no (by rw [hn]; exact hk) ho)
  have HZ := Lib.hid (show keysN (ns.take n) = keysN ns from by rw [← hn, List.take_length])
  have HL := Lib.hid (show ∀ k, (keysN (ns.take k)).length < 1000000000 from fun k => by have := keysN_len (ns.take k); have := List.length_take_le' k ns; omega)
  have IB0 := Lib.hid (InB.start w [.int .i64 g, .slice a n c] 29)
  obtain ⟨L, hL⟩ : ∃ L : Nat → List Int, ∀ k, keysN (ns.take k) = L k := ⟨_, fun _ => rfl⟩
  have HL0 := Lib.hid (show L 0 = [] from by rw [← hL]; rfl)
  simp only [hL] at HY HN HZ HL
  rw [hn] at hl ⊢
  clear h k1 hn hL
  go_enter Tryd.func44, Tryd.ntmps44
  go_wp2
  go_loopw [3, 9] (fun u i wr => ∃ k : Nat, k ≤ n ∧ i = .int .i64 k ∧ Hid (Own wr (w.heap.size + 1) u (L k)) ∧ Hid (InB w [.int .i64 g, .slice a n c] 29 wr)) (fun _ i _ => n - (intOf i).toNat)
  case atStart => exact ⟨0, by omega, rfl, Lib.hid (by rw [HL0.out]; exact World.ownsRow_nil _ _ _ _), IB0⟩
  case round =>
    obtain ⟨k, hk, rfl, ho, hb⟩ := hrel
    by_cases hlt : k < n
    · obtain ⟨G, rfl, _, hc⟩ := HC.out _ hb.out.fin k hlt
      have hyes := HY.out k hlt
      have hno := HN.out k hlt
      generalize nthN ns k = y at hc hyes hno
      obtain ⟨c0, c1, c2, c3, c4⟩ := hc
      have hlt1 : (k : Int) < (n : Int) := by omega
      have OV := Lib.hid (own_below ho.out (below_grow wr (.cells #[.int .i64 y.key, .int .i64 y.on, .int .i64 y.say, .int .i64 y.ask, .int .i64 y.tell] 47)))
      have IB := Lib.hid (hb.out.on (below_grow wr (.cells #[.int .i64 y.key, .int .i64 y.on, .int .i64 y.say, .int .i64 y.ask, .int .i64 y.tell] 47)))
      clear ho hb
      by_cases he : y.on = -1
      · have HX := Lib.hid (hyes he)
        have hd : (y.on == -1) = true := by simp [he]
        have ov := OV.out
        have oz := IB.out.size
        have hll := HL.out k
        have hsz : (wr.alloc (.cells #[.int .i64 y.key, .int .i64 y.on, .int .i64 y.say, .int .i64 y.ask, .int .i64 y.tell] 47)).heap.size = wr.heap.size + 1 := by simp
        clear hyes hno he
        go_wp2_with (at_builtin; refine wpAppInt rfl _ _ rfl rfl ov hll oz (by rw [hsz]; rfl) ?_)
        intro v2 w4 o2 g2 _
        have O4 : Hid (Own w4 (w.heap.size + 1) v2 (L (k + 1))) := Lib.hid (by rw [HX.out]; exact o2)
        have I4 := Lib.hid (IB.out.grown g2 fun j hj => (OV.out.lt j hj).1)
        clear o2 g2 ov oz hll OV IB
        go_wp2
        go_roundw
        case rel => exact ⟨k + 1, by omega, by go_num, O4, I4⟩
        case measure => simp [intOf]; omega
      · have HX := Lib.hid (hno he)
        have hd : (y.on == -1) = false := by simp [he]
        clear hyes hno he
        go_wp2
        go_roundw
        case rel => exact ⟨k + 1, by omega, by go_num, Lib.hid (by rw [HX.out]; exact OV.out), IB⟩
        case measure => simp [intOf]; omega
    · obtain rfl : k = n := by omega
      go_wp2
      go_ret
      exact ⟨_, rfl, by rw [← HZ.out]; exact own_mono ho.out (Nat.le_succ _), hb.out.fin⟩
end Go.Proofs.YtiinifcepcaonaaDoor

/- impl: keyAt, noteFits, BoardOk, KeysOn. -/
namespace Go.Proofs.YtiinifcepcaonaaDoor
open Go.RowKit

/-- Two boxes made at the head of a function. -/
structure Nb (w : World) (P R : List Value) (w' : World) : Prop where
  be : Below w.heap.size w w'
  b0 : Box w' w.heap.size P
  b1 : Box w' (w.heap.size + 1) R
theorem Nb.on {w w1 w2 : World} {P R : List Value} (h : Nb w P R w1) (hb : Below w1.heap.size w1 w2) : Nb w P R w2 := ⟨Below.on h.be hb, h.b0.on hb, h.b1.on hb⟩
theorem Nb.start (w : World) (P R : List Value) (T1 T2 : TypeId) : Nb w P R ((w.alloc (.cells P.toArray T1)).alloc (.cells R.toArray T2)) := by
  obtain ⟨h1, h2, h3⟩ := boxes2 (w := w) (P := P) (R := R) (T1 := T1) (T2 := T2) (Below.refl _ _)
  exact ⟨h3, h1, h2⟩
def katB (ns : List Nt) (on : Int) : Bool := decide (0 ≤ on) && decide (on < ((keysN ns).length : Int))
theorem katB_true {ns : List Nt} {on : Int} : katB ns on = true ↔ 0 ≤ on ∧ on < ((keysN ns).length : Int) := by unfold katB; simp
theorem ikat_no (g : Int) (v : Value) (ns : List Nt) (on : Int) (w : World) (h : Nts w v ns) (hl : ns.length ≤ 2000000) (hk : katB ns on = false) : Calls Tryd.prog 47 #[.agg #[.int .i64 g, v], .int .i64 on] w fun e w' => e = .returned (.tuple #[.int .i64 0, .bool false]) ∧ Below w.heap.size w w' := by
  obtain ⟨a, c, rfl, _⟩ := h.opened
  have H := Lib.hid (h.on (below_grow w (.cells #[.int .i64 g, .slice a ns.length c] 29)))
  have HN : ¬ (0 ≤ on ∧ on < ((keysN ns).length : Int)) := fun k => by rw [katB_true.2 k] at hk; cases hk
  obtain ⟨m, hm⟩ : ∃ m, (keysN ns).length = m := ⟨_, rfl⟩
  rw [hm] at HN
  have HM := Lib.hid hm
  clear h hk hm
  by_cases h0 : 0 ≤ on
  · have h1 : ¬ on < (m : Int) := fun h => HN ⟨h0, h⟩
    have hd0 : decide (on < 0) = false := by simp; omega
    have hd1 : decide ((m : Int) ≤ on) = true := by simp; omega
    clear HN
    go_enter Tryd.func47, Tryd.ntmps47
    go_wp2_with fail
    refine (ikeys_any g _ ns _ H.out hl).mono ?_
    rintro e w1 ⟨u, rfl, ou, hb⟩
    obtain ⟨ua, uc, hu⟩ := Own.form ou
    rw [HM.out] at hu
    subst hu
    have B1 := Lib.hid (Below.on (below_grow w _) hb)
    clear hb ou
    go_wp2
    go_ret2
    exact ⟨rfl, B1.out⟩
  · have h1 : on < 0 := by omega
    have hd0 : decide (on < 0) = true := by simp; omega
    clear HN h0
    go_enter Tryd.func47, Tryd.ntmps47
    go_wp2_with fail
    refine (ikeys_any g _ ns _ H.out hl).mono ?_
    rintro e w1 ⟨u, rfl, ou, hb⟩
    obtain ⟨ua, uc, hu⟩ := Own.form ou
    rw [HM.out] at hu
    subst hu
    have B1 := Lib.hid (Below.on (below_grow w _) hb)
    clear hb ou
    go_wp2
    go_ret2
    exact ⟨rfl, B1.out⟩
theorem ikat_yes (g : Int) (v : Value) (ns : List Nt) (on : Int) (w : World) (h : Nts w v ns) (hl : ns.length ≤ 2000000) (hk : katB ns on = true) : Calls Tryd.prog 47 #[.agg #[.int .i64 g, v], .int .i64 on] w fun e w' => e = .returned (.tuple #[.int .i64 (nth (keysN ns) on.toNat), .bool true]) ∧ Below w.heap.size w w' := by
  obtain ⟨a, c, rfl, k1⟩ := h.opened
  have hmx := k1.max
  have H := Lib.hid (h.on (below_grow w (.cells #[.int .i64 g, .slice a ns.length c] 29)))
  obtain ⟨h0, h1⟩ := katB_true.1 hk
  obtain ⟨j, rfl⟩ : ∃ j : Nat, on = j := ⟨on.toNat, by omega⟩
  obtain ⟨m, hm⟩ : ∃ m, (keysN ns).length = m := ⟨_, rfl⟩
  rw [hm] at h1
  have hj : j < m := by omega
  have HML := Lib.hid (show (keysN ns).length ≤ maxLen from Nat.le_trans (keysN_len ns) hmx)
  obtain ⟨y, hy⟩ : ∃ y, nth (keysN ns) j = y := ⟨_, rfl⟩
  rw [show (j : Int).toNat = j by omega, hy]
  have HM := Lib.hid hm
  have HY := Lib.hid hy
  have hd0 : decide ((j : Int) < 0) = false := by simp
  have hd1 : decide (m ≤ j) = false := by simp; omega
  clear h hk hm k1 hmx hy h0
  go_enter Tryd.func47, Tryd.ntmps47
  go_wp2_with fail
  refine (ikeys_any g _ ns _ H.out hl).mono ?_
  rintro e w1 ⟨u, rfl, ou, hb⟩
  obtain ⟨ua, uc, hu, hc⟩ := (Ints.of_own ou HML.out).opened
  rw [HM.out] at hu
  subst hu
  obtain ⟨G, rfl, _, hcell⟩ := hc.get j (by rw [HM.out]; exact hj)
  rw [HY.out] at hcell
  have B1 := Lib.hid (Below.on (below_grow w _) hb)
  clear hb ou hc
  go_wp2
  go_ret2
  exact ⟨rfl, B1.out⟩

theorem onB_kat (g : Int) (ns : List Nt) (x : Nt) : onB g ns x = (decide (x.key = 0) && katB ns x.on && tokB g (nth (keysN ns) x.on.toNat) x.say x.ask x.tell) := rfl

theorem inf_has (g : Int) (v : Value) (ns : List Nt) (x : Nt) (w : World) (G : Gr w) (h : Nts w v ns) (hl : ns.length ≤ 2000000) (hh : hasN ns x = true) : Calls Tryd.prog 41 #[.agg #[.int .i64 g, v], .agg #[.int .i64 x.key, .int .i64 x.on, .int .i64 x.say, .int .i64 x.ask, .int .i64 x.tell]] w fun e w' => e = .returned (.bool false) ∧ Below w.heap.size w w' := by
  have HH := Lib.hid hh
  clear hh
  obtain ⟨a, c, rfl, _⟩ := h.opened
  have H := Lib.hid h
  have HG := Lib.hid G
  obtain ⟨n, hn⟩ : ∃ n, ns.length = n := ⟨_, rfl⟩
  rw [hn] at H ⊢
  have HL := Lib.hid hl
  have N0 := Lib.hid (Nb.start w [.int .i64 g, .slice a n c] [.int .i64 x.key, .int .i64 x.on, .int .i64 x.say, .int .i64 x.ask, .int .i64 x.tell] 29 47)
  clear h hn hl G
  go_enter Tryd.func41, Tryd.ntmps41
  go_wp2_with fail
  refine (inc_any _ ns x _ (H.out.on N0.out.be)).mono ?_
  rintro e w1 ⟨rfl, hb⟩
  rw [HH.out]
  have N1 := Lib.hid (N0.out.on hb)
  clear hb
  go_wp2
  go_ret
  exact ⟨rfl, N1.out.be⟩
set_option maxHeartbeats 1600000 in
theorem inf_key (g : Int) (v : Value) (ns : List Nt) (x : Nt) (w : World) (G : Gr w) (h : Nts w v ns) (hl : ns.length ≤ 2000000) (hh : hasN ns x = false) (ho : x.on = -1) : Calls Tryd.prog 41 #[.agg #[.int .i64 g, v], .agg #[.int .i64 x.key, .int .i64 x.on, .int .i64 x.say, .int .i64 x.ask, .int .i64 x.tell]] w fun e w' => e = .returned (.bool (elB g x.key && zerB x)) ∧ Below w.heap.size w w' := by
  have HH := Lib.hid hh
  have hd : (x.on == -1) = true := by simp [ho]
  clear hh ho
  obtain ⟨a, c, rfl, _⟩ := h.opened
  have H := Lib.hid h
  have HG := Lib.hid G
  obtain ⟨n, hn⟩ : ∃ n, ns.length = n := ⟨_, rfl⟩
  rw [hn] at H ⊢
  have HL := Lib.hid hl
  have N0 := Lib.hid (Nb.start w [.int .i64 g, .slice a n c] [.int .i64 x.key, .int .i64 x.on, .int .i64 x.say, .int .i64 x.ask, .int .i64 x.tell] 29 47)
  clear h hn hl G
  have tg := talkGuard
  have te := run_equal_talk
  have HZ := Lib.hid (show talkB x.say x.ask x.tell 0 0 0 = zerB x from rfl)
  cases he : elB g x.key
  · have HE := Lib.hid he
    clear he
    go_enter Tryd.func41, Tryd.ntmps41
    go_wp2_with fail
    refine (inc_any _ ns x _ (H.out.on N0.out.be)).mono ?_
    rintro e w1 ⟨rfl, hb⟩
    rw [HH.out]
    have N1 := Lib.hid (N0.out.on hb)
    clear hb
    have q00 := N1.out.b0.cell 0
    have q10 := N1.out.b1.cell 0
    have q11 := N1.out.b1.cell 1
    simp at q00 q10 q11
    go_wp2_with fail
    refine (iel_b g x.key _ (HG.out.on N1.out.be)).mono ?_
    rintro e w2 ⟨rfl, hb⟩
    rw [HE.out]
    have N2 := Lib.hid (N1.out.on hb)
    clear hb q00 q10 q11
    go_wp2
    go_ret
    exact ⟨rfl, N2.out.be⟩
  · have HE := Lib.hid he
    clear he
    go_enter Tryd.func41, Tryd.ntmps41
    go_wp2_with fail
    refine (inc_any _ ns x _ (H.out.on N0.out.be)).mono ?_
    rintro e w1 ⟨rfl, hb⟩
    rw [HH.out]
    have N1 := Lib.hid (N0.out.on hb)
    clear hb
    have q00 := N1.out.b0.cell 0
    have q10 := N1.out.b1.cell 0
    have q11 := N1.out.b1.cell 1
    simp at q00 q10 q11
    go_wp2_with fail
    refine (iel_b g x.key _ (HG.out.on N1.out.be)).mono ?_
    rintro e w2 ⟨rfl, hb⟩
    rw [HE.out]
    have N2 := Lib.hid (N1.out.on hb)
    clear hb q00 q10 q11
    have q12 := N2.out.b1.cell 2
    have q13 := N2.out.b1.cell 3
    have q14 := N2.out.b1.cell 4
    simp at q12 q13 q14
    go_wp2
    go_ret
    exact ⟨by rw [← HZ.out]; rfl, N2.out.be⟩
set_option maxHeartbeats 1600000 in
theorem inf_on (g : Int) (v : Value) (ns : List Nt) (x : Nt) (w : World) (G : Gr w) (h : Nts w v ns) (hl : ns.length ≤ 2000000) (hh : hasN ns x = false) (ho : x.on ≠ -1) : Calls Tryd.prog 41 #[.agg #[.int .i64 g, v], .agg #[.int .i64 x.key, .int .i64 x.on, .int .i64 x.say, .int .i64 x.ask, .int .i64 x.tell]] w fun e w' => e = .returned (.bool (onB g ns x)) ∧ Below w.heap.size w w' := by
  have HH := Lib.hid hh
  have hd : (x.on == -1) = false := by simp [ho]
  rw [onB_kat]
  clear hh ho
  obtain ⟨a, c, rfl, _⟩ := h.opened
  have H := Lib.hid h
  have HG := Lib.hid G
  obtain ⟨n, hn⟩ : ∃ n, ns.length = n := ⟨_, rfl⟩
  rw [hn] at H ⊢
  have HL := Lib.hid hl
  have N0 := Lib.hid (Nb.start w [.int .i64 g, .slice a n c] [.int .i64 x.key, .int .i64 x.on, .int .i64 x.say, .int .i64 x.ask, .int .i64 x.tell] 29 47)
  clear h hn hl G
  cases hk : katB ns x.on
  · have HK := Lib.hid hk
    have HX := Lib.hid (show (decide (x.key = 0) && false && tokB g (nth (keysN ns) x.on.toNat) x.say x.ask x.tell) = false by simp)
    rw [HX.out]
    clear hk
    go_enter Tryd.func41, Tryd.ntmps41
    go_wp2_with fail
    refine (inc_any _ ns x _ (H.out.on N0.out.be)).mono ?_
    rintro e w1 ⟨rfl, hb⟩
    rw [HH.out]
    have N1 := Lib.hid (N0.out.on hb)
    clear hb
    have q00 := N1.out.b0.cell 0
    have q01 := N1.out.b0.cell 1
    have q11 := N1.out.b1.cell 1
    simp at q00 q01 q11
    go_wp2_with fail
    refine (ikat_no g _ ns x.on _ (H.out.on N1.out.be) HL.out HK.out).mono ?_
    rintro e w2 ⟨rfl, hb⟩
    have N2 := Lib.hid (N1.out.on hb)
    clear hb q00 q01 q11
    go_wp2
    go_ret
    exact ⟨rfl, N2.out.be⟩
  · have HK := Lib.hid hk
    clear hk
    obtain ⟨y, hy⟩ : ∃ y, nth (keysN ns) x.on.toNat = y := ⟨_, rfl⟩
    rw [hy]
    have HY := Lib.hid hy
    clear hy
    by_cases h0 : x.key = 0
    · have h0d : (x.key == 0) = true := by simp [h0]
      have HX := Lib.hid (show (decide (x.key = 0) && true && tokB g y x.say x.ask x.tell) = tokB g y x.say x.ask x.tell by simp [h0])
      rw [HX.out]
      clear h0
      go_enter Tryd.func41, Tryd.ntmps41
      go_wp2_with fail
      refine (inc_any _ ns x _ (H.out.on N0.out.be)).mono ?_
      rintro e w1 ⟨rfl, hb⟩
      rw [HH.out]
      have N1 := Lib.hid (N0.out.on hb)
      clear hb
      have q00 := N1.out.b0.cell 0
      have q01 := N1.out.b0.cell 1
      have q11 := N1.out.b1.cell 1
      simp at q00 q01 q11
      go_wp2_with fail
      refine (ikat_yes g _ ns x.on _ (H.out.on N1.out.be) HL.out HK.out).mono ?_
      rintro e w2 ⟨rfl, hb⟩
      rw [HY.out]
      have N2 := Lib.hid (N1.out.on hb)
      clear hb q00 q01 q11
      have q00 := N2.out.b0.cell 0
      have q10 := N2.out.b1.cell 0
      have q12 := N2.out.b1.cell 2
      have q13 := N2.out.b1.cell 3
      have q14 := N2.out.b1.cell 4
      simp at q00 q10 q12 q13 q14
      go_wp2_with fail
      refine (itok_any g y x.say x.ask x.tell _ (HG.out.on N2.out.be)).mono ?_
      rintro e w3 ⟨rfl, hb⟩
      have N3 := Lib.hid (N2.out.on hb)
      clear hb q00 q10 q12 q13 q14
      go_wp2
      go_ret
      exact ⟨rfl, N3.out.be⟩
    · have h0d : (x.key == 0) = false := by simp [h0]
      have HX := Lib.hid (show (decide (x.key = 0) && true && tokB g y x.say x.ask x.tell) = false by simp [h0])
      rw [HX.out]
      clear h0
      go_enter Tryd.func41, Tryd.ntmps41
      go_wp2_with fail
      refine (inc_any _ ns x _ (H.out.on N0.out.be)).mono ?_
      rintro e w1 ⟨rfl, hb⟩
      rw [HH.out]
      have N1 := Lib.hid (N0.out.on hb)
      clear hb
      have q00 := N1.out.b0.cell 0
      have q01 := N1.out.b0.cell 1
      have q11 := N1.out.b1.cell 1
      simp at q00 q01 q11
      go_wp2_with fail
      refine (ikat_yes g _ ns x.on _ (H.out.on N1.out.be) HL.out HK.out).mono ?_
      rintro e w2 ⟨rfl, hb⟩
      rw [HY.out]
      have N2 := Lib.hid (N1.out.on hb)
      clear hb q00 q01 q11
      have q00 := N2.out.b0.cell 0
      have q10 := N2.out.b1.cell 0
      have q12 := N2.out.b1.cell 2
      have q13 := N2.out.b1.cell 3
      have q14 := N2.out.b1.cell 4
      simp at q00 q10 q12 q13 q14
      go_wp2
      go_ret
      exact ⟨rfl, N2.out.be⟩
theorem inf_any (g : Int) (v : Value) (ns : List Nt) (x : Nt) (w : World) (G : Gr w) (h : Nts w v ns) (hl : ns.length ≤ 2000000) : Calls Tryd.prog 41 #[.agg #[.int .i64 g, v], .agg #[.int .i64 x.key, .int .i64 x.on, .int .i64 x.say, .int .i64 x.ask, .int .i64 x.tell]] w fun e w' => e = .returned (.bool (fitB g ns x)) ∧ Below w.heap.size w w' := by
  cases hh : hasN ns x
  · by_cases ho : x.on = -1
    · rw [fit_key hh ho]; exact inf_key g v ns x w G h hl hh ho
    · rw [fit_on hh ho]; exact inf_on g v ns x w G h hl hh ho
  · rw [fit_has hh]; exact inf_has g v ns x w G h hl hh
theorem inf_is {g : Int} {v : Value} {ns : List Nt} {x : Nt} {w : World} {b : Bool} (hb : fitB g ns x = b) (G : Gr w) (h : Nts w v ns) (hl : ns.length ≤ 2000000) : Calls Tryd.prog 41 #[.agg #[.int .i64 g, v], .agg #[.int .i64 x.key, .int .i64 x.on, .int .i64 x.say, .int .i64 x.ask, .int .i64 x.tell]] w fun e w' => e = .returned (.bool b) ∧ Below w.heap.size w w' := by rw [← hb]; exact inf_any g v ns x w G h hl

set_option maxRecDepth 20000 in
set_option maxHeartbeats 3200000 in
theorem ibrd_any (g : Int) (v : Value) (ns : List Nt) (w : World) (G : Gr w) (h : Nts w v ns) (hl : ns.length ≤ 2000000) : Calls Tryd.prog 13 #[.agg #[.int .i64 g, v]] w fun e w' => e = .returned (.bool (brdB g ns)) ∧ Below w.heap.size w w' := by
  obtain ⟨a, c, rfl, k1⟩ := h.opened
  obtain ⟨n, hn⟩ : ∃ n, ns.length = n := ⟨_, rfl⟩
  have hcp := k1.cap
  have HG := Lib.hid G
  have HC := Lib.hid (fun w' (hb : Below w.heap.size w w') k (hk : k < n) => (k1.on hb).get k (by rw [hn]; exact hk))
  have HP := Lib.hid (fun w' (hb : Below w.heap.size w w') k (hk : k < n) => (show Nts w' (.slice a n c) ns by rw [← hn]; exact h.on hb).pre hn (by omega) (Nat.le_of_lt hk))
  have HPL := Lib.hid (fun k => Nat.le_trans (List.length_take_le' k ns) hl)
  have HBN := Lib.hid (fun k (hk : k < n) (hf : fitB g (ns.take k) (nthN ns k) = false) => brd_no (by rw [hn]; exact hk) hf)
  have HBY := Lib.hid (fun (hf : FitTo g ns n) => brd_fits (show FitTo g ns ns.length by rw [hn]; exact hf))
  have HBG := Lib.hid (fun (hg : gok g = false) => brd_gok (ns := ns) hg)
  have HBL := Lib.hid (fun (hx : ¬ n ≤ 12) => brd_len (g := g) (ns := ns) (by rw [hn]; exact hx))
  have IB0 := Lib.hid (InB.start w [.int .i64 g, .slice a n c] 29)
  have HNL := Lib.hid hn
  rw [hn] at hcp hl ⊢
  clear h k1 hn G
  cases hg : gok g
  · have HX := Lib.hid (HBG.out hg)
    go_enter Tryd.func13, Tryd.ntmps13
    go_wp2_with fail
    refine (groupOk_any g _).mono ?_
    rintro e w1 ⟨rfl, rfl⟩
    rw [hg]
    go_wp2
    go_ret
    exact ⟨by rw [HX.out]; try rfl, IB0.out.fin⟩
  · have HGK := Lib.hid hg
    by_cases h12 : n ≤ 12
    · have hd12 : decide (12 < n) = false := by simp; omega
      have hd12i : decide ((12 : Int) < (n : Int)) = false := by simp; omega
      go_enter Tryd.func13, Tryd.ntmps13
      go_wp2_with fail
      refine (groupOk_any g _).mono ?_
      rintro e w1 ⟨rfl, rfl⟩
      rw [HGK.out]
      go_wp2
      go_loopw [19] (fun i wr => ∃ k : Nat, k ≤ n ∧ i = .int .i64 k ∧ Hid (FitTo g ns k) ∧ Hid (InB w [.int .i64 g, .slice a n c] 29 wr)) (fun i _ => n - (intOf i).toNat)
      case atStart => exact ⟨0, by omega, rfl, Lib.hid (FitTo.zero _ _), IB0⟩
      case round =>
        obtain ⟨k, hk, rfl, hf, hb⟩ := hrel
        by_cases hlt : k < n
        · obtain ⟨A, rfl, _, hc⟩ := HC.out _ hb.out.fin k hlt
          obtain ⟨y, hy⟩ : ∃ y, nthN ns k = y := ⟨_, rfl⟩
          rw [hy] at hc
          have HYk := Lib.hid hy
          obtain ⟨c0, c1, c2, c3, c4⟩ := hc
          have hlt1 : (k : Int) < (n : Int) := by omega
          have hkc : k ≤ c := by omega
          have hb0 := hb.out.box
          have p0 := hb0.cell 0
          have p1 := hb0.cell 1
          simp at p0 p1
          have I1 := Lib.hid (hb.out.on (below_grow wr (.cells #[.int .i64 y.key, .int .i64 y.on, .int .i64 y.say, .int .i64 y.ask, .int .i64 y.tell] 47)))
          have W1 := Lib.hid (Box.made wr [.int .i64 y.key, .int .i64 y.on, .int .i64 y.say, .int .i64 y.ask, .int .i64 y.tell] 47)
          clear hy hb0 hb
          go_upto_region 6 with (fail)
          clear c0 c1 c2 c3 c4 p0 p1
          obtain ⟨wn, hwn⟩ : ∃ z, z = wr.alloc (.cells #[.int .i64 y.key, .int .i64 y.on, .int .i64 y.say, .int .i64 y.ask, .int .i64 y.tell] 47) := ⟨_, rfl⟩
          have hsz : wr.heap.size + 1 = wn.heap.size := by rw [hwn]; simp
          have I2 : Hid (InB w [.int .i64 g, .slice (some ⟨A, 0, none⟩) n c] 29 wn) := Lib.hid (by rw [hwn]; exact I1.out)
          have W2 : Hid (Box wn wr.heap.size [.int .i64 y.key, .int .i64 y.on, .int .i64 y.say, .int .i64 y.ask, .int .i64 y.tell]) := Lib.hid (by rw [hwn]; exact W1.out)
          rw [← hwn]
          clear hwn I1 W1
          go_wp2_with fail
          apply wp_region_H (Z := List Cp × Option (Nat × List Value)) (S := fun k => k == 7 || k == 8) (C := fun z w' => Hid (Zx wn z.1 z.2 w')) [0, 1, 2, 3, 4, 5, 6] ([], none)
          · kernel_rfl
          · kernel_rfl
          · kernel_rfl
          · exact ⟨rfl, rfl, rfl, rfl, rfl, rfl, rfl, trivial⟩
          · rfl
          · decide
          · exact Lib.hid (Zx.start (Below.refl _ _).drew)
          · intro z
            dsimp only [pickL, nthO]
            go_big_quiet_want; go_big_quiet_op; first | go_big_quiet_on | (refine ⟨_, fun _ _ => rfl, ?_⟩; go_big_quiet_on)
            go_big_quiet_want
            go_big_quiet_op
            refine ⟨.int .i64 g, fun w' hw' => ?_, ?_⟩
            · have q := (I2.out.on hw'.out.be).box.cell 0
              simp at q
              simp [go_sem, q]
            go_big_quiet_on
            go_big_quiet_want; go_big_quiet_op; first | go_big_quiet_on | (refine ⟨_, fun _ _ => rfl, ?_⟩; go_big_quiet_on)
            go_big_quiet_want
            go_big_quiet_op
            refine ⟨.slice (some ⟨A, 0, none⟩) n c, fun w' hw' => ?_, ?_⟩
            · have q := (I2.out.on hw'.out.be).box.cell 1
              simp at q
              simp [go_sem, q]
            go_big_quiet_on
            go_big_quiet_want; go_big_quiet_op; first | go_big_quiet_on | (refine ⟨_, fun _ _ => rfl, ?_⟩; go_big_quiet_on)
            go_big_quiet_want
            go_big_quiet_op
            refine ⟨.slice (some ⟨A, 0, none⟩) k c, fun w' hw' => ?_, ?_⟩
            · simp [go_sem]
            go_big_quiet_on
            go_big_quiet_want; go_big_quiet_op; first | go_big_quiet_on | (refine ⟨_, fun _ _ => rfl, ?_⟩; go_big_quiet_on)
            exact wpQuiet_nil rfl
          · skip
            refine wpAnyH_special (i := 7) (d := some 5) rfl (by kernel_rfl) rfl rfl (by kernel_rfl) fun wN hc => ⟨.pointer (some ⟨wN.heap.size, 0, none⟩), wN.alloc (.cells #[.int .i64 0, .slice none 0 0] 29), ([], some (wN.heap.size, [.int .i64 0, .slice none 0 0])), .inl (by kernel_rfl), Lib.hid (hc.out.made [.int .i64 0, .slice none 0 0] _), ?_⟩
            clear hc
            refine wpAnyH_special (i := 8) (d := none) rfl (by kernel_rfl) rfl rfl (by kernel_rfl) fun we he => ?_
            have kb := (he.out.bx _ _ rfl).2.1
            have k0 := kb.cell 0; have f0 := kb.frozen 0
            have k1 := kb.cell 1; have f1 := kb.frozen 1
            simp at k0 k1
            refine ⟨undef, ((we.setCell ⟨wN.heap.size, 0, none⟩ (.int .i64 g)).setCell ⟨wN.heap.size, 1, none⟩ (.slice (some ⟨A, 0, none⟩) k c)), ([], some (wN.heap.size, [.int .i64 g, .slice (some ⟨A, 0, none⟩) k c])), .inr ⟨by simp [go_sem, Act.put, k0, f0, k1, f1], rfl⟩, Lib.hid ((he.out.put 0 _).put 1 _), ?_⟩
            clear he kb k0 f0 k1 f1
            refine ⟨by kernel_rfl, fun w3 hz => ?_⟩
            simp only [Act.put, List.setIfInBounds_toArray, List.set_cons_zero, List.set_cons_succ]
            have hb3 := hz.out.be
            obtain ⟨hN, hB, _⟩ := hz.out.bx _ _ rfl
            have I3 := Lib.hid (I2.out.on hb3)
            have W3 := Lib.hid (W2.out.on hb3)
            have B3 := Lib.hid hB
            have P3 := Lib.hid (HP.out _ I3.out.fin k hlt)
            have s0 := B3.out.cell 0
            have s1 := B3.out.cell 1
            have t0 := W3.out.cell 0
            have t1 := W3.out.cell 1
            have t2 := W3.out.cell 2
            have t3 := W3.out.cell 3
            have t4 := W3.out.cell 4
            simp at s0 s1 t0 t1 t2 t3 t4
            clear hb3 hN hB hz I2 W2
            cases hfit : fitB g (ns.take k) y
            · have HF := Lib.hid hfit
              clear hfit
              go_wp2_with fail
              refine (inf_is HF.out (HG.out.on I3.out.fin) P3.out (HPL.out k)).mono ?_
              rintro e w4 ⟨rfl, hb4⟩
              have I4 := Lib.hid (I3.out.on hb4)
              clear hb4 s0 s1 t0 t1 t2 t3 t4
              have HX := Lib.hid (HBN.out k hlt (by rw [HYk.out]; exact HF.out))
              go_wp2
              go_ret
              exact ⟨by rw [HX.out]; try rfl, I4.out.fin⟩
            · have HF := Lib.hid hfit
              clear hfit
              go_wp2_with fail
              refine (inf_is HF.out (HG.out.on I3.out.fin) P3.out (HPL.out k)).mono ?_
              rintro e w4 ⟨rfl, hb4⟩
              have I4 := Lib.hid (I3.out.on hb4)
              clear hb4 s0 s1 t0 t1 t2 t3 t4
              have F4 := Lib.hid (hf.out.succ (by rw [HYk.out]; exact HF.out))
              go_wp2
              go_roundw
              case rel => exact ⟨k + 1, by omega, by go_num, F4, I4⟩
              case measure => simp [intOf]; omega
        · obtain rfl : k = n := by omega
          have HX := Lib.hid (show brdB g ns = true by rw [HBY.out hf.out, HGK.out, HNL.out]; simpa using h12)
          go_wp2
          go_ret
          exact ⟨by rw [HX.out]; try rfl, hb.out.fin⟩
    · have hd12 : decide (12 < n) = true := by simp; omega
      have hd12i : decide ((12 : Int) < (n : Int)) = true := by simp; omega
      have HX := Lib.hid (HBL.out h12)
      go_enter Tryd.func13, Tryd.ntmps13
      go_wp2_with fail
      refine (groupOk_any g _).mono ?_
      rintro e w1 ⟨rfl, rfl⟩
      rw [HGK.out]
      go_wp2
      go_ret
      exact ⟨by rw [HX.out]; try rfl, IB0.out.fin⟩
end Go.Proofs.YtiinifcepcaonaaDoor

/- spec: l10Keys, l10Note, BoardOk, KeysOn. -/
namespace Go.Proofs.YtiinifcepcaonaaDoor
open Go.RowKit

set_option maxRecDepth 20000 in
set_option maxHeartbeats 1600000 in
theorem skeys_any (g : Int) (v : Value) (ns : List Nt) (w : World) (h : Nts w v ns) (hl : ns.length ≤ 2000000) : Calls Tryd.prog 43 #[.agg #[.int .i64 g, v]] w fun e w' => ∃ u, e = .returned u ∧ Own w' w.heap.size u (keysN ns) ∧ Below w.heap.size w w' := by
  obtain ⟨a, c, rfl, k1⟩ := h.opened
  obtain ⟨n, hn⟩ : ∃ n, ns.length = n := ⟨_, rfl⟩
  have HC := Lib.hid (fun w' (hb : Below w.heap.size w w') k (hk : k < n) => (k1.on hb).get k (by rw [hn]; exact hk))
  have HY := Lib.hid (show ∀ k, k < n → (nthN ns k).on = -1 → keysN (ns.take (k + 1)) = keysN (ns.take k) ++ [(nthN ns k).key] from fun k hk ho => keysN_yes (by rw [hn]; exact hk) ho)
  have HN := Lib.hid (show ∀ k, k < n → (nthN ns k).on ≠ -1 → keysN (ns.take (k + 1)) = keysN (ns.take k) from fun k hk ho => keysN_no (by rw [hn]; exact hk) ho)
  have HZ := Lib.hid (show keysN (ns.take n) = keysN ns from by rw [← hn, List.take_length])
  have HL := Lib.hid (show ∀ k, (keysN (ns.take k)).length < 1000000000 from fun k => by have := keysN_len (ns.take k); have := List.length_take_le' k ns; omega)
  have hsz0 : (w.alloc (.cells #[.int .i64 g, .slice a n c] 29)).heap.size = w.heap.size + 1 := by simp
  have IB0 := Lib.hid ((InB.start w [.int .i64 g, .slice a n c] 29).on (below_grow _ (.cells #[] 3)))
  obtain ⟨L, hL⟩ : ∃ L : Nat → List Int, ∀ k, keysN (ns.take k) = L k := ⟨_, fun _ => rfl⟩
  have HL0 := Lib.hid (show L 0 = [] from by rw [← hL]; rfl)
  have OV0 : Hid (Own ((w.alloc (.cells #[.int .i64 g, .slice a n c] 29)).alloc (.cells #[] 3)) (w.heap.size + 1) (.slice (some ⟨w.heap.size + 1, 0, none⟩) 0 0) (L 0)) := Lib.hid (by rw [HL0.out, ← hsz0]; exact own_made' _)
  simp only [hL] at HY HN HZ HL
  rw [hn] at hl ⊢
  clear h k1 hn hL hsz0
  go_enter Tryd.func43, Tryd.ntmps43
  go_wp2
  go_loopw [3, 4] (fun u i wr => ∃ k : Nat, k ≤ n ∧ i = .int .i64 k ∧ Hid (Own wr (w.heap.size + 1) u (L k)) ∧ Hid (InB w [.int .i64 g, .slice a n c] 29 wr)) (fun _ i _ => n - (intOf i).toNat)
  case atStart => exact ⟨0, by omega, rfl, OV0, IB0⟩
  case round =>
    obtain ⟨k, hk, rfl, ho, hb⟩ := hrel
    have b0 := hb.out.box.cell 1
    simp at b0
    by_cases hlt : k < n
    · obtain ⟨G, rfl, _, hc⟩ := HC.out _ hb.out.fin k hlt
      have hyes := HY.out k hlt
      have hno := HN.out k hlt
      generalize nthN ns k = y at hc hyes hno
      obtain ⟨c0, c1, c2, c3, c4⟩ := hc
      have hlt1 : (k : Int) < (n : Int) := by omega
      by_cases he : y.on = -1
      · have HX := Lib.hid (hyes he)
        have hd : (y.on == -1) = true := by simp [he]
        have ov := ho.out
        have oz := hb.out.size
        have hll := HL.out k
        clear hyes hno he
        go_wp2_with (at_builtin; refine wpAppInt rfl _ _ rfl rfl ov hll oz rfl ?_)
        intro v2 w4 o2 g2 _
        have O4 : Hid (Own w4 (w.heap.size + 1) v2 (L (k + 1))) := Lib.hid (by rw [HX.out]; exact o2)
        have I4 := Lib.hid (hb.out.grown g2 fun j hj => (ho.out.lt j hj).1)
        clear o2 g2 ov oz hll ho hb
        go_wp2
        go_roundw
        case rel => exact ⟨k + 1, by omega, by go_num, O4, I4⟩
        case measure => simp [intOf]; omega
      · have HX := Lib.hid (hno he)
        have hd : (y.on == -1) = false := by simp [he]
        clear hyes hno he
        go_wp2
        go_roundw
        case rel => exact ⟨k + 1, by omega, by go_num, Lib.hid (by rw [HX.out]; exact ho.out), hb⟩
        case measure => simp [intOf]; omega
    · obtain rfl : k = n := by omega
      go_wp2
      go_ret
      exact ⟨_, rfl, by rw [← HZ.out]; exact own_mono ho.out (Nat.le_succ _), hb.out.fin⟩

/-- Behind the call of l10Keys: the boxes, the list of notes, and the elements. -/
structure Nk (w : World) (P R : List Value) (v : Value) (ns : List Nt) (u : Value) (xs : List Int) (w' : World) : Prop where
  nb : Nb w P R w'
  nt : Nts w' v ns
  ks : Ints w' u xs
theorem Nk.on {w w1 w2 : World} {P R : List Value} {v u : Value} {ns : List Nt} {xs : List Int} (h : Hid (Nk w P R v ns u xs w1)) (hb : Below w1.heap.size w1 w2) : Hid (Nk w P R v ns u xs w2) := Lib.hid ⟨h.out.nb.on hb, h.out.nt.on hb, h.out.ks.below hb⟩
set_option maxRecDepth 20000 in
set_option maxHeartbeats 1600000 in
theorem snt_has (g : Int) (v : Value) (ns : List Nt) (x : Nt) (w : World) (h : Nts w v ns) (hh : hasN ns x = true) : Calls Tryd.prog 37 #[.agg #[.int .i64 g, v], .agg #[.int .i64 x.key, .int .i64 x.on, .int .i64 x.say, .int .i64 x.ask, .int .i64 x.tell]] w fun e w' => e = .returned (.bool false) ∧ Below w.heap.size w w' := by
  obtain ⟨a, c, rfl, k1⟩ := h.opened
  obtain ⟨n, hn⟩ : ∃ n, ns.length = n := ⟨_, rfl⟩
  have hmax := k1.max
  have HC := Lib.hid (fun w' (hb : Below w.heap.size w w') k (hk : k < n) => (k1.on hb).get k (by rw [hn]; exact hk))
  rw [hn] at hmax h ⊢
  unfold maxLen at hmax
  have H := Lib.hid h
  have N0 := Lib.hid (Nb.start w [.int .i64 g, .slice a n c] [.int .i64 x.key, .int .i64 x.on, .int .i64 x.say, .int .i64 x.ask, .int .i64 x.tell] 29 47)
  have tg := noteGuard
  have te := run_equal_note
  have HF := Lib.hid (show NotN ns x n → False from fun hj => by rw [hasN_no (by rw [hn]; exact hj)] at hh; cases hh)
  clear h hn k1 hh
  go_enter Tryd.func37, Tryd.ntmps37
  go_wp2
  go_loopw [5] (fun i wr => ∃ k : Nat, k ≤ n ∧ i = .int .i64 k ∧ Hid (NotN ns x k) ∧ Hid (Nb w [.int .i64 g, .slice a n c] [.int .i64 x.key, .int .i64 x.on, .int .i64 x.say, .int .i64 x.ask, .int .i64 x.tell] wr)) (fun i _ => n - (intOf i).toNat)
  case atStart => exact ⟨0, by omega, rfl, Lib.hid (NotN.zero _ _), N0⟩
  case round =>
    obtain ⟨k, hk, rfl, hj, hb⟩ := hrel
    obtain ⟨wo, rfl⟩ : ∃ wo : World, wo = wr := ⟨_, rfl⟩
    have q := hb.out.b1
    have p0 := hb.out.b0.cell 0
    have p1 := hb.out.b0.cell 1
    have q0 := q.cell 0
    have q1 := q.cell 1
    have q2 := q.cell 2
    have q3 := q.cell 3
    have q4 := q.cell 4
    simp at p0 p1 q0 q1 q2 q3 q4
    clear q
    by_cases hlt : k < n
    · obtain ⟨G, rfl, _, hc⟩ := HC.out _ hb.out.be k hlt
      obtain ⟨y, hy⟩ : ∃ y, nthN ns k = y := ⟨_, rfl⟩
      rw [hy] at hc
      obtain ⟨c0, c1, c2, c3, c4⟩ := hc
      have hlt1 : (k : Int) < (n : Int) := by omega
      cases he : ntB y x
      · have HJ : Hid (NotN ns x (k + 1)) := Lib.hid (hj.out.succ (by rw [hy]; exact he))
        clear hj hy
        go_wp2_with fail
        go_quiet (fail)
        clear c0 c1 c2 c3 c4 p0 p1 q0 q1 q2 q3 q4
        go_wp2
        go_roundw
        case rel => exact ⟨k + 1, by omega, by go_num, HJ, Lib.hid (hb.out.on (below_drewN (Below.refl _ _) _))⟩
        case measure => simp [intOf]; omega
      · have HE := Lib.hid he
        have HYK := Lib.hid hy
        clear hy
        go_wp2_with fail
        go_quiet (fail)
        clear c0 c1 c2 c3 c4 p0 p1 q0 q1 q2 q3 q4
        go_wp2
        go_ret
        exact ⟨rfl, (hb.out.on (below_drewN (Below.refl _ _) _)).be⟩
    · obtain rfl : k = n := by omega
      exact (HF.out hj.out).elim
set_option maxRecDepth 20000 in
set_option maxHeartbeats 3200000 in
theorem snt_key (g : Int) (v : Value) (ns : List Nt) (x : Nt) (w : World) (h : Nts w v ns) (hl : ns.length ≤ 2000000) (hh : hasN ns x = false) (ho : x.on = -1) : Calls Tryd.prog 37 #[.agg #[.int .i64 g, v], .agg #[.int .i64 x.key, .int .i64 x.on, .int .i64 x.say, .int .i64 x.ask, .int .i64 x.tell]] w fun e w' => e = .returned (.bool (elB g x.key && zerB x)) ∧ Below w.heap.size w w' := by
  obtain ⟨a, c, rfl, k1⟩ := h.opened
  obtain ⟨n, hn⟩ : ∃ n, ns.length = n := ⟨_, rfl⟩
  have hmax := k1.max
  have HC := Lib.hid (fun w' (hb : Below w.heap.size w w') k (hk : k < n) => (k1.on hb).get k (by rw [hn]; exact hk))
  rw [hn] at hmax h ⊢
  unfold maxLen at hmax
  have H := Lib.hid h
  have N0 := Lib.hid (Nb.start w [.int .i64 g, .slice a n c] [.int .i64 x.key, .int .i64 x.on, .int .i64 x.say, .int .i64 x.ask, .int .i64 x.tell] 29 47)
  have tg := noteGuard
  have te := run_equal_note
  have HNO := Lib.hid (show ∀ k, k < n → ntB (nthN ns k) x = false from fun k hk => by
    cases e : ntB (nthN ns k) x
    · rfl
    · rw [hasN_yes (by rw [hn]; exact hk) e] at hh; cases hh)
  have HL := Lib.hid hl
  have HML := Lib.hid (show (keysN ns).length ≤ maxLen from Nat.le_trans (keysN_len ns) k1.max)
  have hd : (x.on == -1) = true := by simp [ho]
  have HZ := Lib.hid (show talkB x.say x.ask x.tell 0 0 0 = zerB x from rfl)
  have tg2 := talkGuard
  have te2 := run_equal_talk
  clear h hn k1 hh hl ho
  cases he : elB g x.key
  · have HEL := Lib.hid he
    clear he
    go_enter Tryd.func37, Tryd.ntmps37
    go_wp2
    go_loopw [5] (fun i wr => ∃ k : Nat, k ≤ n ∧ i = .int .i64 k ∧ Hid (NotN ns x k) ∧ Hid (Nb w [.int .i64 g, .slice a n c] [.int .i64 x.key, .int .i64 x.on, .int .i64 x.say, .int .i64 x.ask, .int .i64 x.tell] wr)) (fun i _ => n - (intOf i).toNat)
    case atStart => exact ⟨0, by omega, rfl, Lib.hid (NotN.zero _ _), N0⟩
    case round =>
      obtain ⟨k, hk, rfl, hj, hb⟩ := hrel
      obtain ⟨wo, rfl⟩ : ∃ wo : World, wo = wr := ⟨_, rfl⟩
      have q := hb.out.b1
      have p0 := hb.out.b0.cell 0
      have p1 := hb.out.b0.cell 1
      have q0 := q.cell 0
      have q1 := q.cell 1
      have q2 := q.cell 2
      have q3 := q.cell 3
      have q4 := q.cell 4
      simp at p0 p1 q0 q1 q2 q3 q4
      clear q
      by_cases hlt : k < n
      · obtain ⟨G, rfl, _, hc⟩ := HC.out _ hb.out.be k hlt
        obtain ⟨y, hy⟩ : ∃ y, nthN ns k = y := ⟨_, rfl⟩
        rw [hy] at hc
        obtain ⟨c0, c1, c2, c3, c4⟩ := hc
        have hlt1 : (k : Int) < (n : Int) := by omega
        cases he : ntB y x
        · have HJ : Hid (NotN ns x (k + 1)) := Lib.hid (hj.out.succ (by rw [hy]; exact he))
          clear hj hy
          go_wp2_with fail
          go_quiet (fail)
          clear c0 c1 c2 c3 c4 p0 p1 q0 q1 q2 q3 q4
          go_wp2
          go_roundw
          case rel => exact ⟨k + 1, by omega, by go_num, HJ, Lib.hid (hb.out.on (below_drewN (Below.refl _ _) _))⟩
          case measure => simp [intOf]; omega
        · have HE := Lib.hid he
          have HYK := Lib.hid hy
          clear hy
          exact absurd (HNO.out k hlt) (by rw [HYK.out, HE.out]; decide)
      · obtain rfl : k = n := by omega
        go_wp2_with fail
        refine (skeys_any g _ ns _ (H.out.on hb.out.be) HL.out).mono ?_
        rintro e w1 ⟨u, rfl, ou, hb1⟩
        obtain ⟨ua, uc, hu⟩ := Own.form ou
        subst hu
        have N1 : Hid (Nk w [.int .i64 g, .slice a k c] [.int .i64 x.key, .int .i64 x.on, .int .i64 x.say, .int .i64 x.ask, .int .i64 x.tell] (.slice a k c) ns (.slice ua (keysN ns).length uc) (keysN ns) w1) := Lib.hid ⟨hb.out.on hb1, (H.out.on hb.out.be).on hb1, Ints.of_own ou HML.out⟩
        clear hb1 ou hb p0 p1 q0 q1 q2 q3 q4
        have q11 := N1.out.nb.b1.cell 1
        have q00 := N1.out.nb.b0.cell 0
        have q10 := N1.out.nb.b1.cell 0
        simp at q11 q00 q10
        go_wp2_with fail
        refine (sel_any g x.key _).mono ?_
        rintro e w2 ⟨rfl, hb2⟩
        rw [HEL.out]
        have N2 := Nk.on N1 hb2
        clear hb2 q11 q00 q10
        go_wp2
        go_ret
        exact ⟨rfl, N2.out.nb.be⟩
  · have HEL := Lib.hid he
    clear he
    go_enter Tryd.func37, Tryd.ntmps37
    go_wp2
    go_loopw [5] (fun i wr => ∃ k : Nat, k ≤ n ∧ i = .int .i64 k ∧ Hid (NotN ns x k) ∧ Hid (Nb w [.int .i64 g, .slice a n c] [.int .i64 x.key, .int .i64 x.on, .int .i64 x.say, .int .i64 x.ask, .int .i64 x.tell] wr)) (fun i _ => n - (intOf i).toNat)
    case atStart => exact ⟨0, by omega, rfl, Lib.hid (NotN.zero _ _), N0⟩
    case round =>
      obtain ⟨k, hk, rfl, hj, hb⟩ := hrel
      obtain ⟨wo, rfl⟩ : ∃ wo : World, wo = wr := ⟨_, rfl⟩
      have q := hb.out.b1
      have p0 := hb.out.b0.cell 0
      have p1 := hb.out.b0.cell 1
      have q0 := q.cell 0
      have q1 := q.cell 1
      have q2 := q.cell 2
      have q3 := q.cell 3
      have q4 := q.cell 4
      simp at p0 p1 q0 q1 q2 q3 q4
      clear q
      by_cases hlt : k < n
      · obtain ⟨G, rfl, _, hc⟩ := HC.out _ hb.out.be k hlt
        obtain ⟨y, hy⟩ : ∃ y, nthN ns k = y := ⟨_, rfl⟩
        rw [hy] at hc
        obtain ⟨c0, c1, c2, c3, c4⟩ := hc
        have hlt1 : (k : Int) < (n : Int) := by omega
        cases he : ntB y x
        · have HJ : Hid (NotN ns x (k + 1)) := Lib.hid (hj.out.succ (by rw [hy]; exact he))
          clear hj hy
          go_wp2_with fail
          go_quiet (fail)
          clear c0 c1 c2 c3 c4 p0 p1 q0 q1 q2 q3 q4
          go_wp2
          go_roundw
          case rel => exact ⟨k + 1, by omega, by go_num, HJ, Lib.hid (hb.out.on (below_drewN (Below.refl _ _) _))⟩
          case measure => simp [intOf]; omega
        · have HE := Lib.hid he
          have HYK := Lib.hid hy
          clear hy
          exact absurd (HNO.out k hlt) (by rw [HYK.out, HE.out]; decide)
      · obtain rfl : k = n := by omega
        go_wp2_with fail
        refine (skeys_any g _ ns _ (H.out.on hb.out.be) HL.out).mono ?_
        rintro e w1 ⟨u, rfl, ou, hb1⟩
        obtain ⟨ua, uc, hu⟩ := Own.form ou
        subst hu
        have N1 : Hid (Nk w [.int .i64 g, .slice a k c] [.int .i64 x.key, .int .i64 x.on, .int .i64 x.say, .int .i64 x.ask, .int .i64 x.tell] (.slice a k c) ns (.slice ua (keysN ns).length uc) (keysN ns) w1) := Lib.hid ⟨hb.out.on hb1, (H.out.on hb.out.be).on hb1, Ints.of_own ou HML.out⟩
        clear hb1 ou hb p0 p1 q0 q1 q2 q3 q4
        have q11 := N1.out.nb.b1.cell 1
        have q00 := N1.out.nb.b0.cell 0
        have q10 := N1.out.nb.b1.cell 0
        simp at q11 q00 q10
        go_wp2_with fail
        refine (sel_any g x.key _).mono ?_
        rintro e w2 ⟨rfl, hb2⟩
        rw [HEL.out]
        have N2 := Nk.on N1 hb2
        clear hb2 q11 q00 q10
        have q12 := N2.out.nb.b1.cell 2
        have q13 := N2.out.nb.b1.cell 3
        have q14 := N2.out.nb.b1.cell 4
        simp at q12 q13 q14
        go_wp2
        go_ret
        exact ⟨by rw [← HZ.out]; rfl, N2.out.nb.be⟩
theorem ints_cell {w : World} {g n c j : Nat} {xs : List Int} (h : Ints w (.slice (some ⟨g, 0, none⟩) n c) xs) (hj : j < xs.length) : w.cell? ⟨g, j, none⟩ = some (.int .i64 (nth xs j)) := by
  obtain ⟨a, c', e, k⟩ := h.opened
  obtain ⟨G, e', _, q⟩ := k.get j hj
  cases e; cases e'; exact q
theorem l1In_at {n a b : Int} {r : Bool} (h : (decide (a ≤ n) && decide (n ≤ b)) = r) (w : World) : Calls Tryd.prog 38 #[.int .i64 n, .int .i64 a, .int .i64 b] w fun e w' => e = .returned (.bool r) ∧ w = w' := by rw [← h]; exact l1In_any n a b w
set_option maxRecDepth 20000 in
set_option maxHeartbeats 6400000 in
theorem snt_on (g : Int) (v : Value) (ns : List Nt) (x : Nt) (w : World) (h : Nts w v ns) (hl : ns.length ≤ 2000000) (hh : hasN ns x = false) (ho : x.on ≠ -1) : Calls Tryd.prog 37 #[.agg #[.int .i64 g, v], .agg #[.int .i64 x.key, .int .i64 x.on, .int .i64 x.say, .int .i64 x.ask, .int .i64 x.tell]] w fun e w' => e = .returned (.bool (onB g ns x)) ∧ Below w.heap.size w w' := by
  rw [onB_kat]
  obtain ⟨a, c, rfl, k1⟩ := h.opened
  obtain ⟨n, hn⟩ : ∃ n, ns.length = n := ⟨_, rfl⟩
  have hmax := k1.max
  have HC := Lib.hid (fun w' (hb : Below w.heap.size w w') k (hk : k < n) => (k1.on hb).get k (by rw [hn]; exact hk))
  rw [hn] at hmax h ⊢
  unfold maxLen at hmax
  have H := Lib.hid h
  have N0 := Lib.hid (Nb.start w [.int .i64 g, .slice a n c] [.int .i64 x.key, .int .i64 x.on, .int .i64 x.say, .int .i64 x.ask, .int .i64 x.tell] 29 47)
  have tg := noteGuard
  have te := run_equal_note
  have HNO := Lib.hid (show ∀ k, k < n → ntB (nthN ns k) x = false from fun k hk => by
    cases e : ntB (nthN ns k) x
    · rfl
    · rw [hasN_yes (by rw [hn]; exact hk) e] at hh; cases hh)
  have HL := Lib.hid hl
  have HML := Lib.hid (show (keysN ns).length ≤ maxLen from Nat.le_trans (keysN_len ns) k1.max)
  have hd : (x.on == -1) = false := by simp [ho]
  have hkl := keysN_len ns
  obtain ⟨m, hm⟩ : ∃ m, (keysN ns).length = m := ⟨_, rfl⟩
  have hm2 : m ≤ 2000000 := by omega
  have HM := Lib.hid hm
  have HKT := Lib.hid (show katB ns x.on = (decide (0 ≤ x.on) && decide (x.on ≤ (m : Int) - 1)) by unfold katB; rw [hm]; congr 1; rw [Bool.eq_iff_iff, decide_eq_true_iff, decide_eq_true_iff]; omega)
  have hwm : IntKind.i64.wrap ((m : Int) - 1) = (m : Int) - 1 := IntWalk.i64_in _ (by omega)
  clear h hn k1 hh hl ho hkl hm
  by_cases hx : x.key = 0
  · have hxd : (x.key == 0) = true := by simp [hx]
    cases hk : katB ns x.on
    · have HIN : Hid ((decide (0 ≤ x.on) && decide (x.on ≤ (m : Int) - 1)) = false) := Lib.hid (by rw [← HKT.out]; exact hk)
      have HX := Lib.hid (show (decide (x.key = 0) && false && tokB g (nth (keysN ns) x.on.toNat) x.say x.ask x.tell) = false by simp)
      rw [HX.out]
      clear hk hx
      go_enter Tryd.func37, Tryd.ntmps37
      go_wp2
      go_loopw [5] (fun i wr => ∃ k : Nat, k ≤ n ∧ i = .int .i64 k ∧ Hid (NotN ns x k) ∧ Hid (Nb w [.int .i64 g, .slice a n c] [.int .i64 x.key, .int .i64 x.on, .int .i64 x.say, .int .i64 x.ask, .int .i64 x.tell] wr)) (fun i _ => n - (intOf i).toNat)
      case atStart => exact ⟨0, by omega, rfl, Lib.hid (NotN.zero _ _), N0⟩
      case round =>
        obtain ⟨k, hk, rfl, hj, hb⟩ := hrel
        obtain ⟨wo, rfl⟩ : ∃ wo : World, wo = wr := ⟨_, rfl⟩
        have q := hb.out.b1
        have p0 := hb.out.b0.cell 0
        have p1 := hb.out.b0.cell 1
        have q0 := q.cell 0
        have q1 := q.cell 1
        have q2 := q.cell 2
        have q3 := q.cell 3
        have q4 := q.cell 4
        simp at p0 p1 q0 q1 q2 q3 q4
        clear q
        by_cases hlt : k < n
        · obtain ⟨G, rfl, _, hc⟩ := HC.out _ hb.out.be k hlt
          obtain ⟨y, hy⟩ : ∃ y, nthN ns k = y := ⟨_, rfl⟩
          rw [hy] at hc
          obtain ⟨c0, c1, c2, c3, c4⟩ := hc
          have hlt1 : (k : Int) < (n : Int) := by omega
          cases he : ntB y x
          · have HJ : Hid (NotN ns x (k + 1)) := Lib.hid (hj.out.succ (by rw [hy]; exact he))
            clear hj hy
            go_wp2_with fail
            go_quiet (fail)
            clear c0 c1 c2 c3 c4 p0 p1 q0 q1 q2 q3 q4
            go_wp2
            go_roundw
            case rel => exact ⟨k + 1, by omega, by go_num, HJ, Lib.hid (hb.out.on (below_drewN (Below.refl _ _) _))⟩
            case measure => simp [intOf]; omega
          · have HE := Lib.hid he
            have HYK := Lib.hid hy
            clear hy
            exact absurd (HNO.out k hlt) (by rw [HYK.out, HE.out]; decide)
        · obtain rfl : k = n := by omega
          go_wp2_with fail
          refine (skeys_any g _ ns _ (H.out.on hb.out.be) HL.out).mono ?_
          rintro e w1 ⟨u, rfl, ou, hb1⟩
          obtain ⟨ua, uc, hu, hc9⟩ := (Ints.of_own ou HML.out).opened
          rw [HM.out] at hu
          subst hu
          have N1 : Hid (Nk w [.int .i64 g, .slice a k c] [.int .i64 x.key, .int .i64 x.on, .int .i64 x.say, .int .i64 x.ask, .int .i64 x.tell] (.slice a k c) ns (.slice ua m uc) (keysN ns) w1) := Lib.hid ⟨hb.out.on hb1, (H.out.on hb.out.be).on hb1, Ints.of_own ou HML.out⟩
          clear hb1 ou hb hc9 p0 p1 q0 q1 q2 q3 q4
          have q11 := N1.out.nb.b1.cell 1
          simp at q11
          go_upto_region 9 with (fail)
          clear q11
          have HD : Hid (Nk w [.int .i64 g, .slice a k c] [.int .i64 x.key, .int .i64 x.on, .int .i64 x.say, .int .i64 x.ask, .int .i64 x.tell] (.slice a k c) ns (.slice ua m uc) (keysN ns) w1.drew) := Nk.on N1 (Below.refl _ _).drew
          go_wp2_with fail
          refine wp_region_class (C := fun w' => Hid (Nk w [.int .i64 g, .slice a k c] [.int .i64 x.key, .int .i64 x.on, .int .i64 x.say, .int .i64 x.ask, .int .i64 x.tell] (.slice a k c) ns (.slice ua m uc) (keysN ns) w')) (by kernel_rfl) (by kernel_rfl) HD ?_
          repeat (first | go_big_quiet_skip | (go_big_quiet_want; go_big_quiet_op; first | go_big_quiet_on | (refine ⟨_, fun _ _ => rfl, ?_⟩; go_big_quiet_on)))
          go_big_quiet_want
          go_big_quiet_op
          refine ⟨.int .i64 x.key, fun w' hw' => ?_, ?_⟩
          · have q := hw'.out.nb.b1.cell 0
            simp at q
            simp [go_sem, q]
          go_big_quiet_on
          repeat (first | go_big_quiet_skip | (go_big_quiet_want; go_big_quiet_op; first | go_big_quiet_on | (refine ⟨_, fun _ _ => rfl, ?_⟩; go_big_quiet_on)))
          go_big_quiet_want
          go_big_quiet_op
          refine ⟨.int .i64 x.on, fun w' hw' => ?_, ?_⟩
          · have q := hw'.out.nb.b1.cell 1
            simp at q
            simp [go_sem, q]
          go_big_quiet_on
          repeat (first | go_big_quiet_skip | (go_big_quiet_want; go_big_quiet_op; first | go_big_quiet_on | (refine ⟨_, fun _ _ => rfl, ?_⟩; go_big_quiet_on)))
          go_big_quiet_want
          go_big_quiet_op
          go_big_quiet_call ((intro hw; exact (l1In_at HIN.out _).mono fun _ _ ⟨he, hw2⟩ => ⟨he, by rw [← hw2]; exact hw⟩))
          repeat (first | go_big_quiet_skip | (go_big_quiet_want; go_big_quiet_op; first | go_big_quiet_on | (refine ⟨_, fun _ _ => rfl, ?_⟩; go_big_quiet_on)))
          refine wpQuiet_nil ?_
          intro w5 hw5
          clear HD
          go_wp2
          go_ret
          exact ⟨rfl, hw5.out.nb.be⟩
    · have HIN : Hid ((decide (0 ≤ x.on) && decide (x.on ≤ (m : Int) - 1)) = true) := Lib.hid (by rw [← HKT.out]; exact hk)
      have hin := HIN.out
      simp only [Bool.and_eq_true, decide_eq_true_eq] at hin
      obtain ⟨h0, h1'⟩ := hin
      have h1 : x.on < (m : Int) := by omega
      obtain ⟨y, hy⟩ : ∃ y, nth (keysN ns) x.on.toNat = y := ⟨_, rfl⟩
      have HY := Lib.hid hy
      have HX := Lib.hid (show (decide (x.key = 0) && true && tokB g (nth (keysN ns) x.on.toNat) x.say x.ask x.tell) = tokB g y x.say x.ask x.tell by rw [hy]; simp [hx])
      rw [HX.out]
      clear hk hx hy h1'
      go_enter Tryd.func37, Tryd.ntmps37
      go_wp2
      go_loopw [5] (fun i wr => ∃ k : Nat, k ≤ n ∧ i = .int .i64 k ∧ Hid (NotN ns x k) ∧ Hid (Nb w [.int .i64 g, .slice a n c] [.int .i64 x.key, .int .i64 x.on, .int .i64 x.say, .int .i64 x.ask, .int .i64 x.tell] wr)) (fun i _ => n - (intOf i).toNat)
      case atStart => exact ⟨0, by omega, rfl, Lib.hid (NotN.zero _ _), N0⟩
      case round =>
        obtain ⟨k, hk, rfl, hj, hb⟩ := hrel
        obtain ⟨wo, rfl⟩ : ∃ wo : World, wo = wr := ⟨_, rfl⟩
        have q := hb.out.b1
        have p0 := hb.out.b0.cell 0
        have p1 := hb.out.b0.cell 1
        have q0 := q.cell 0
        have q1 := q.cell 1
        have q2 := q.cell 2
        have q3 := q.cell 3
        have q4 := q.cell 4
        simp at p0 p1 q0 q1 q2 q3 q4
        clear q
        by_cases hlt : k < n
        · obtain ⟨G, rfl, _, hc⟩ := HC.out _ hb.out.be k hlt
          obtain ⟨y, hy⟩ : ∃ y, nthN ns k = y := ⟨_, rfl⟩
          rw [hy] at hc
          obtain ⟨c0, c1, c2, c3, c4⟩ := hc
          have hlt1 : (k : Int) < (n : Int) := by omega
          cases he : ntB y x
          · have HJ : Hid (NotN ns x (k + 1)) := Lib.hid (hj.out.succ (by rw [hy]; exact he))
            clear hj hy
            go_wp2_with fail
            go_quiet (fail)
            clear c0 c1 c2 c3 c4 p0 p1 q0 q1 q2 q3 q4
            go_wp2
            go_roundw
            case rel => exact ⟨k + 1, by omega, by go_num, HJ, Lib.hid (hb.out.on (below_drewN (Below.refl _ _) _))⟩
            case measure => simp [intOf]; omega
          · have HE := Lib.hid he
            have HYK := Lib.hid hy
            clear hy
            exact absurd (HNO.out k hlt) (by rw [HYK.out, HE.out]; decide)
        · obtain rfl : k = n := by omega
          go_wp2_with fail
          refine (skeys_any g _ ns _ (H.out.on hb.out.be) HL.out).mono ?_
          rintro e w1 ⟨u, rfl, ou, hb1⟩
          obtain ⟨ua, uc, hu, hc9⟩ := (Ints.of_own ou HML.out).opened
          rw [HM.out] at hu
          subst hu
          obtain ⟨ga, rfl, _, _⟩ := hc9.get x.on.toNat (by rw [HM.out]; omega)
          have N1 : Hid (Nk w [.int .i64 g, .slice a k c] [.int .i64 x.key, .int .i64 x.on, .int .i64 x.say, .int .i64 x.ask, .int .i64 x.tell] (.slice a k c) ns (.slice (some ⟨ga, 0, none⟩) m uc) (keysN ns) w1) := Lib.hid ⟨hb.out.on hb1, (H.out.on hb.out.be).on hb1, Ints.of_own ou HML.out⟩
          clear hb1 ou hb hc9 p0 p1 q0 q1 q2 q3 q4
          have q11 := N1.out.nb.b1.cell 1
          simp at q11
          go_upto_region 9 with (fail)
          clear q11
          have HD : Hid (Nk w [.int .i64 g, .slice a k c] [.int .i64 x.key, .int .i64 x.on, .int .i64 x.say, .int .i64 x.ask, .int .i64 x.tell] (.slice a k c) ns (.slice (some ⟨ga, 0, none⟩) m uc) (keysN ns) w1.drew) := Nk.on N1 (Below.refl _ _).drew
          go_wp2_with fail
          refine wp_region_class (C := fun w' => Hid (Nk w [.int .i64 g, .slice a k c] [.int .i64 x.key, .int .i64 x.on, .int .i64 x.say, .int .i64 x.ask, .int .i64 x.tell] (.slice a k c) ns (.slice (some ⟨ga, 0, none⟩) m uc) (keysN ns) w')) (by kernel_rfl) (by kernel_rfl) HD ?_
          repeat (first | go_big_quiet_skip | (go_big_quiet_want; go_big_quiet_op; first | go_big_quiet_on | (refine ⟨_, fun _ _ => rfl, ?_⟩; go_big_quiet_on)))
          go_big_quiet_want
          go_big_quiet_op
          refine ⟨.int .i64 x.key, fun w' hw' => ?_, ?_⟩
          · have q := hw'.out.nb.b1.cell 0
            simp at q
            simp [go_sem, q]
          go_big_quiet_on
          repeat (first | go_big_quiet_skip | (go_big_quiet_want; go_big_quiet_op; first | go_big_quiet_on | (refine ⟨_, fun _ _ => rfl, ?_⟩; go_big_quiet_on)))
          go_big_quiet_want
          go_big_quiet_op
          refine ⟨.int .i64 x.on, fun w' hw' => ?_, ?_⟩
          · have q := hw'.out.nb.b1.cell 1
            simp at q
            simp [go_sem, q]
          go_big_quiet_on
          repeat (first | go_big_quiet_skip | (go_big_quiet_want; go_big_quiet_op; first | go_big_quiet_on | (refine ⟨_, fun _ _ => rfl, ?_⟩; go_big_quiet_on)))
          go_big_quiet_want
          go_big_quiet_op
          go_big_quiet_call ((intro hw; exact (l1In_at HIN.out _).mono fun _ _ ⟨he, hw2⟩ => ⟨he, by rw [← hw2]; exact hw⟩))
          repeat (first | go_big_quiet_skip | (go_big_quiet_want; go_big_quiet_op; first | go_big_quiet_on | (refine ⟨_, fun _ _ => rfl, ?_⟩; go_big_quiet_on)))
          go_big_quiet_want
          go_big_quiet_op
          refine ⟨.int .i64 g, fun w' hw' => ?_, ?_⟩
          · have q := hw'.out.nb.b0.cell 0
            simp at q
            simp [go_sem, q]
          go_big_quiet_on
          repeat (first | go_big_quiet_skip | (go_big_quiet_want; go_big_quiet_op; first | go_big_quiet_on | (refine ⟨_, fun _ _ => rfl, ?_⟩; go_big_quiet_on)))
          go_big_quiet_want
          go_big_quiet_op
          refine ⟨.int .i64 x.on, fun w' hw' => ?_, ?_⟩
          · have q := hw'.out.nb.b1.cell 1
            simp at q
            simp [go_sem, q]
          go_big_quiet_on
          repeat (first | go_big_quiet_skip | (go_big_quiet_want; go_big_quiet_op; first | go_big_quiet_on | (refine ⟨_, fun _ _ => rfl, ?_⟩; go_big_quiet_on)))
          go_big_quiet_want
          go_big_quiet_op
          refine ⟨.int .i64 y, fun w' hw' => ?_, ?_⟩
          · have q := ints_cell hw'.out.ks (j := x.on.toNat) (by rw [HM.out]; omega)
            rw [HY.out] at q
            simp [go_sem, q]
          go_big_quiet_on
          repeat (first | go_big_quiet_skip | (go_big_quiet_want; go_big_quiet_op; first | go_big_quiet_on | (refine ⟨_, fun _ _ => rfl, ?_⟩; go_big_quiet_on)))
          go_big_quiet_want
          go_big_quiet_op
          refine ⟨.agg #[.int .i64 x.say, .int .i64 x.ask, .int .i64 x.tell], fun w' hw' => ?_, ?_⟩
          · have r2 := hw'.out.nb.b1.cell 2
            have r3 := hw'.out.nb.b1.cell 3
            have r4 := hw'.out.nb.b1.cell 4
            simp at r2 r3 r4
            simp [go_sem, r2, r3, r4]
          go_big_quiet_on
          repeat (first | go_big_quiet_skip | (go_big_quiet_want; go_big_quiet_op; first | go_big_quiet_on | (refine ⟨_, fun _ _ => rfl, ?_⟩; go_big_quiet_on)))
          go_big_quiet_want
          go_big_quiet_op
          go_big_quiet_call ((intro hw; exact (stok_any g y x.say x.ask x.tell _).mono fun _ _ ⟨he, hb⟩ => ⟨he, Nk.on hw hb⟩))
          repeat (first | go_big_quiet_skip | (go_big_quiet_want; go_big_quiet_op; first | go_big_quiet_on | (refine ⟨_, fun _ _ => rfl, ?_⟩; go_big_quiet_on)))
          refine wpQuiet_nil ?_
          intro w5 hw5
          clear HD
          go_wp2
          go_ret
          exact ⟨rfl, hw5.out.nb.be⟩
  · have hxd : (x.key == 0) = false := by simp [hx]
    have HX := Lib.hid (show (decide (x.key = 0) && katB ns x.on && tokB g (nth (keysN ns) x.on.toNat) x.say x.ask x.tell) = false by simp [hx])
    rw [HX.out]
    clear hx
    go_enter Tryd.func37, Tryd.ntmps37
    go_wp2
    go_loopw [5] (fun i wr => ∃ k : Nat, k ≤ n ∧ i = .int .i64 k ∧ Hid (NotN ns x k) ∧ Hid (Nb w [.int .i64 g, .slice a n c] [.int .i64 x.key, .int .i64 x.on, .int .i64 x.say, .int .i64 x.ask, .int .i64 x.tell] wr)) (fun i _ => n - (intOf i).toNat)
    case atStart => exact ⟨0, by omega, rfl, Lib.hid (NotN.zero _ _), N0⟩
    case round =>
      obtain ⟨k, hk, rfl, hj, hb⟩ := hrel
      obtain ⟨wo, rfl⟩ : ∃ wo : World, wo = wr := ⟨_, rfl⟩
      have q := hb.out.b1
      have p0 := hb.out.b0.cell 0
      have p1 := hb.out.b0.cell 1
      have q0 := q.cell 0
      have q1 := q.cell 1
      have q2 := q.cell 2
      have q3 := q.cell 3
      have q4 := q.cell 4
      simp at p0 p1 q0 q1 q2 q3 q4
      clear q
      by_cases hlt : k < n
      · obtain ⟨G, rfl, _, hc⟩ := HC.out _ hb.out.be k hlt
        obtain ⟨y, hy⟩ : ∃ y, nthN ns k = y := ⟨_, rfl⟩
        rw [hy] at hc
        obtain ⟨c0, c1, c2, c3, c4⟩ := hc
        have hlt1 : (k : Int) < (n : Int) := by omega
        cases he : ntB y x
        · have HJ : Hid (NotN ns x (k + 1)) := Lib.hid (hj.out.succ (by rw [hy]; exact he))
          clear hj hy
          go_wp2_with fail
          go_quiet (fail)
          clear c0 c1 c2 c3 c4 p0 p1 q0 q1 q2 q3 q4
          go_wp2
          go_roundw
          case rel => exact ⟨k + 1, by omega, by go_num, HJ, Lib.hid (hb.out.on (below_drewN (Below.refl _ _) _))⟩
          case measure => simp [intOf]; omega
        · have HE := Lib.hid he
          have HYK := Lib.hid hy
          clear hy
          exact absurd (HNO.out k hlt) (by rw [HYK.out, HE.out]; decide)
      · obtain rfl : k = n := by omega
        go_wp2_with fail
        refine (skeys_any g _ ns _ (H.out.on hb.out.be) HL.out).mono ?_
        rintro e w1 ⟨u, rfl, ou, hb1⟩
        obtain ⟨ua, uc, hu, hc9⟩ := (Ints.of_own ou HML.out).opened
        rw [HM.out] at hu
        subst hu
        have N1 : Hid (Nk w [.int .i64 g, .slice a k c] [.int .i64 x.key, .int .i64 x.on, .int .i64 x.say, .int .i64 x.ask, .int .i64 x.tell] (.slice a k c) ns (.slice ua m uc) (keysN ns) w1) := Lib.hid ⟨hb.out.on hb1, (H.out.on hb.out.be).on hb1, Ints.of_own ou HML.out⟩
        clear hb1 ou hb hc9 p0 p1 q0 q1 q2 q3 q4
        have q11 := N1.out.nb.b1.cell 1
        simp at q11
        go_upto_region 9 with (fail)
        clear q11
        have HD : Hid (Nk w [.int .i64 g, .slice a k c] [.int .i64 x.key, .int .i64 x.on, .int .i64 x.say, .int .i64 x.ask, .int .i64 x.tell] (.slice a k c) ns (.slice ua m uc) (keysN ns) w1.drew) := Nk.on N1 (Below.refl _ _).drew
        go_wp2_with fail
        refine wp_region_class (C := fun w' => Hid (Nk w [.int .i64 g, .slice a k c] [.int .i64 x.key, .int .i64 x.on, .int .i64 x.say, .int .i64 x.ask, .int .i64 x.tell] (.slice a k c) ns (.slice ua m uc) (keysN ns) w')) (by kernel_rfl) (by kernel_rfl) HD ?_
        repeat (first | go_big_quiet_skip | (go_big_quiet_want; go_big_quiet_op; first | go_big_quiet_on | (refine ⟨_, fun _ _ => rfl, ?_⟩; go_big_quiet_on)))
        go_big_quiet_want
        go_big_quiet_op
        refine ⟨.int .i64 x.key, fun w' hw' => ?_, ?_⟩
        · have q := hw'.out.nb.b1.cell 0
          simp at q
          simp [go_sem, q]
        go_big_quiet_on
        repeat (first | go_big_quiet_skip | (go_big_quiet_want; go_big_quiet_op; first | go_big_quiet_on | (refine ⟨_, fun _ _ => rfl, ?_⟩; go_big_quiet_on)))
        refine wpQuiet_nil ?_
        intro w5 hw5
        clear HD
        go_wp2
        go_ret
        exact ⟨rfl, hw5.out.nb.be⟩

theorem snt_any (g : Int) (v : Value) (ns : List Nt) (x : Nt) (w : World) (h : Nts w v ns) (hl : ns.length ≤ 2000000) : Calls Tryd.prog 37 #[.agg #[.int .i64 g, v], .agg #[.int .i64 x.key, .int .i64 x.on, .int .i64 x.say, .int .i64 x.ask, .int .i64 x.tell]] w fun e w' => e = .returned (.bool (fitB g ns x)) ∧ Below w.heap.size w w' := by
  cases hh : hasN ns x
  · by_cases ho : x.on = -1
    · rw [fit_key hh ho]; exact snt_key g v ns x w h hl hh ho
    · rw [fit_on hh ho]; exact snt_on g v ns x w h hl hh ho
  · rw [fit_has hh]; exact snt_has g v ns x w h hh
theorem snt_is {g : Int} {v : Value} {ns : List Nt} {x : Nt} {w : World} {b : Bool} (hb : fitB g ns x = b) (h : Nts w v ns) (hl : ns.length ≤ 2000000) : Calls Tryd.prog 37 #[.agg #[.int .i64 g, v], .agg #[.int .i64 x.key, .int .i64 x.on, .int .i64 x.say, .int .i64 x.ask, .int .i64 x.tell]] w fun e w' => e = .returned (.bool b) ∧ Below w.heap.size w w' := by rw [← hb]; exact snt_any g v ns x w h hl

structure Bk (w : World) (P : List Value) (v : Value) (ns : List Nt) (w' : World) : Prop where
  ib : InB w P 29 w'
  nt : Nts w' v ns
theorem Bk.on {w w1 w2 : World} {P : List Value} {v : Value} {ns : List Nt} (h : Hid (Bk w P v ns w1)) (hb : Below w1.heap.size w1 w2) : Hid (Bk w P v ns w2) := Lib.hid ⟨h.out.ib.on hb, h.out.nt.on hb⟩
set_option maxRecDepth 20000 in
set_option maxHeartbeats 3200000 in
theorem sbrd_any (g : Int) (v : Value) (ns : List Nt) (w : World) (h : Nts w v ns) (hl : ns.length ≤ 2000000) : Calls Tryd.prog 11 #[.agg #[.int .i64 g, v]] w fun e w' => e = .returned (.bool (brdB g ns)) ∧ Below w.heap.size w w' := by
  obtain ⟨a, c, rfl, k1⟩ := h.opened
  obtain ⟨n, hn⟩ : ∃ n, ns.length = n := ⟨_, rfl⟩
  have hcp := k1.cap
  have hmax := k1.max
  have HA := Lib.hid (fun k (hk : k < n) => k1.get k (by rw [hn]; exact hk))
  have HAT : Hid (∀ w', Nts w' (.slice a n c) ns → ∀ k, k < n → ∃ G, a = some ⟨G, 0, none⟩ ∧ G < w'.heap.size ∧ NtAt w' G k (nthN ns k)) := Lib.hid (fun w' M k hk => by
    obtain ⟨a1, c1, q1, m1⟩ := M.opened
    obtain ⟨G, E, hl, A1⟩ := m1.get k (by rw [hn]; exact hk)
    cases q1
    exact ⟨G, E, hl, A1⟩)
  have HP : Hid (∀ w', Nts w' (.slice a n c) ns → ∀ k, k < n → Nts w' (.slice a k c) (ns.take k)) := Lib.hid (fun w' M k hk => M.pre hn (by omega) (Nat.le_of_lt hk))
  have HPL := Lib.hid (fun k => Nat.le_trans (List.length_take_le' k ns) hl)
  have HBN := Lib.hid (fun k (hk : k < n) (hf : fitB g (ns.take k) (nthN ns k) = false) => brd_no (by rw [hn]; exact hk) hf)
  have HBY := Lib.hid (show FitTo g ns n → brdB g ns = (gok g && decide (n ≤ 12)) from fun hf => by have := brd_fits (show FitTo g ns ns.length by rw [hn]; exact hf); rw [hn] at this; exact this)
  have M0 : Hid (Bk w [.int .i64 g, .slice a n c] (.slice a n c) ns (w.alloc (.cells #[.int .i64 g, .slice a n c] 29))) := Lib.hid ⟨InB.start w [.int .i64 g, .slice a n c] 29, by have := h.on (below_grow w (.cells #[.int .i64 g, .slice a ns.length c] 29)); rw [hn] at this; exact this⟩
  rw [hn] at hcp hl hmax ⊢
  unfold maxLen at hmax
  clear h k1 hn
  go_enter Tryd.func11, Tryd.ntmps11
  go_wp2
  go_loopw [3] (fun i wr => ∃ k : Nat, k ≤ n ∧ i = .int .i64 k ∧ Hid (FitTo g ns k) ∧ Hid (Bk w [.int .i64 g, .slice a n c] (.slice a n c) ns wr)) (fun i _ => n - (intOf i).toNat)
  case atStart => exact ⟨0, by omega, rfl, Lib.hid (FitTo.zero _ _), M0⟩
  case round =>
    obtain ⟨k, hk, rfl, hf, M⟩ := hrel
    obtain ⟨wo, rfl⟩ : ∃ wo : World, wo = wr := ⟨_, rfl⟩
    have p0 := M.out.ib.box.cell 0
    have p1 := M.out.ib.box.cell 1
    simp at p0 p1
    by_cases hlt : k < n
    · obtain ⟨A, rfl, _, _⟩ := HA.out k hlt
      obtain ⟨y, hy⟩ : ∃ y, nthN ns k = y := ⟨_, rfl⟩
      have HYK := Lib.hid hy
      have hlt1 : (k : Int) < (n : Int) := by omega
      have hkc : k ≤ c := by omega
      clear hy
      cases hfit : fitB g (ns.take k) y
      · have HF := Lib.hid hfit
        clear hfit
        have HD : Hid (Bk w [.int .i64 g, .slice (some ⟨A, 0, none⟩) n c] (.slice (some ⟨A, 0, none⟩) n c) ns wo.drew) := Bk.on M (Below.refl _ _).drew
        go_wp2_with fail
        refine wp_region_class (C := fun w' => Hid (Bk w [.int .i64 g, .slice (some ⟨A, 0, none⟩) n c] (.slice (some ⟨A, 0, none⟩) n c) ns w')) (by kernel_rfl) (by kernel_rfl) HD ?_
        repeat (first | go_big_quiet_skip | (go_big_quiet_want; go_big_quiet_op; first | go_big_quiet_on | (refine ⟨_, fun _ _ => rfl, ?_⟩; go_big_quiet_on)))
        go_big_quiet_want
        go_big_quiet_op
        refine ⟨.int .i64 g, fun w' hw' => ?_, ?_⟩
        · have q := hw'.out.ib.box.cell 0
          simp at q
          simp [go_sem, q]
        go_big_quiet_on
        repeat (first | go_big_quiet_skip | (go_big_quiet_want; go_big_quiet_op; first | go_big_quiet_on | (refine ⟨_, fun _ _ => rfl, ?_⟩; go_big_quiet_on)))
        go_big_quiet_want
        go_big_quiet_op
        refine ⟨.slice (some ⟨A, 0, none⟩) n c, fun w' hw' => ?_, ?_⟩
        · have q := hw'.out.ib.box.cell 1
          simp at q
          simp [go_sem, q]
        go_big_quiet_on
        repeat (first | go_big_quiet_skip | (go_big_quiet_want; go_big_quiet_op; first | go_big_quiet_on | (refine ⟨_, fun _ _ => rfl, ?_⟩; go_big_quiet_on)))
        go_big_quiet_want
        go_big_quiet_op
        refine ⟨.slice (some ⟨A, 0, none⟩) n c, fun w' hw' => ?_, ?_⟩
        · have q := hw'.out.ib.box.cell 1
          simp at q
          simp [go_sem, q]
        go_big_quiet_on
        repeat (first | go_big_quiet_skip | (go_big_quiet_want; go_big_quiet_op; first | go_big_quiet_on | (refine ⟨_, fun _ _ => rfl, ?_⟩; go_big_quiet_on)))
        go_big_quiet_want
        go_big_quiet_op
        refine ⟨.agg #[.int .i64 y.key, .int .i64 y.on, .int .i64 y.say, .int .i64 y.ask, .int .i64 y.tell], fun w' hw' => ?_, ?_⟩
        · obtain ⟨G9, e9, _, q0, q1, q2, q3, q4⟩ := HAT.out _ hw'.out.nt k hlt
          cases e9
          rw [HYK.out] at q0 q1 q2 q3 q4
          simp [go_sem, q0, q1, q2, q3, q4]
        go_big_quiet_on
        repeat (first | go_big_quiet_skip | (go_big_quiet_want; go_big_quiet_op; first | go_big_quiet_on | (refine ⟨_, fun _ _ => rfl, ?_⟩; go_big_quiet_on)))
        go_big_quiet_want
        go_big_quiet_op
        go_big_quiet_call ((intro hw; exact (snt_is HF.out (HP.out _ hw.out.nt k hlt) (HPL.out k)).mono fun _ _ ⟨he, hb⟩ => ⟨he, Bk.on hw hb⟩))
        repeat (first | go_big_quiet_skip | (go_big_quiet_want; go_big_quiet_op; first | go_big_quiet_on | (refine ⟨_, fun _ _ => rfl, ?_⟩; go_big_quiet_on)))
        refine wpQuiet_nil ?_
        intro w5 hw5
        clear HD M
        have HX := Lib.hid (HBN.out k hlt (by rw [HYK.out]; exact HF.out))
        go_wp2
        go_ret
        exact ⟨by rw [HX.out]; try rfl, hw5.out.ib.fin⟩
      · have HF := Lib.hid hfit
        clear hfit
        have HD : Hid (Bk w [.int .i64 g, .slice (some ⟨A, 0, none⟩) n c] (.slice (some ⟨A, 0, none⟩) n c) ns wo.drew) := Bk.on M (Below.refl _ _).drew
        go_wp2_with fail
        refine wp_region_class (C := fun w' => Hid (Bk w [.int .i64 g, .slice (some ⟨A, 0, none⟩) n c] (.slice (some ⟨A, 0, none⟩) n c) ns w')) (by kernel_rfl) (by kernel_rfl) HD ?_
        repeat (first | go_big_quiet_skip | (go_big_quiet_want; go_big_quiet_op; first | go_big_quiet_on | (refine ⟨_, fun _ _ => rfl, ?_⟩; go_big_quiet_on)))
        go_big_quiet_want
        go_big_quiet_op
        refine ⟨.int .i64 g, fun w' hw' => ?_, ?_⟩
        · have q := hw'.out.ib.box.cell 0
          simp at q
          simp [go_sem, q]
        go_big_quiet_on
        repeat (first | go_big_quiet_skip | (go_big_quiet_want; go_big_quiet_op; first | go_big_quiet_on | (refine ⟨_, fun _ _ => rfl, ?_⟩; go_big_quiet_on)))
        go_big_quiet_want
        go_big_quiet_op
        refine ⟨.slice (some ⟨A, 0, none⟩) n c, fun w' hw' => ?_, ?_⟩
        · have q := hw'.out.ib.box.cell 1
          simp at q
          simp [go_sem, q]
        go_big_quiet_on
        repeat (first | go_big_quiet_skip | (go_big_quiet_want; go_big_quiet_op; first | go_big_quiet_on | (refine ⟨_, fun _ _ => rfl, ?_⟩; go_big_quiet_on)))
        go_big_quiet_want
        go_big_quiet_op
        refine ⟨.slice (some ⟨A, 0, none⟩) n c, fun w' hw' => ?_, ?_⟩
        · have q := hw'.out.ib.box.cell 1
          simp at q
          simp [go_sem, q]
        go_big_quiet_on
        repeat (first | go_big_quiet_skip | (go_big_quiet_want; go_big_quiet_op; first | go_big_quiet_on | (refine ⟨_, fun _ _ => rfl, ?_⟩; go_big_quiet_on)))
        go_big_quiet_want
        go_big_quiet_op
        refine ⟨.agg #[.int .i64 y.key, .int .i64 y.on, .int .i64 y.say, .int .i64 y.ask, .int .i64 y.tell], fun w' hw' => ?_, ?_⟩
        · obtain ⟨G9, e9, _, q0, q1, q2, q3, q4⟩ := HAT.out _ hw'.out.nt k hlt
          cases e9
          rw [HYK.out] at q0 q1 q2 q3 q4
          simp [go_sem, q0, q1, q2, q3, q4]
        go_big_quiet_on
        repeat (first | go_big_quiet_skip | (go_big_quiet_want; go_big_quiet_op; first | go_big_quiet_on | (refine ⟨_, fun _ _ => rfl, ?_⟩; go_big_quiet_on)))
        go_big_quiet_want
        go_big_quiet_op
        go_big_quiet_call ((intro hw; exact (snt_is HF.out (HP.out _ hw.out.nt k hlt) (HPL.out k)).mono fun _ _ ⟨he, hb⟩ => ⟨he, Bk.on hw hb⟩))
        repeat (first | go_big_quiet_skip | (go_big_quiet_want; go_big_quiet_op; first | go_big_quiet_on | (refine ⟨_, fun _ _ => rfl, ?_⟩; go_big_quiet_on)))
        refine wpQuiet_nil ?_
        intro w5 hw5
        clear HD M
        have F4 := Lib.hid (hf.out.succ (by rw [HYK.out]; exact HF.out))
        clear hf
        go_wp2
        go_roundw
        case rel => exact ⟨k + 1, by omega, by go_num, F4, hw5⟩
        case measure => simp [intOf]; omega
    · obtain rfl : k = n := by omega
      have HX := Lib.hid (HBY.out hf.out)
      clear hf
      cases hg : gok g
      · have HG : Hid ((decide ((0 : Int) ≤ g) && decide (g ≤ 3)) = false) := Lib.hid (by rw [← hg]; unfold gok; congr 1; rw [Bool.eq_iff_iff, decide_eq_true_iff, decide_eq_true_iff]; omega)
        have HR := Lib.hid (show brdB g ns = false by rw [HX.out, hg]; rfl)
        clear hg
        go_wp2_with fail
        refine (l1In_at HG.out _).mono ?_
        rintro e w1 ⟨rfl, rfl⟩
        go_wp2
        go_ret
        exact ⟨by rw [HR.out]; try rfl, M.out.ib.fin⟩
      · have HG : Hid ((decide ((0 : Int) ≤ g) && decide (g ≤ 3)) = true) := Lib.hid (by rw [← hg]; unfold gok; congr 1; rw [Bool.eq_iff_iff, decide_eq_true_iff, decide_eq_true_iff]; omega)
        by_cases h12 : k ≤ 12
        · have hd : decide ((k : Int) ≤ 12) = true := by simp; omega
          have HR := Lib.hid (show brdB g ns = true by rw [HX.out, hg]; simpa using h12)
          clear hg
          go_wp2_with fail
          refine (l1In_at HG.out _).mono ?_
          rintro e w1 ⟨rfl, rfl⟩
          go_wp2
          go_ret
          exact ⟨by rw [HR.out]; try rfl, M.out.ib.fin⟩
        · have hd : decide ((k : Int) ≤ 12) = false := by simp; omega
          have HR := Lib.hid (show brdB g ns = false by rw [HX.out, hg]; simpa using h12)
          clear hg
          go_wp2_with fail
          refine (l1In_at HG.out _).mono ?_
          rintro e w1 ⟨rfl, rfl⟩
          go_wp2
          go_ret
          exact ⟨by rw [HR.out]; try rfl, M.out.ib.fin⟩
end Go.Proofs.YtiinifcepcaonaaDoor
