/- impl: notes compared; slices.Index, slices.Contains at notes; keysOf. -/
import Derived.Test.YtiinifcepcaonaaDoorNtl
import Derived.Test.YtiinifcepcaonaaDoorImplT
namespace Go.Proofs.YtiinifcepcaonaaDoor
open Go.RowKit

theorem noteStood : Tryd.prog.stoodInHeld 47 = false := by kernel_rfl
theorem noteGuard : Tryd.prog.eqGuardType Tryd.prog.depth 47 = false := by kernel_rfl
theorem noteFields : Tryd.prog.underlying 47 = some (.struct (Tryd.prog.fieldsOf 47)) := by kernel_rfl
theorem run_equal_note (x y : Nt) (w : World) : (Op.equalIn 10000 47 (.agg #[.int .i64 x.key, .int .i64 x.on, .int .i64 x.say, .int .i64 x.ask, .int .i64 x.tell]) (.agg #[.int .i64 y.key, .int .i64 y.on, .int .i64 y.say, .int .i64 y.ask, .int .i64 y.tell])).run Tryd.prog w = .ok (ntB x y) w := by
  rw [run_equalIn_struct w 9999 _ _ _ noteFields noteStood]
  by_cases h0 : x.key = y.key <;> by_cases h4 : x.on = y.on <;> by_cases h1 : x.say = y.say <;> by_cases h2 : x.ask = y.ask <;> by_cases h3 : x.tell = y.tell <;> simp [Program.fieldsOf, Tryd.underlying47, Tryd.underlying45, Op.eqFields, go_sem, ntB, h0, h1, h2, h3, h4, Tryd.underlying3]

/-- slices.Index at notes. -/
def ixN (ns : List Nt) (x : Nt) : Int := match ns.findIdx? (ntB x) with
  | some k => (k : Int)
  | none => -1
theorem ixN_at {ns : List Nt} {x : Nt} {k : Nat} (hk : k < ns.length) (h : NotN ns x k) (e : ntB x (nthN ns k) = true) : ixN ns x = k := by
  have : ns.findIdx? (ntB x) = some k := List.findIdx?_eq_some_iff_getElem.2 ⟨hk, by rw [← nthN_get hk]; exact e, fun j hj => by
    have := h j hj
    rw [nthN_get (by omega), ntB_symm] at this
    simpa using this⟩
  unfold ixN; rw [this]
theorem ixN_none {ns : List Nt} {x : Nt} (h : NotN ns x ns.length) : ixN ns x = -1 := by
  have : ns.findIdx? (ntB x) = none := List.findIdx?_eq_none_iff.2 fun y hy => by
    obtain ⟨j, hj, e⟩ := List.getElem_of_mem hy
    have := h j hj
    rw [nthN_get hj, e, ntB_symm] at this
    exact this
  unfold ixN; rw [this]
theorem hasN_ix (ns : List Nt) (x : Nt) : hasN ns x = decide (0 ≤ ixN ns x) := by
  unfold hasN ixN
  cases h : ns.findIdx? (ntB x) with
  | some k =>
    obtain ⟨hk, e, _⟩ := List.findIdx?_eq_some_iff_getElem.1 h
    rw [List.any_eq_true.2 ⟨ns[k], List.getElem_mem _, e⟩]; simp
  | none =>
    have := List.findIdx?_eq_none_iff.1 h
    rw [List.any_eq_false.2 fun y hy => by rw [this y hy]; simp]; rfl

set_option maxHeartbeats 1600000 in
theorem inx_any (v : Value) (ns : List Nt) (x : Nt) (w : World) (h : Nts w v ns) : Calls Tryd.prog 80 #[v, .agg #[.int .i64 x.key, .int .i64 x.on, .int .i64 x.say, .int .i64 x.ask, .int .i64 x.tell]] w fun e w' => e = .returned (.int .i64 (ixN ns x)) ∧ Below w.heap.size w w' := by
  obtain ⟨a, c, rfl, k1⟩ := h.opened
  obtain ⟨n, hn⟩ : ∃ n, ns.length = n := ⟨_, rfl⟩
  have hmax := k1.max
  have HC := Lib.hid (fun w' (hb : Below w.heap.size w w') k (hk : k < n) => (k1.on hb).get k (by rw [hn]; exact hk))
  have HY := Lib.hid (show ∀ k, k < n → NotN ns x k → ntB x (nthN ns k) = true → ixN ns x = k from fun k hk h e => ixN_at (by rw [hn]; exact hk) h e)
  have HN := Lib.hid (show NotN ns x n → ixN ns x = -1 from fun h => ixN_none (by rw [hn]; exact h))
  have IB0 := Lib.hid (InB.start w (encN x) 47)
  have tg := noteGuard
  have te := run_equal_note
  rw [hn] at hmax ⊢
  unfold maxLen at hmax
  unfold encN at IB0
  clear h k1 hn
  go_enter Tryd.func80, Tryd.ntmps80
  go_wp2
  go_loopw [8] (fun i wr => ∃ k : Nat, k ≤ n ∧ i = .int .i64 k ∧ Hid (NotN ns x k) ∧ Hid (InB w [.int .i64 x.key, .int .i64 x.on, .int .i64 x.say, .int .i64 x.ask, .int .i64 x.tell] 47 wr)) (fun i _ => n - (intOf i).toNat)
  case atStart => exact ⟨0, by omega, rfl, Lib.hid (NotN.zero _ _), IB0⟩
  case round =>
    obtain ⟨k, hk, rfl, hj, hb⟩ := hrel
    obtain ⟨wo, rfl⟩ : ∃ wo : World, wo = wr := ⟨_, rfl⟩
    by_cases hlt : k < n
    · obtain ⟨G, rfl, _, hc⟩ := HC.out _ hb.out.fin k hlt
      obtain ⟨y, hy⟩ : ∃ y, nthN ns k = y := ⟨_, rfl⟩
      rw [hy] at hc
      obtain ⟨c0, c1, c2, c3, c4⟩ := hc
      have q := hb.out.box
      have q0 := q.cell 0
      have q1 := q.cell 1
      have q2 := q.cell 2
      have q3 := q.cell 3
      have q4 := q.cell 4
      simp at q0 q1 q2 q3 q4
      have hlt1 : (k : Int) < (n : Int) := by omega
      clear q
      cases he : ntB x y
      · have HJ : Hid (NotN ns x (k + 1)) := Lib.hid (hj.out.succ (by rw [hy, ntB_symm]; exact he))
        clear hj hy
        go_wp2_with fail
        go_quiet (fail)
        clear c0 c1 c2 c3 c4 q0 q1 q2 q3 q4
        go_wp2
        go_roundw
        case rel => exact ⟨k + 1, by omega, by go_num, HJ, Lib.hid (hb.out.on (below_drewN (Below.refl _ _) _))⟩
        case measure => simp [intOf]; omega
      · have HX := Lib.hid (HY.out k hlt hj.out (by rw [hy]; exact he))
        clear hj hy
        go_wp2_with fail
        go_quiet (fail)
        clear c0 c1 c2 c3 c4 q0 q1 q2 q3 q4
        go_wp2
        go_ret
        exact ⟨by rw [HX.out]; rfl, (hb.out.on (below_drewN (Below.refl _ _) _)).fin⟩
    · obtain rfl : k = n := by omega
      have HX := Lib.hid (HN.out hj.out)
      go_wp2
      go_ret
      exact ⟨by rw [HX.out]; rfl, hb.out.fin⟩

theorem inc_any (v : Value) (ns : List Nt) (x : Nt) (w : World) (h : Nts w v ns) : Calls Tryd.prog 61 #[v, .agg #[.int .i64 x.key, .int .i64 x.on, .int .i64 x.say, .int .i64 x.ask, .int .i64 x.tell]] w fun e w' => e = .returned (.bool (hasN ns x)) ∧ Below w.heap.size w w' := by
  obtain ⟨a, c, rfl, _⟩ := h.opened
  have H := Lib.hid (h.on (below_grow w (.cells #[.int .i64 x.key, .int .i64 x.on, .int .i64 x.say, .int .i64 x.ask, .int .i64 x.tell] 47)))
  have HD := hasN_ix ns x
  obtain ⟨r, hr⟩ : ∃ r, ixN ns x = r := ⟨_, rfl⟩
  rw [hr] at HD
  have HR := Lib.hid hr
  have HX := Lib.hid HD
  clear h hr HD
  by_cases h0 : 0 ≤ r
  · have hd : decide (0 ≤ r) = true := by simpa using h0
    go_enter Tryd.func61, Tryd.ntmps61
    go_wp2_with fail
    refine (inx_any _ ns x _ H.out).mono ?_
    rintro e w1 ⟨rfl, hb⟩
    rw [HR.out]
    have B1 := Lib.hid (Below.on (below_grow w _) hb)
    clear hb
    go_wp2
    go_ret
    exact ⟨by rw [HX.out]; try simp [h0], B1.out⟩
  · have hd : decide (0 ≤ r) = false := by simpa using h0
    go_enter Tryd.func61, Tryd.ntmps61
    go_wp2_with fail
    refine (inx_any _ ns x _ H.out).mono ?_
    rintro e w1 ⟨rfl, hb⟩
    rw [HR.out]
    have B1 := Lib.hid (Below.on (below_grow w _) hb)
    clear hb
    go_wp2
    go_ret
    exact ⟨by rw [HX.out]; try simp [h0], B1.out⟩

set_option maxRecDepth 20000 in
set_option maxHeartbeats 1600000 in
theorem ikeys_any (g : Int) (v : Value) (ns : List Nt) (w : World) (h : Nts w v ns) (hl : ns.length ≤ 2000000) : Calls Tryd.prog 44 #[.agg #[.int .i64 g, v]] w fun e w' => ∃ u, e = .returned u ∧ Own w' w.heap.size u (keysN ns) ∧ Below w.heap.size w w' := by
  obtain ⟨a, c, rfl, k1⟩ := h.opened
  obtain ⟨n, hn⟩ : ∃ n, ns.length = n := ⟨_, rfl⟩
  have HC := Lib.hid (fun w' (hb : Below w.heap.size w w') k (hk : k < n) => (k1.on hb).get k (by rw [hn]; exact hk))
  have HY := Lib.hid (show ∀ k, k < n → (nthN ns k).on = -1 → keysN (ns.take (k + 1)) = keysN (ns.take k) ++ [(nthN ns k).key] from fun k hk ho => keysN_yes (by rw [hn]; exact hk) ho)
  have HN := Lib.hid (show ∀ k, k < n → (nthN ns k).on ≠ -1 → keysN (ns.take (k + 1)) = keysN (ns.take k) from fun k hk ho => keysN_no (by rw [hn]; exact hk) ho)
  have HZ := Lib.hid (show keysN (ns.take n) = keysN ns from by rw [← hn, List.take_length])
  have HL := Lib.hid (show ∀ k, (keysN (ns.take k)).length < 1000000000 from fun k => by have := keysN_len (ns.take k); have := List.length_take_le' k ns; omega)
  have IB0 := Lib.hid (InB.start w [.int .i64 g, .slice a n c] 29)
  obtain ⟨L, hL⟩ : ∃ L : Nat → List Int, ∀ k, keysN (ns.take k) = L k := ⟨_, fun _ => rfl⟩
  have HL0 := Lib.hid (show L 0 = [] from by rw [← hL]; rfl)
  simp only [hL] at HY HN HZ HL
  rw [hn] at hl ⊢
  clear h k1 hn hL
  go_enter Tryd.func44, Tryd.ntmps44
  go_wp2
  go_loopw [3, 9] (fun u i wr => ∃ k : Nat, k ≤ n ∧ i = .int .i64 k ∧ Hid (Own wr (w.heap.size + 1) u (L k)) ∧ Hid (InB w [.int .i64 g, .slice a n c] 29 wr)) (fun _ i _ => n - (intOf i).toNat)
  case atStart => exact ⟨0, by omega, rfl, Lib.hid (by rw [HL0.out]; exact World.ownsRow_nil _ _ _ _), IB0⟩
  case round =>
    obtain ⟨k, hk, rfl, ho, hb⟩ := hrel
    by_cases hlt : k < n
    · obtain ⟨G, rfl, _, hc⟩ := HC.out _ hb.out.fin k hlt
      have hyes := HY.out k hlt
      have hno := HN.out k hlt
      generalize nthN ns k = y at hc hyes hno
      obtain ⟨c0, c1, c2, c3, c4⟩ := hc
      have hlt1 : (k : Int) < (n : Int) := by omega
      have OV := Lib.hid (own_below ho.out (below_grow wr (.cells #[.int .i64 y.key, .int .i64 y.on, .int .i64 y.say, .int .i64 y.ask, .int .i64 y.tell] 47)))
      have IB := Lib.hid (hb.out.on (below_grow wr (.cells #[.int .i64 y.key, .int .i64 y.on, .int .i64 y.say, .int .i64 y.ask, .int .i64 y.tell] 47)))
      clear ho hb
      by_cases he : y.on = -1
      · have HX := Lib.hid (hyes he)
        have hd : (y.on == -1) = true := by simp [he]
        have ov := OV.out
        have oz := IB.out.size
        have hll := HL.out k
        have hsz : (wr.alloc (.cells #[.int .i64 y.key, .int .i64 y.on, .int .i64 y.say, .int .i64 y.ask, .int .i64 y.tell] 47)).heap.size = wr.heap.size + 1 := by simp
        clear hyes hno he
        go_wp2_with (at_builtin; refine wpAppInt rfl _ _ rfl rfl ov hll oz (by rw [hsz]; rfl) ?_)
        intro v2 w4 o2 g2 _
        have O4 : Hid (Own w4 (w.heap.size + 1) v2 (L (k + 1))) := Lib.hid (by rw [HX.out]; exact o2)
        have I4 := Lib.hid (IB.out.grown g2 fun j hj => (OV.out.lt j hj).1)
        clear o2 g2 ov oz hll OV IB
        go_wp2
        go_roundw
        case rel => exact ⟨k + 1, by omega, by go_num, O4, I4⟩
        case measure => simp [intOf]; omega
      · have HX := Lib.hid (hno he)
        have hd : (y.on == -1) = false := by simp [he]
        clear hyes hno he
        go_wp2
        go_roundw
        case rel => exact ⟨k + 1, by omega, by go_num, Lib.hid (by rw [HX.out]; exact OV.out), IB⟩
        case measure => simp [intOf]; omega
    · obtain rfl : k = n := by omega
      go_wp2
      go_ret
      exact ⟨_, rfl, by rw [← HZ.out]; exact own_mono ho.out (Nat.le_succ _), hb.out.fin⟩
end Go.Proofs.YtiinifcepcaonaaDoor
