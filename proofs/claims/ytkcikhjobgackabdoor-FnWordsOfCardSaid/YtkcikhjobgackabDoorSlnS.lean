/- spec.SolutionsOf. -/
import Derived.Test.YtkcikhjobgackabDoorAllS
import Derived.Test.YtkcikhjobgackabDoorClS
import Derived.Test.YtkcikhjobgackabDoorBRd
namespace Go.Proofs.YtkcikhjobgackabDoor
open Go.RowKit

/-- Of the lists in a list those that are taken, so far, in a list that was there before. -/
structure SolBt (w : World) (P : List Value) (T : TypeId) (hi0 hi2 : Nat) (wr : World) (lv : Value) (us : List Value) (L : List (List Int)) (c : List Int → Bool) (v : Value) (us' : List Value) (k : Nat) : Prop where
  own : OwnSS wr (w.heap.size + 1) wr.heap.size v us' (solTo c L k)
  new : ∀ b, v.ownBlock = some b → b < hi0 ∨ hi2 ≤ b
  src : ∀ j, j < us'.length → ∃ i, i < k ∧ val us' j = val us i
  lots : OwnSS wr hi0 hi2 lv us L
  box : InB w P T wr
  size : hi2 ≤ wr.heap.size
  base : w.heap.size + 1 ≤ hi0
section
variable {w : World} {P : List Value} {T : TypeId} {hi0 hi2 : Nat} {wr : World} {lv : Value} {us : List Value} {L : List (List Int)} {c : List Int → Bool} {v : Value} {us' : List Value} {k : Nat}
theorem SolBt.on {w3 : World} (h : SolBt w P T hi0 hi2 wr lv us L c v us' k) (hb : Below wr.heap.size wr w3) : SolBt w P T hi0 hi2 w3 lv us L c v us' k :=
  ⟨h.own.onAll hb, h.new, h.src, h.lots.on hb, h.box.on hb, Nat.le_trans h.size hb.size, h.base⟩
theorem SolBt.pass (h : SolBt w P T hi0 hi2 wr lv us L c v us' k) (hc : c (row L k) = false) : SolBt w P T hi0 hi2 wr lv us L c v us' (k + 1) :=
  ⟨by rw [solTo_no hc]; exact h.own, h.new, fun j hj => by obtain ⟨i, hi, e⟩ := h.src j hj; exact ⟨i, by omega, e⟩, h.lots, h.box, h.size, h.base⟩
theorem SolBt.take {w4 : World} {v' : Value} (h : SolBt w P T hi0 hi2 wr lv us L c v us' k) (hk : k < us.length) (hc : c (row L k) = true)
    (ho : w4.ownsRow (w.heap.size + 1) 24 1 v' (us' ++ [val us k]).length (us' ++ [val us k])) (hg : wr.grownBy w4 v.ownBlock) (hv : v'.ownBlock = v.ownBlock ∨ ∃ b, v'.ownBlock = some b ∧ wr.heap.size ≤ b) : SolBt w P T hi0 hi2 w4 lv us L c v' (us' ++ [val us k]) (k + 1) := by
  have hsz := h.size
  refine ⟨?_, fun b hb => ?_, fun j hj => ?_, ?_, h.box.grown hg (fun b hb => (h.own.outer.lt b hb).1), Nat.le_trans h.size hg.size, h.base⟩
  · rw [solTo_yes hc]
    refine OwnSS.app h.own hg.size hg.size (Nat.le_refl _) (own_mono (h.lots.rows k hk) h.base) (fun j hj q h1 h2 => ?_) (fun q h1 h2 => ?_) ho hg hv
    · obtain ⟨i, hi, e⟩ := h.src j hj
      rw [e] at h1
      exact h.lots.apart i k hi hk q h1 h2
    · have := h.lots.his k hk q h1
      have := ((h.lots.rows k hk).lt q h1).1
      have := h.new q h2
      omega
  · rcases hv with hv | ⟨b', hv, hb'⟩
    · exact h.new b (by rw [← hv]; exact hb)
    · rw [hv] at hb; cases hb
      exact .inr (Nat.le_trans h.size hb')
  · simp at hj
    by_cases e : j < us'.length
    · obtain ⟨i, hi, e2⟩ := h.src j e
      exact ⟨i, by omega, by rw [val_app e]; exact e2⟩
    · obtain rfl : j = us'.length := by omega
      exact ⟨k, by omega, val_last⟩
  · exact h.lots.heap fun q h1 h2 => hg.block q (by omega) (fun e => by have := h.new q e.symm; omega)
end

set_option maxHeartbeats 3200000 in
theorem ssols_any (g : Int) (rv mv : Value) (rows : List (List Int)) (makes : List Int) (w : World) (h : Cw w rv mv rows makes) :
    Calls Tryd.prog 27 #[.agg #[.int .i64 g, rv, mv]] w fun e w' => ∃ v us, e = .returned v ∧ OwnSS w' w.heap.size w'.heap.size v us (sols g rows makes) ∧ Below w.heap.size w w' := by
  have HH := Lib.hid h
  have hsz : (w.alloc (.cells #[.int .i64 g, rv, mv] 26)).heap.size = w.heap.size + 1 := by simp
  have O0 := ownSS_none (w.alloc (.cells #[.int .i64 g, rv, mv] 26))
  rw [hsz] at O0
  have O0 := Lib.hid O0
  have I0 := Lib.hid ((InB.start w [.int .i64 g, rv, mv] 26).on (below_grow _ (.cells #[] 24)))
  have p0 := I0.out.box.cell 0
  have p1 := I0.out.box.cell 1
  have p2 := I0.out.box.cell 2
  simp at p0 p1 p2
  clear h hsz
  cases hb : clB g rows makes
  · have HX := Lib.hid (sols_no hb)
    go_enter Tryd.func27, Tryd.ntmps27
    go_wp2_with fail
    refine (sclaim_any g rv mv rows makes _ (HH.out.on I0.out.fin)).mono ?_
    rintro e w1 ⟨rfl, hb1⟩
    rw [hb]
    have I1 := Lib.hid (I0.out.on hb1)
    have O1 := Lib.hid (O0.out.onAll hb1)
    clear hb1 p0 p1 p2
    go_wp2
    go_ret
    exact ⟨_, [], rfl, by rw [HX.out]; exact O1.out.lower (Nat.le_succ _), I1.out.fin⟩
  · have HX := Lib.hid (sols_yes hb)
    have hcl := clB_true.1 hb
    have HCL := Lib.hid hcl
    obtain ⟨L, hL⟩ : ∃ L, lots (ord g).toNat (unk rows) = L := ⟨_, rfl⟩
    have HL6 := Lib.hid (lots_le hcl)
    have HL2 : Hid (∀ k, k < L.length → (row L k).length ≤ 2) := Lib.hid fun k hk => by rw [← hL] at hk ⊢; exact lots_has hcl hk
    have HLT := Lib.hid (sall_any g rv mv rows makes)
    rw [hL] at HX HL6 HLT
    obtain ⟨n, hn⟩ : ∃ n, L.length = n := ⟨_, rfl⟩
    rw [hn] at HX HL6 HL2
    have HN := Lib.hid hn
    clear hL hcl hn
    go_enter Tryd.func27, Tryd.ntmps27
    go_wp2_with fail
    refine (sclaim_any g rv mv rows makes _ (HH.out.on I0.out.fin)).mono ?_
    rintro e w1 ⟨rfl, hb1⟩
    rw [hb]
    have I1 := Lib.hid (I0.out.on hb1)
    have O1 := Lib.hid (O0.out.onAll hb1)
    clear hb1 p0 p1 p2 O0
    have p0 := I1.out.box.cell 0
    have p1 := I1.out.box.cell 1
    have p2 := I1.out.box.cell 2
    simp at p0 p1 p2
    go_wp2_with fail
    refine (HLT.out w1 (HH.out.on I1.out.fin) HCL.out).mono ?_
    rintro e w2 ⟨lv, us, rfl, ho, hb2⟩
    have SB : Hid (SolBt w [.int .i64 g, rv, mv] 26 w1.heap.size w2.heap.size w2 lv us L (solvB g rows makes) (.slice (some ⟨w.heap.size + 1, 0, none⟩) 0 0) [] 0) := Lib.hid
      ⟨O1.out.onAll hb2, fun b hb => .inl (O1.out.hi0 b hb), fun j hj => by simp at hj, ho, I1.out.on hb2, Nat.le_refl _, I1.out.size⟩
    obtain ⟨a, c, hlv⟩ := OwnSS.form ho
    rw [HN.out] at hlv
    subst hlv
    have HUL : Hid (us.length = n) := Lib.hid (by rw [ho.len]; exact HN.out)
    clear ho hb2 p0 p1 p2 O1
    go_wp2
    go_loopw [3, 5] (fun v i wr => ∃ k : Nat, k ≤ n ∧ i = .int .i64 k ∧ Hid (∃ us', SolBt w [.int .i64 g, rv, mv] 26 w1.heap.size w2.heap.size wr (.slice a n c) us L (solvB g rows makes) v us' k)) (fun _ i _ => n - (intOf i).toNat)
    case atStart => exact ⟨0, by omega, rfl, Lib.hid ⟨[], SB.out⟩⟩
    case round =>
      obtain ⟨k, hk, rfl, hS⟩ := hrel
      obtain ⟨wo, rfl⟩ : ∃ wo : World, wo = wr := ⟨_, rfl⟩
      obtain ⟨us', hs⟩ := hS.out
      clear SB
      by_cases hlt : k < n
      · have hlt1 : (k : Int) < (n : Int) := by omega
        have hku : k < us.length := by rw [HUL.out]; exact hlt
        obtain ⟨a', c', ea, hcell⟩ := outer_cell hs.lots.outer
        rw [HUL.out] at ea
        cases ea
        obtain ⟨G0, rfl, hG0, hck⟩ := hcell k hku
        have HC : Hid (∀ w', Below wo.heap.size wo w' → w'.cell? ⟨G0, k, none⟩ = some (val us k)) := Lib.hid fun w' hb => (hb.cell (p := ⟨G0, k, none⟩) hG0).trans hck
        have HS := Lib.hid hs
        have HE : Hid (∀ w', Below wo.heap.size wo w' → Ints w' (val us k) (row L k)) := Lib.hid fun w' hb => (Ints.of_own (HS.out.lots.rows k hku) (by have := HL2.out k hlt; unfold maxLen; omega)).below hb
        have hsl := solTo_len (solvB g rows makes) L k
        have hll := hs.own.len
        have h600 := HL6.out
        obtain ⟨u, hu⟩ : ∃ u, val us k = u := ⟨_, rfl⟩
        have HU := Lib.hid hu
        obtain ⟨va, vc, hva⟩ := Own.form (hs.lots.rows k hku)
        rw [hu] at hva
        rw [hu] at HC HE
        have HVA := Lib.hid hva
        have HIB := Lib.hid hs.box
        have HBD : Hid (Below wo.heap.size wo wo.drew) := Lib.hid (Below.refl _ _).drew
        clear hs hS hcell hck hu hva
        have HSC : Hid (∀ w', Below wo.heap.size wo w' → Calls Tryd.prog 23 #[.agg #[.int .i64 g, rv, mv], u] w' fun e w'' => e = .returned (.bool (solvB g rows makes (row L k))) ∧ Below w'.heap.size w' w'') := Lib.hid fun w' hb => ssolv_any g rv mv u rows makes (row L k) w' (HH.out.on (HIB.out.on hb).fin) (HE.out _ hb)
        cases hsv : solvB g rows makes (row L k)
        all_goals
          have HV := Lib.hid hsv
          rw [hsv] at HSC
          clear hsv
          go_wp2_with fail
          refine wp_region_class (C := fun w' => Hid (Below wo.heap.size wo w')) (by kernel_rfl) (by kernel_rfl) HBD ?_
          repeat (first | go_big_quiet_skip | (go_big_quiet_want; go_big_quiet_op; first | go_big_quiet_on | (refine ⟨_, fun _ _ => rfl, ?_⟩; go_big_quiet_on)))
          go_big_quiet_want
          go_big_quiet_op
          refine ⟨.agg #[.int .i64 g, rv, mv], fun w' hw' => ?_, ?_⟩
          · have q := (HIB.out.on hw'.out).box
            have q0 := q.cell 0; have q1 := q.cell 1; have q2 := q.cell 2
            simp at q0 q1 q2
            simp [go_sem, q0, q1, q2]
          go_big_quiet_on
          repeat (first | go_big_quiet_skip | (go_big_quiet_want; go_big_quiet_op; first | go_big_quiet_on | (refine ⟨_, fun _ _ => rfl, ?_⟩; go_big_quiet_on)))
          go_big_quiet_want
          go_big_quiet_op
          refine ⟨u, fun w' hw' => ?_, ?_⟩
          · have q := HC.out w' hw'.out
            simp [go_sem, q]
          go_big_quiet_on
          repeat (first | go_big_quiet_skip | (go_big_quiet_want; go_big_quiet_op; first | go_big_quiet_on | (refine ⟨_, fun _ _ => rfl, ?_⟩; go_big_quiet_on)))
          go_big_quiet_want
          go_big_quiet_op
          go_big_quiet_call ((intro hw; exact (HSC.out _ hw.out).mono fun _ _ ⟨he, hb⟩ => ⟨he, Lib.hid (Below.on hw.out hb)⟩))
          repeat (first | go_big_quiet_skip | (go_big_quiet_want; go_big_quiet_op; first | go_big_quiet_on | (refine ⟨_, fun _ _ => rfl, ?_⟩; go_big_quiet_on)))
          refine wpQuiet_nil ?_
          intro w3 hw3
          have S3 := Lib.hid (HS.out.on hw3.out)
          have hc3 := HC.out w3 hw3.out
          clear hw3 HS HBD HE
        · have S4 : Hid (∃ us', SolBt w [.int .i64 g, rv, mv] 26 w1.heap.size w2.heap.size w3 (.slice (some ⟨G0, 0, none⟩) n c) us L (solvB g rows makes) u3 us' (k + 1)) := Lib.hid ⟨_, S3.out.pass HV.out⟩
          clear hc3 S3
          go_wp2
          go_roundw
          case rel => exact ⟨k + 1, by omega, by go_num, S4⟩
          case measure => simp [intOf]; omega
        · have hou : w3.ownsRow (w.heap.size + 1) 24 1 u3 us'.length us' := S3.out.own.outer
          have hva := HVA.out
          clear HVA
          subst hva
          have hb3 : w.heap.size + 1 ≤ w3.heap.size := S3.out.box.size
          go_wp2_with (at_builtin; refine wpAppRow rfl _ _ rfl rfl hou (by omega) hb3 rfl rfl ?_)
          intro v4 w4 o4 g4 k4
          have S4 : Hid (∃ us', SolBt w [.int .i64 g, rv, mv] 26 w1.heap.size w2.heap.size w4 (.slice (some ⟨G0, 0, none⟩) n c) us L (solvB g rows makes) v4 us' (k + 1)) := Lib.hid ⟨_, S3.out.take hku HV.out (by rw [HU.out]; simpa [hll] using o4) g4 k4⟩
          clear o4 g4 k4 hou S3 hc3 hb3
          go_wp2
          go_roundw
          case rel => exact ⟨k + 1, by omega, by go_num, S4⟩
          case measure => simp [intOf]; omega
      · obtain rfl : k = n := by omega
        have O5 : Hid (∃ us', OwnSS wo w.heap.size wo.heap.size u3 us' (sols g rows makes)) := Lib.hid ⟨us', by rw [HX.out]; exact hs.own.lower (Nat.le_succ _)⟩
        have B5 := Lib.hid hs.box.fin
        clear hs hS
        go_wp2
        go_ret
        obtain ⟨us5, o5⟩ := O5.out
        exact ⟨_, us5, rfl, o5, B5.out⟩
end Go.Proofs.YtkcikhjobgackabDoor
