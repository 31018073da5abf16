/- impl.SolutionsOf. -/
import Derived.Test.YtljekapbcphdaabDoorLotI
namespace Go.Proofs.YtljekapbcphdaabDoor
open Go.RowKit

/-- Of the lists in a list those that are taken, so far: in memory the same lists, in a list of its own. -/
structure SolAt (w2 wr : World) (lo : Nat) (us : List Value) (L : List (List Int)) (c : List Int → Bool) (v : Value) (us' : List Value) (k : Nat) : Prop where
  own : OwnSS wr lo wr.heap.size v us' (solTo c L k)
  new : ∀ b, v.ownBlock = some b → w2.heap.size ≤ b
  src : ∀ j, j < us'.length → ∃ i, i < k ∧ val us' j = val us i
  low : Below w2.heap.size w2 wr
theorem SolAt.start (w2 : World) (lo : Nat) (us : List Value) (L : List (List Int)) (c : List Int → Bool) : SolAt w2 w2 lo us L c (.slice none 0 0) [] 0 :=
  ⟨OwnSS.nil _ _ _, fun b hb => by simp [Value.ownBlock] at hb, fun j hj => by simp at hj, Below.refl _ _⟩
theorem SolAt.on {w2 wr w3 : World} {lo : Nat} {us : List Value} {L : List (List Int)} {c : List Int → Bool} {v : Value} {us' : List Value} {k : Nat} (h : SolAt w2 wr lo us L c v us' k) (hb : Below wr.heap.size wr w3) : SolAt w2 w3 lo us L c v us' k :=
  ⟨h.own.onAll hb, h.new, h.src, Below.on h.low hb⟩
theorem SolAt.pass {w2 wr : World} {lo : Nat} {us : List Value} {L : List (List Int)} {c : List Int → Bool} {v : Value} {us' : List Value} {k : Nat} (h : SolAt w2 wr lo us L c v us' k) (hc : c (row L k) = false) : SolAt w2 wr lo us L c v us' (k + 1) :=
  ⟨by rw [solTo_no hc]; exact h.own, h.new, fun j hj => by obtain ⟨i, hi, e⟩ := h.src j hj; exact ⟨i, by omega, e⟩, h.low⟩
theorem SolAt.take {w2 wr w4 : World} {lo : Nat} {lv : Value} {us : List Value} {L : List (List Int)} {c : List Int → Bool} {v v' : Value} {us' : List Value} {k : Nat} (h : SolAt w2 wr lo us L c v us' k) (hl : OwnSS w2 lo w2.heap.size lv us L) (hk : k < us.length) (hc : c (row L k) = true)
    (ho : w4.ownsRow lo 24 1 v' (us' ++ [val us k]).length (us' ++ [val us k])) (hg : wr.grownBy w4 v.ownBlock) (hv : v'.ownBlock = v.ownBlock ∨ ∃ b, v'.ownBlock = some b ∧ wr.heap.size ≤ b) : SolAt w2 w4 lo us L c v' (us' ++ [val us k]) (k + 1) := by
  have hr : Own wr lo (val us k) (row L k) := (hl.on h.low).rows k hk
  refine ⟨?_, fun b hb => ?_, fun j hj => ?_, h.low.grown hg h.low.size h.new⟩
  · rw [solTo_yes hc]
    refine OwnSS.app h.own hg.size hg.size (Nat.le_refl _) hr (fun j hj q h1 h2 => ?_) (fun q h1 h2 => ?_) ho hg hv
    · obtain ⟨i, hi, e⟩ := h.src j hj
      rw [e] at h1
      exact hl.apart i k hi hk q h1 h2
    · have := hl.his k hk q h1
      have := h.new q h2
      omega
  · rcases hv with hv | ⟨b', hv, hb'⟩
    · exact h.new b (by rw [← hv]; exact hb)
    · rw [hv] at hb; cases hb
      exact Nat.le_trans h.low.size hb'
  · simp at hj
    by_cases e : j < us'.length
    · obtain ⟨i, hi, e2⟩ := h.src j e
      exact ⟨i, by omega, by rw [val_app e]; exact e2⟩
    · obtain rfl : j = us'.length := by omega
      exact ⟨k, by omega, val_last⟩

theorem sols_yes {g : Int} {rows : List (List Int)} {makes : List Int} (h : clB g rows makes = true) : sols g rows makes = solTo (solvB g rows makes) (lots (ord g).toNat (unk rows)) (lots (ord g).toNat (unk rows)).length := by
  unfold sols; rw [if_pos h, lots_len]
theorem sols_no {g : Int} {rows : List (List Int)} {makes : List Int} (h : clB g rows makes = false) : sols g rows makes = [] := by
  unfold sols; rw [h]; rfl
theorem lots_le {g : Int} {rows : List (List Int)} {makes : List Int} (h : Cl g rows makes) : (lots (ord g).toNat (unk rows)).length ≤ 600 := by
  obtain ⟨o1, o2⟩ := ord_bd h.g0 h.g4
  rw [lots_len]
  have : unk rows = 1 ∨ unk rows = 2 := by have := h.u1; have := h.u2; omega
  have hq : (ord g).toNat ≤ 23 := by omega
  rcases this with e | e <;> rw [e]
  · simp; omega
  · rw [Nat.pow_two]
    exact Nat.le_trans (Nat.mul_le_mul hq hq) (by decide)
theorem lots_has {g : Int} {rows : List (List Int)} {makes : List Int} (h : Cl g rows makes) {k : Nat} (hk : k < (lots (ord g).toNat (unk rows)).length) : (row (lots (ord g).toNat (unk rows)) k).length ≤ 2 := by
  rw [lots_row hk]; exact h.u2

set_option maxHeartbeats 3200000 in
theorem isols_any (g : Int) (rv mv : Value) (rows : List (List Int)) (makes : List Int) (w : World) (G : Gr w) (h : Cw w rv mv rows makes) :
    Calls Tryd.prog 31 #[.agg #[.int .i64 g, rv, mv]] w fun e w' => ∃ v us, e = .returned v ∧ OwnSS w' w.heap.size w'.heap.size v us (sols g rows makes) ∧ Below w.heap.size w w' := by
  have HG := Lib.hid G
  have HH := Lib.hid h
  have I0 := Lib.hid (InB.start w [.int .i64 g, rv, mv] 26)
  have p0 := I0.out.box.cell 0
  have p1 := I0.out.box.cell 1
  have p2 := I0.out.box.cell 2
  simp at p0 p1 p2
  clear h G
  cases hb : clB g rows makes
  · have HX := Lib.hid (sols_no hb)
    go_enter Tryd.func31, Tryd.ntmps31
    go_wp2_with fail
    refine (iclaim_any g rv mv rows makes _ (HG.out.on I0.out.fin) (HH.out.on I0.out.fin)).mono ?_
    rintro e w1 ⟨rfl, hb1⟩
    rw [hb]
    have I1 := Lib.hid (I0.out.on hb1)
    clear hb1 p0 p1 p2
    go_wp2
    go_ret
    exact ⟨_, [], rfl, by rw [HX.out]; exact OwnSS.nil _ _ _, I1.out.fin⟩
  · have HX := Lib.hid (sols_yes hb)
    have hcl := clB_true.1 hb
    have HCL := Lib.hid hcl
    obtain ⟨L, hL⟩ : ∃ L, lots (ord g).toNat (unk rows) = L := ⟨_, rfl⟩
    have HL6 := Lib.hid (lots_le hcl)
    have HL2 : Hid (∀ k, k < L.length → (row L k).length ≤ 2) := Lib.hid fun k hk => by rw [← hL] at hk ⊢; exact lots_has hcl hk
    have HLT := Lib.hid (ilots_any g rv mv rows makes)
    rw [hL] at HX HL6 HLT
    obtain ⟨n, hn⟩ : ∃ n, L.length = n := ⟨_, rfl⟩
    rw [hn] at HX HL6 HL2
    have HN := Lib.hid hn
    clear hL hcl hn
    go_enter Tryd.func31, Tryd.ntmps31
    go_wp2_with fail
    refine (iclaim_any g rv mv rows makes _ (HG.out.on I0.out.fin) (HH.out.on I0.out.fin)).mono ?_
    rintro e w1 ⟨rfl, hb1⟩
    rw [hb]
    have I1 := Lib.hid (I0.out.on hb1)
    clear hb1 p0 p1 p2
    have p0 := I1.out.box.cell 0
    have p1 := I1.out.box.cell 1
    have p2 := I1.out.box.cell 2
    simp at p0 p1 p2
    go_wp2_with fail
    refine (HLT.out w1 (HG.out.on I1.out.fin) (HH.out.on I1.out.fin) HCL.out).mono ?_
    rintro e w2 ⟨lv, us, rfl, ho, hb2⟩
    have I2 := Lib.hid (I1.out.on hb2)
    have LO := Lib.hid (ho.lower I1.out.size)
    obtain ⟨a, c, hlv, hcell⟩ := outer_cell ho.outer
    have hul : us.length = n := by rw [ho.len]; exact HN.out
    rw [hul] at hlv hcell
    subst hlv
    have HC : Hid (∀ w', Below w2.heap.size w2 w' → ∀ k, k < n → ∃ G0, a = some ⟨G0, 0, none⟩ ∧ w'.cell? ⟨G0, k, none⟩ = some (val us k)) := Lib.hid fun w' hb k hk => by
      obtain ⟨G0, e1, e2, e3⟩ := hcell k hk
      exact ⟨G0, e1, (hb.cell (p := ⟨G0, k, none⟩) e2).trans e3⟩
    have HUL := Lib.hid hul
    clear ho hb2 p0 p1 p2 hcell hul
    go_wp2
    go_loopw [3, 12] (fun v i wr => ∃ k : Nat, k ≤ n ∧ i = .int .i64 k ∧ Hid (∃ us', SolAt w2 wr (w.heap.size + 1) us L (solvB g rows makes) v us' k)) (fun _ i _ => n - (intOf i).toNat)
    case atStart => exact ⟨0, by omega, rfl, Lib.hid ⟨[], SolAt.start _ _ _ _ _⟩⟩
    case round =>
      obtain ⟨k, hk, rfl, hS⟩ := hrel
      obtain ⟨wo, rfl⟩ : ∃ wo : World, wo = wr := ⟨_, rfl⟩
      obtain ⟨us', hs⟩ := hS.out
      by_cases hlt : k < n
      · obtain ⟨G0, rfl, hck⟩ := HC.out _ hs.low k hlt
        have IO := Lib.hid (I2.out.on hs.low)
        have HE : Hid (∀ w', Below w2.heap.size w2 w' → Ints w' (val us k) (row L k)) := Lib.hid fun w' hb => Ints.of_own ((LO.out.on hb).rows k (by rw [HUL.out]; exact hlt)) (by have := HL2.out k hlt; unfold maxLen; omega)
        have HLOW := Lib.hid hs.low
        have hsl := solTo_len (solvB g rows makes) L k
        have hll := hs.own.len
        have h600 := HL6.out
        have HS := Lib.hid hs
        obtain ⟨va, vc, hva⟩ := Own.form (LO.out.rows k (by rw [HUL.out]; exact hlt))
        have p0 := IO.out.box.cell 0
        have p1 := IO.out.box.cell 1
        have p2 := IO.out.box.cell 2
        simp at p0 p1 p2
        clear hs hS
        cases hsv : solvB g rows makes (row L k)
        · have HV := Lib.hid hsv
          have HVA := Lib.hid hva
          clear hva
          go_wp2_with fail
          refine (isolv_any g rv mv (val us k) rows makes (row L k) _ (HG.out.on IO.out.fin) (HH.out.on IO.out.fin) (HE.out _ HLOW.out)).mono ?_
          rintro e w3 ⟨rfl, hb3⟩
          rw [hsv]
          have S3 : Hid (∃ us', SolAt w2 w3 (w.heap.size + 1) us L (solvB g rows makes) u3 us' (k + 1)) := Lib.hid ⟨_, (HS.out.on hb3).pass HV.out⟩
          clear hb3 hck p0 p1 p2 hsv
          go_wp2
          go_roundw
          case rel => exact ⟨k + 1, by omega, by go_num, S3⟩
          case measure => simp [intOf]; omega
        · have HV := Lib.hid hsv
          have HVA := Lib.hid hva
          clear hva
          go_wp2_with fail
          refine (isolv_any g rv mv (val us k) rows makes (row L k) _ (HG.out.on IO.out.fin) (HH.out.on IO.out.fin) (HE.out _ HLOW.out)).mono ?_
          rintro e w3 ⟨rfl, hb3⟩
          rw [hsv]
          have S3 := Lib.hid (HS.out.on hb3)
          clear hb3 hck p0 p1 p2 hsv HS
          have hou : w3.ownsRow (w.heap.size + 1) 24 1 u3 us'.length us' := S3.out.own.outer
          obtain ⟨u, hu⟩ : ∃ u, val us k = u := ⟨_, rfl⟩
          rw [hu] at HVA ⊢
          have hva := HVA.out
          clear HVA
          subst hva
          have HU := Lib.hid hu
          clear hu
          go_wp2_with (at_builtin; refine wpAppRow rfl _ _ rfl rfl hou (by omega) (Nat.le_trans I2.out.size S3.out.low.size) rfl rfl ?_)
          intro v4 w4 o4 g4 k4
          have S4 : Hid (∃ us', SolAt w2 w4 (w.heap.size + 1) us L (solvB g rows makes) v4 us' (k + 1)) := Lib.hid ⟨_, S3.out.take LO.out (by rw [HUL.out]; exact hlt) HV.out (by rw [HU.out]; simpa [hll] using o4) g4 k4⟩
          clear o4 g4 k4 hou S3
          go_wp2
          go_roundw
          case rel => exact ⟨k + 1, by omega, by go_num, S4⟩
          case measure => simp [intOf]; omega
      · obtain rfl : k = n := by omega
        have O5 : Hid (∃ us', OwnSS wo w.heap.size wo.heap.size u3 us' (sols g rows makes)) := Lib.hid ⟨us', by rw [HX.out]; exact hs.own.lower (Nat.le_succ _)⟩
        have B5 := Lib.hid (I2.out.on hs.low).fin
        clear hs hS
        go_wp2
        go_ret
        obtain ⟨us5, o5⟩ := O5.out
        exact ⟨_, us5, rfl, o5, B5.out⟩
end Go.Proofs.YtljekapbcphdaabDoor
