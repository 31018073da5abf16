/- spec: OrdersBetween. -/
import Derived.Test.YtimkmdedoacpfabDoorBtwS
import Derived.Test.YtimkmdedoacpfabDoorOrdS
import Derived.Test.YtimkmdedoacpfabDoorBReg
namespace Go.Proofs.YtimkmdedoacpfabDoor
open Go.RowKit

/-- Of the lists in a list those that are taken, so far; W is the world in which the walk began to make memory. -/
structure SolBu (W : World) (hi0 hi2 : Nat) (wr : World) (lv : Value) (us : List Value) (L : List (List Int)) (c : List Int → Bool) (v : Value) (us' : List Value) (k : Nat) : Prop where
  own : OwnSS wr W.heap.size wr.heap.size v us' (solTo c L k)
  new : ∀ b, v.ownBlock = some b → b < hi0 ∨ hi2 ≤ b
  src : ∀ j, j < us'.length → ∃ i, i < k ∧ val us' j = val us i
  lots : OwnSS wr hi0 hi2 lv us L
  box : Below W.heap.size W wr
  size : hi2 ≤ wr.heap.size
  base : W.heap.size ≤ hi0
section
variable {W : World} {hi0 hi2 : Nat} {wr : World} {lv : Value} {us : List Value} {L : List (List Int)} {c : List Int → Bool} {v : Value} {us' : List Value} {k : Nat}
theorem SolBu.on {w3 : World} (h : SolBu W hi0 hi2 wr lv us L c v us' k) (hb : Below wr.heap.size wr w3) : SolBu W hi0 hi2 w3 lv us L c v us' k :=
  ⟨h.own.onAll hb, h.new, h.src, h.lots.on hb, Below.on h.box hb, Nat.le_trans h.size hb.size, h.base⟩
theorem SolBu.pass (h : SolBu W hi0 hi2 wr lv us L c v us' k) (hc : c (row L k) = false) : SolBu W hi0 hi2 wr lv us L c v us' (k + 1) :=
  ⟨by rw [solTo_no hc]; exact h.own, h.new, fun j hj => by obtain ⟨i, hi, e⟩ := h.src j hj; exact ⟨i, by omega, e⟩, h.lots, h.box, h.size, h.base⟩
theorem SolBu.take {w4 : World} {v' : Value} (h : SolBu W hi0 hi2 wr lv us L c v us' k) (hk : k < us.length) (hc : c (row L k) = true)
    (ho : w4.ownsRow W.heap.size 23 1 v' (us' ++ [val us k]).length (us' ++ [val us k])) (hg : wr.grownBy w4 v.ownBlock) (hv : v'.ownBlock = v.ownBlock ∨ ∃ b, v'.ownBlock = some b ∧ wr.heap.size ≤ b) : SolBu W hi0 hi2 w4 lv us L c v' (us' ++ [val us k]) (k + 1) := by
  have hsz := h.size
  refine ⟨?_, fun b hb => ?_, fun j hj => ?_, ?_, h.box.grown hg h.box.size (fun b hb => (h.own.outer.lt b hb).1), Nat.le_trans h.size hg.size, h.base⟩
  · rw [solTo_yes hc]
    refine OwnSS.app h.own hg.size hg.size (Nat.le_refl _) (own_mono (h.lots.rows k hk) h.base) (fun j hj q h1 h2 => ?_) (fun q h1 h2 => ?_) ho hg hv
    · obtain ⟨i, hi, e⟩ := h.src j hj
      rw [e] at h1
      exact h.lots.apart i k hi hk q h1 h2
    · have := h.lots.his k hk q h1
      have := ((h.lots.rows k hk).lt q h1).1
      have := h.new q h2
      omega
  · rcases hv with hv | ⟨b', hv, hb'⟩
    · exact h.new b (by rw [← hv]; exact hb)
    · rw [hv] at hb; cases hb
      exact .inr (Nat.le_trans h.size hb')
  · simp at hj
    by_cases e : j < us'.length
    · obtain ⟨i, hi, e2⟩ := h.src j e
      exact ⟨i, by omega, by rw [val_app e]; exact e2⟩
    · obtain rfl : j = us'.length := by omega
      exact ⟨k, by omega, val_last⟩
  · exact h.lots.heap fun q h1 h2 => hg.block q (by omega) (fun e => by have := h.new q e.symm; omega)
end
def BtPost (p : Int) (g : List Int) (q : Int) (h : List Int) (w : World) (e : Ending) (w' : World) : Prop := ∃ v us, e = .returned v ∧ OwnSS w' w.heap.size w'.heap.size v us (btw p g q h) ∧ Below w.heap.size w w'
theorem ssg_ld {p : Int} {gv hv : Value} {g h x : List Int} {w : World} {r : Bool} (hr : leads g h x = r) (hg : Ints w gv (mov x g)) (hh : Ints w hv h) :
    Calls Tryd.prog 83 #[.agg #[.int .i64 p, gv], .agg #[.int .i64 p, hv]] w fun e w' => e = .returned (.bool r) ∧ Below w.heap.size w w' := ssg_is (by rw [← hr]; simp [leads]) hg hh
theorem ints_few {w : World} {v : Value} {xs : List Int} (h : Ints w v xs) : xs.length ≤ maxLen := by
  rcases h with ⟨_, rfl⟩ | ⟨_, _, _, hl, _⟩
  · simp
  · exact hl
theorem btB_no {p q : Int} {g h : List Int} (hb : btB p g q h = false) : gkB p g = false ∨ (gkB p g = true ∧ gkB q h = false) ∨ (gkB p g = true ∧ gkB q h = true ∧ p ≠ q) := by
  unfold btB at hb
  cases h1 : gkB p g
  · exact .inl rfl
  · cases h2 : gkB q h
    · exact .inr (.inl ⟨rfl, rfl⟩)
    · exact .inr (.inr ⟨rfl, rfl, fun e => by subst e; simp [h1, h2] at hb⟩)

set_option maxHeartbeats 1600000 in
theorem sbt_no (p q : Int) (gv hv : Value) (g h : List Int) (w : World) (hg : Ints w gv g) (hh : Ints w hv h) (hp : intIn p) (hq : intIn q) (hs : ∀ j, j < g.length → intIn (nth g j)) (hs' : ∀ j, j < h.length → intIn (nth h j)) (hb : btB p g q h = false) :
    Calls Tryd.prog 47 #[.agg #[.int .i64 p, gv], .agg #[.int .i64 q, hv]] w (BtPost p g q h w) := by
  obtain ⟨p0, p1, pl⟩ := boxes2 (P := [.int .i64 p, gv]) (R := [.int .i64 q, hv]) (below_grow ((w.alloc (.cells #[.int .i64 p, gv] 25)).alloc (.cells #[.int .i64 q, hv] 25)) (.cells #[] 23))
  have O0 := ownSS_none ((w.alloc (.cells #[.int .i64 p, gv] 25)).alloc (.cells #[.int .i64 q, hv] 25))
  have hz0 : ((w.alloc (.cells #[.int .i64 p, gv] 25)).alloc (.cells #[.int .i64 q, hv] 25)).heap.size = w.heap.size + 1 + 1 := by simp
  rw [hz0] at O0
  have O1 := Lib.hid (O0.lower (by omega : w.heap.size ≤ w.heap.size + 1 + 1))
  have HG := Lib.hid (show ∀ w', Below w.heap.size w w' → Ints w' gv g from fun w' hb => hg.below hb)
  have HH := Lib.hid (show ∀ w', Below w.heap.size w w' → Ints w' hv h from fun w' hb => hh.below hb)
  have HS := Lib.hid hs
  have HS' := Lib.hid hs'
  have HP := Lib.hid hp
  have HQ := Lib.hid hq
  have HX := Lib.hid (btw_no hb)
  have P0 := Lib.hid p0
  have P1 := Lib.hid p1
  have PL := Lib.hid pl
  have a0 := p0.cell 0
  have a1 := p0.cell 1
  simp at a0 a1
  clear hg hh hs hs' hp hq p0 p1 pl O0 hz0
  rcases btB_no hb with hk | ⟨hk, hk'⟩ | ⟨hk, hk', hne⟩
  · clear hb
    go_enter Tryd.func47, Tryd.ntmps47
    go_wp2_with fail
    refine (sgk_is hk (HG.out _ PL.out) HP.out HS.out).mono ?_
    rintro e w1 ⟨rfl, hb⟩
    have B1 := Lib.hid (Below.on PL.out hb)
    have O2 := Lib.hid (O1.out.onAll hb)
    clear hb a0 a1 hk
    go_wp2
    go_ret
    exact ⟨_, [], rfl, by rw [HX.out]; exact O2.out, B1.out⟩
  · clear hb
    go_enter Tryd.func47, Tryd.ntmps47
    go_wp2_with fail
    refine (sgk_is hk (HG.out _ PL.out) HP.out HS.out).mono ?_
    rintro e w1 ⟨rfl, hb⟩
    have B1 := Lib.hid (Below.on PL.out hb)
    have O2 := Lib.hid (O1.out.onAll hb)
    have r := P1.out.on hb
    have r0 := r.cell 0
    have r1 := r.cell 1
    simp at r0 r1
    clear hb a0 a1 hk r
    go_wp2_with fail
    refine (sgk_is hk' (HH.out _ B1.out) HQ.out HS'.out).mono ?_
    rintro e w2 ⟨rfl, hb⟩
    have B2 := Lib.hid (Below.on B1.out hb)
    have O3 := Lib.hid (O2.out.onAll hb)
    clear hb r0 r1 hk'
    go_wp2
    go_ret
    exact ⟨_, [], rfl, by rw [HX.out]; exact O3.out, B2.out⟩
  · have hd : (p == q) = false := by simp [hne]
    clear hb hne
    go_enter Tryd.func47, Tryd.ntmps47
    go_wp2_with fail
    refine (sgk_is hk (HG.out _ PL.out) HP.out HS.out).mono ?_
    rintro e w1 ⟨rfl, hb⟩
    have B1 := Lib.hid (Below.on PL.out hb)
    have O2 := Lib.hid (O1.out.onAll hb)
    have r := P1.out.on hb
    have P2 := Lib.hid (P0.out.on hb)
    have P3 := Lib.hid r
    have r0 := r.cell 0
    have r1 := r.cell 1
    simp at r0 r1
    clear hb a0 a1 hk r
    go_wp2_with fail
    refine (sgk_is hk' (HH.out _ B1.out) HQ.out HS'.out).mono ?_
    rintro e w2 ⟨rfl, hb⟩
    have B2 := Lib.hid (Below.on B1.out hb)
    have O3 := Lib.hid (O2.out.onAll hb)
    have a0 := (P2.out.on hb).cell 0
    have r0' := (P3.out.on hb).cell 0
    simp at a0 r0'
    clear hb r0 r1 hk'
    go_wp2
    go_ret
    exact ⟨_, [], rfl, by rw [HX.out]; exact O3.out, B2.out⟩

/-- A world behind the walk's, and (when it is made) a list of numbers in it. -/
def Mz (wo : World) (M : List Int) (z : Option Value) (w' : World) : Prop := Below wo.heap.size wo w' ∧ ∀ v, z = some v → Ints w' v M
set_option maxRecDepth 20000 in
set_option maxHeartbeats 4800000 in
theorem sbt_yes (m : Nat) (gv hv : Value) (g h : List Int) (w : World) (hg : Ints w gv g) (hh : Ints w hv h) (hp : intIn (m : Int)) (hs : ∀ j, j < g.length → intIn (nth g j)) (hs' : ∀ j, j < h.length → intIn (nth h j)) (hb : btB m g m h = true) :
    Calls Tryd.prog 47 #[.agg #[.int .i64 m, gv], .agg #[.int .i64 m, hv]] w (BtPost m g m h w) := by
  obtain ⟨p0, p1, pl⟩ := boxes2 (P := [.int .i64 m, gv]) (R := [.int .i64 m, hv]) (below_grow ((w.alloc (.cells #[.int .i64 m, gv] 25)).alloc (.cells #[.int .i64 m, hv] 25)) (.cells #[] 23))
  obtain ⟨q0, q1, ql⟩ := boxes2 (P := [.int .i64 m, gv]) (R := [.int .i64 m, hv]) (Below.refl ((w.alloc (.cells #[.int .i64 m, gv] 25)).alloc (.cells #[.int .i64 m, hv] 25)).heap.size _)
  have O0 := ownSS_none ((w.alloc (.cells #[.int .i64 m, gv] 25)).alloc (.cells #[.int .i64 m, hv] 25))
  have HB0 := below_grow ((w.alloc (.cells #[.int .i64 m, gv] 25)).alloc (.cells #[.int .i64 m, hv] 25)) (.cells #[] 23)
  have hz0 : ((w.alloc (.cells #[.int .i64 m, gv] 25)).alloc (.cells #[.int .i64 m, hv] 25)).heap.size = w.heap.size + 1 + 1 := by simp
  have HIB : Hid (∃ W : World, W.heap.size = w.heap.size + 1 + 1 ∧ Below w.heap.size w W ∧ Box W w.heap.size [.int .i64 m, gv] ∧ Box W (w.heap.size + 1) [.int .i64 m, hv] ∧ Below W.heap.size W (((w.alloc (.cells #[.int .i64 m, gv] 25)).alloc (.cells #[.int .i64 m, hv] 25)).alloc (.cells #[] 23)) ∧
      OwnSS (((w.alloc (.cells #[.int .i64 m, gv] 25)).alloc (.cells #[.int .i64 m, hv] 25)).alloc (.cells #[] 23)) W.heap.size (((w.alloc (.cells #[.int .i64 m, gv] 25)).alloc (.cells #[.int .i64 m, hv] 25)).alloc (.cells #[] 23)).heap.size (.slice (some ⟨W.heap.size, 0, none⟩) 0 0) [] []) := Lib.hid ⟨_, hz0, ql, q0, q1, HB0, O0⟩
  clear q0 q1 ql O0 HB0 hz0
  obtain ⟨W, hW, hWw, W0, W1, hWb, hWo⟩ := HIB.out
  have HW := Lib.hid hW
  have HWW := Lib.hid hWw
  have BX0 := Lib.hid W0
  have BX1 := Lib.hid W1
  have I1 := Lib.hid hWb
  have O1 := Lib.hid hWo
  clear HIB hW hWw W0 W1 hWb hWo
  have HG := Lib.hid (show ∀ w', Below W.heap.size W w' → Ints w' gv g from fun w' hb => (hg.below HWW.out).below hb)
  have HH := Lib.hid (show ∀ w', Below W.heap.size W w' → Ints w' hv h from fun w' hb => (hh.below HWW.out).below hb)
  have HS := Lib.hid hs
  have HS' := Lib.hid hs'
  have HP := Lib.hid hp
  have HX := Lib.hid (btw_yes hb)
  have hbt := btB_true.1 hb
  have HGK := Lib.hid hbt.1
  have HFEW := Lib.hid (ints_few hg)
  have HM5 : Hid (1 ≤ m ∧ m ≤ 5) := Lib.hid (by have := hbt.1.p1; have := hbt.1.p5; omega)
  have hk := gkB_true.2 hbt.1
  have hk' := gkB_true.2 hbt.2.1
  have a0 := p0.cell 0
  have a1 := p0.cell 1
  simp at a0 a1
  obtain ⟨L, hL⟩ : ∃ L, ords m = L := ⟨_, rfl⟩
  have HO : Hid (∀ w, Calls Tryd.prog 76 #[.int .i64 m] w fun e w' => ∃ v us, e = .returned v ∧ OwnSS w' w.heap.size w'.heap.size v us L ∧ Full us ∧ Below w.heap.size w w') := Lib.hid (by rw [← hL]; exact fun w => sords_any m w HM5.out.2)
  have HLL : Hid (∀ k, k < L.length → Od (row L k) m ∧ (row L k).length = m) := Lib.hid fun k hk => by
    rw [← hL] at hk ⊢
    exact ⟨(ords_mem HM5.out.1 HM5.out.2).1 (row_mem hk), ordTo_row hk⟩
  have HL3 : Hid (L.length ≤ 3125) := Lib.hid (by rw [← hL]; exact ordTo_few HM5.out.2 HM5.out.2)
  have HX2 : Hid (btw m g m h = solTo (leads g h) L L.length) := Lib.hid (by rw [HX.out, ← hL]; simp [btwL])
  obtain ⟨n, hn⟩ : ∃ n, L.length = n := ⟨_, rfl⟩
  have HN := Lib.hid hn
  rw [hn] at HX2 HL3 HLL
  clear hL hn hbt hb hg hh hs hs' hp p0 p1 pl HX
  go_enter Tryd.func47, Tryd.ntmps47
  go_wp2_with fail
  refine (sgk_is hk (HG.out _ I1.out) HP.out HS.out).mono ?_
  rintro e w1 ⟨rfl, hb⟩
  have I2 := Lib.hid (Below.on I1.out hb)
  have O2 := Lib.hid (O1.out.onAll hb)
  clear hb a0 a1 hk
  have r := BX1.out.on I2.out
  have r0 := r.cell 0
  have r1 := r.cell 1
  simp at r0 r1
  clear r
  go_wp2_with fail
  refine (sgk_is hk' (HH.out _ I2.out) HP.out HS'.out).mono ?_
  rintro e w2 ⟨rfl, hb⟩
  have I3 := Lib.hid (Below.on I2.out hb)
  have O3 := Lib.hid (O2.out.onAll hb)
  clear hb r0 r1 hk'
  have a0 := (BX0.out.on I3.out).cell 0
  have r0 := (BX1.out.on I3.out).cell 0
  simp at a0 r0
  have hd : ((m : Int) == m) = true := by simp
  go_wp2_with fail
  refine (HO.out w2).mono ?_
  rintro e w3 ⟨lv, us, rfl, ho, hful, hb⟩
  have SB : Hid (SolBu W w2.heap.size w3.heap.size w3 lv us L (leads g h) (.slice (some ⟨W.heap.size, 0, none⟩) 0 0) [] 0) := Lib.hid
    ⟨O3.out.onAll hb, fun b hb' => .inl (O3.out.hi0 b hb'), fun j hj => by simp at hj, ho, Below.on I3.out hb, Nat.le_refl _, I3.out.size⟩
  rw [HW.out] at SB
  obtain ⟨a, c, hlv⟩ := OwnSS.form ho
  rw [HN.out] at hlv
  subst hlv
  have HUL : Hid (us.length = n) := Lib.hid (by rw [ho.len]; exact HN.out)
  have HFL := Lib.hid hful
  clear ho hb hful a0 r0 hd O1 O2 O3 I1 I2
  go_wp2
  go_loopw [5, 7] (fun v i wr => ∃ k : Nat, k ≤ n ∧ i = .int .i64 k ∧ Hid (∃ us', SolBu W w2.heap.size w3.heap.size wr (.slice a n c) us L (leads g h) v us' k)) (fun _ i _ => n - (intOf i).toNat)
  case atStart => exact ⟨0, by omega, rfl, Lib.hid ⟨[], SB.out⟩⟩
  case round =>
    obtain ⟨k, hk, rfl, hS⟩ := hrel
    obtain ⟨wo, rfl⟩ : ∃ wo : World, wo = wr := ⟨_, rfl⟩
    obtain ⟨us', hs⟩ := hS.out
    clear SB
    have h600 := HL3.out
    by_cases hlt : k < n
    · have hlt1 : (k : Int) < (n : Int) := by omega
      have hku : k < us.length := by rw [HUL.out]; exact hlt
      obtain ⟨a', c', ea, hcell⟩ := outer_cell hs.lots.outer
      rw [HUL.out] at ea
      cases ea
      obtain ⟨G0, rfl, hG0, hck⟩ := hcell k hku
      obtain ⟨ug, un, uc, hu⟩ := HFL.out k hku
      have HC : Hid (∀ w', Below wo.heap.size wo w' → w'.cell? ⟨G0, k, none⟩ = some (.slice (some ⟨ug, 0, none⟩) un uc)) := Lib.hid fun w' hb => (hb.cell (p := ⟨G0, k, none⟩) hG0).trans (hck.trans (by rw [hu]))
      have HSU := Lib.hid hs
      have HE : Hid (∀ w', Below wo.heap.size wo w' → Ints w' (.slice (some ⟨ug, 0, none⟩) un uc) (row L k)) := Lib.hid fun w' hb => by
        have := (Ints.of_own (HSU.out.lots.rows k hku) (by have := (HLL.out k hlt).2; have := HM5.out.2; unfold maxLen; omega)).below hb
        rwa [hu] at this
      have hsl := solTo_len (leads g h) L k
      have hll := hs.own.len
      have HU := Lib.hid hu
      have HBX := Lib.hid hs.box
      have HBD : Hid (Mz wo (mov (row L k) g) none wo.drew) := Lib.hid ⟨(Below.refl _ _).drew, fun v e => by cases e⟩
      have HOD := Lib.hid (HLL.out k hlt).1
      clear hs hS hcell hck hu
      cases hsv : leads g h (row L k)
      all_goals
        have HV := Lib.hid hsv
        clear hsv
        go_wp2_with fail
        apply wp_region_H (Z := Option Value) (S := fun k => k == 5 || k == 7) (C := fun z w' => Hid (Mz wo (mov (row L k) g) z w')) [0, 1, 2, 3, 4, 6] none
        · kernel_rfl
        · kernel_rfl
        · kernel_rfl
        · exact ⟨rfl, rfl, rfl, rfl, rfl, rfl, trivial⟩
        · rfl
        · decide
        · exact HBD
        · intro zz
          dsimp only [pickL, nthO]
          repeat (first | go_big_quiet_skip | (go_big_quiet_want; go_big_quiet_op; first | go_big_quiet_on | (refine ⟨_, fun _ _ => rfl, ?_⟩; go_big_quiet_on)))
          go_big_quiet_want
          go_big_quiet_op
          refine ⟨.agg #[.int .i64 m, gv], fun w' hw' => ?_, ?_⟩
          · have q := BX0.out.on (Below.on HBX.out hw'.out.1)
            have q0 := q.cell 0
            have q1 := q.cell 1
            simp at q0 q1
            simp [go_sem, q0, q1]
          go_big_quiet_on
          repeat (first | go_big_quiet_skip | (go_big_quiet_want; go_big_quiet_op; first | go_big_quiet_on | (refine ⟨_, fun _ _ => rfl, ?_⟩; go_big_quiet_on)))
          go_big_quiet_want
          go_big_quiet_op
          refine ⟨.slice (some ⟨ug, 0, none⟩) un uc, fun w' hw' => ?_, ?_⟩
          · have q := HC.out w' hw'.out.1
            simp [go_sem, q]
          go_big_quiet_on
          repeat (first | go_big_quiet_skip | (go_big_quiet_want; go_big_quiet_op; first | go_big_quiet_on | (refine ⟨_, fun _ _ => rfl, ?_⟩; go_big_quiet_on)))
          go_big_quiet_want
          go_big_quiet_op
          refine ⟨.agg #[.int .i64 m, hv], fun w' hw' => ?_, ?_⟩
          · have q := BX1.out.on (Below.on HBX.out hw'.out.1)
            have q0 := q.cell 0
            have q1 := q.cell 1
            simp at q0 q1
            simp [go_sem, q0, q1]
          go_big_quiet_on
          repeat (first | go_big_quiet_skip | (go_big_quiet_want; go_big_quiet_op; first | go_big_quiet_on | (refine ⟨_, fun _ _ => rfl, ?_⟩; go_big_quiet_on)))
          exact wpQuiet_nil rfl
        · refine wpAnyH_call (i := 5) (d := some 39) 84 #[.agg #[.int .i64 m, gv], .slice (some ⟨ug, 0, none⟩) un uc] rfl (by kernel_rfl) rfl rfl (by kernel_rfl) (fun _ => by kernel_rfl) fun wa hc => ?_
          refine (smov_any m gv (.slice (some ⟨ug, 0, none⟩) un uc) g (row L k) wa (HG.out _ (Below.on HBX.out hc.out.1)) (HE.out _ hc.out.1) HGK.out HOD.out).mono ?_
          rintro e wc ⟨mv, rfl, om, hb⟩
          refine ⟨_, rfl, some mv, Lib.hid ⟨Below.on hc.out.1 hb, fun v e => by cases e; exact Ints.of_own om (by rw [mov_len HOD.out HGK.out]; exact HFEW.out)⟩, ?_⟩
          clear hc om hb
          refine wpAnyH_call (i := 7) (d := some 41) 83 #[.agg #[.int .i64 m, mv], .agg #[.int .i64 m, hv]] rfl (by kernel_rfl) rfl rfl (by kernel_rfl) (fun _ => by kernel_rfl) fun wd hc => ?_
          refine (ssg_ld HV.out (hc.out.2 mv rfl) (HH.out _ (Below.on HBX.out hc.out.1))).mono ?_
          rintro e we ⟨rfl, hb⟩
          refine ⟨_, rfl, none, Lib.hid ⟨Below.on hc.out.1 hb, fun v e => by cases e⟩, ?_⟩
          clear hc hb
          refine ⟨by kernel_rfl, fun w4 hw4 => ?_⟩
          simp only [Act.put, List.setIfInBounds_toArray, List.set_cons_succ, List.set_cons_zero]
          have S3 := Lib.hid (HSU.out.on hw4.out.1)
          have hc3 := HC.out w4 hw4.out.1
          clear hw4 HSU HBD HE HBX
          first
            | (have S4 : Hid (∃ us', SolBu W w2.heap.size w3.heap.size w4 (.slice (some ⟨G0, 0, none⟩) n c) us L (leads g h) u5 us' (k + 1)) := Lib.hid ⟨_, S3.out.pass HV.out⟩
               clear hc3 S3
               go_wp2
               go_roundw
               case rel => exact ⟨k + 1, by omega, by go_num, S4⟩
               case measure => simp [intOf]; omega)
            | (have hou := S3.out.own.outer
               have hb3 : W.heap.size ≤ w4.heap.size := S3.out.box.size
               go_wp2_with (at_builtin; refine wpAppRow rfl _ _ rfl rfl hou (by omega) hb3 rfl rfl ?_)
               intro v4 w5 o4 g4 k4
               have S4 : Hid (∃ us', SolBu W w2.heap.size w3.heap.size w5 (.slice (some ⟨G0, 0, none⟩) n c) us L (leads g h) v4 us' (k + 1)) := Lib.hid ⟨_, S3.out.take hku HV.out (by rw [HU.out]; simpa [hll] using o4) g4 k4⟩
               clear o4 g4 k4 hou S3 hc3 hb3
               go_wp2
               go_roundw
               case rel => exact ⟨k + 1, by omega, by go_num, S4⟩
               case measure => simp [intOf]; omega)
    · obtain rfl : k = n := by omega
      have O5 : Hid (∃ us', OwnSS wo w.heap.size wo.heap.size u5 us' (btw m g m h)) := Lib.hid ⟨us', by rw [HX2.out]; exact hs.own.lower (by rw [HW.out]; omega)⟩
      have B5 : Hid (Below w.heap.size w wo) := Lib.hid (HWW.out.trans (hs.box.mono HWW.out.size))
      clear hs hS
      go_wp2
      go_ret
      obtain ⟨us5, o5⟩ := O5.out
      exact ⟨_, us5, rfl, o5, B5.out⟩
theorem sbt_any (p q : Int) (gv hv : Value) (g h : List Int) (w : World) (hg : Ints w gv g) (hh : Ints w hv h) (hp : intIn p) (hq : intIn q) (hs : ∀ j, j < g.length → intIn (nth g j)) (hs' : ∀ j, j < h.length → intIn (nth h j)) :
    Calls Tryd.prog 47 #[.agg #[.int .i64 p, gv], .agg #[.int .i64 q, hv]] w (BtPost p g q h w) := by
  cases hb : btB p g q h
  · exact sbt_no p q gv hv g h w hg hh hp hq hs hs' hb
  · obtain ⟨h1, h2, rfl⟩ := btB_true.1 hb
    obtain ⟨m, rfl⟩ : ∃ m : Nat, p = m := ⟨p.toNat, by have := h1.p1; omega⟩
    exact sbt_yes m gv hv g h w hg hh hp hs hs' hb
end Go.Proofs.YtimkmdedoacpfabDoor
