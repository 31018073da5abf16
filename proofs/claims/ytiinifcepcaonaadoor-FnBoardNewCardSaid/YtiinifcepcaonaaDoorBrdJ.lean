/- impl: keyAt, noteFits, BoardOk, KeysOn. -/
import Derived.Test.YtiinifcepcaonaaDoorBrdI
import Derived.Test.YtiinifcepcaonaaDoorBMark
import Derived.Test.YtiinifcepcaonaaDoorBReg
import Derived.Test.YtiinifcepcaonaaDoorBSol
import Derived.Deep.Cut
namespace Go.Proofs.YtiinifcepcaonaaDoor
open Go.RowKit

/-- Two boxes made at the head of a function. -/
structure Nb (w : World) (P R : List Value) (w' : World) : Prop where
  be : Below w.heap.size w w'
  b0 : Box w' w.heap.size P
  b1 : Box w' (w.heap.size + 1) R
theorem Nb.on {w w1 w2 : World} {P R : List Value} (h : Nb w P R w1) (hb : Below w1.heap.size w1 w2) : Nb w P R w2 := ⟨Below.on h.be hb, h.b0.on hb, h.b1.on hb⟩
theorem Nb.start (w : World) (P R : List Value) (T1 T2 : TypeId) : Nb w P R ((w.alloc (.cells P.toArray T1)).alloc (.cells R.toArray T2)) := by
  obtain ⟨h1, h2, h3⟩ := boxes2 (w := w) (P := P) (R := R) (T1 := T1) (T2 := T2) (Below.refl _ _)
  exact ⟨h3, h1, h2⟩
def katB (ns : List Nt) (on : Int) : Bool := decide (0 ≤ on) && decide (on < ((keysN ns).length : Int))
theorem katB_true {ns : List Nt} {on : Int} : katB ns on = true ↔ 0 ≤ on ∧ on < ((keysN ns).length : Int) := by unfold katB; simp
theorem ikat_no (g : Int) (v : Value) (ns : List Nt) (on : Int) (w : World) (h : Nts w v ns) (hl : ns.length ≤ 2000000) (hk : katB ns on = false) : Calls Tryd.prog 47 #[.agg #[.int .i64 g, v], .int .i64 on] w fun e w' => e = .returned (.tuple #[.int .i64 0, .bool false]) ∧ Below w.heap.size w w' := by
  obtain ⟨a, c, rfl, _⟩ := h.opened
  have H := Lib.hid (h.on (below_grow w (.cells #[.int .i64 g, .slice a ns.length c] 29)))
  have HN : ¬ (0 ≤ on ∧ on < ((keysN ns).length : Int)) := fun k => by rw [katB_true.2 k] at hk; cases hk
  obtain ⟨m, hm⟩ : ∃ m, (keysN ns).length = m := ⟨_, rfl⟩
  rw [hm] at HN
  have HM := Lib.hid hm
  clear h hk hm
  by_cases h0 : 0 ≤ on
  · have h1 : ¬ on < (m : Int) := fun h => HN ⟨h0, h⟩
    have hd0 : decide (on < 0) = false := by simp; omega
    have hd1 : decide ((m : Int) ≤ on) = true := by simp; omega
    clear HN
    go_enter Tryd.func47, Tryd.ntmps47
    go_wp2_with fail
    refine (ikeys_any g _ ns _ H.out hl).mono ?_
    rintro e w1 ⟨u, rfl, ou, hb⟩
    obtain ⟨ua, uc, hu⟩ := Own.form ou
    rw [HM.out] at hu
    subst hu
    have B1 := Lib.hid (Below.on (below_grow w _) hb)
    clear hb ou
    go_wp2
    go_ret2
    exact ⟨rfl, B1.out⟩
  · have h1 : on < 0 := by omega
    have hd0 : decide (on < 0) = true := by simp; omega
    clear HN h0
    go_enter Tryd.func47, Tryd.ntmps47
    go_wp2_with fail
    refine (ikeys_any g _ ns _ H.out hl).mono ?_
    rintro e w1 ⟨u, rfl, ou, hb⟩
    obtain ⟨ua, uc, hu⟩ := Own.form ou
    rw [HM.out] at hu
    subst hu
    have B1 := Lib.hid (Below.on (below_grow w _) hb)
    clear hb ou
    go_wp2
    go_ret2
    exact ⟨rfl, B1.out⟩
theorem ikat_yes (g : Int) (v : Value) (ns : List Nt) (on : Int) (w : World) (h : Nts w v ns) (hl : ns.length ≤ 2000000) (hk : katB ns on = true) : Calls Tryd.prog 47 #[.agg #[.int .i64 g, v], .int .i64 on] w fun e w' => e = .returned (.tuple #[.int .i64 (nth (keysN ns) on.toNat), .bool true]) ∧ Below w.heap.size w w' := by
  obtain ⟨a, c, rfl, k1⟩ := h.opened
  have hmx := k1.max
  have H := Lib.hid (h.on (below_grow w (.cells #[.int .i64 g, .slice a ns.length c] 29)))
  obtain ⟨h0, h1⟩ := katB_true.1 hk
  obtain ⟨j, rfl⟩ : ∃ j : Nat, on = j := ⟨on.toNat, by omega⟩
  obtain ⟨m, hm⟩ : ∃ m, (keysN ns).length = m := ⟨_, rfl⟩
  rw [hm] at h1
  have hj : j < m := by omega
  have HML := Lib.hid (show (keysN ns).length ≤ maxLen from Nat.le_trans (keysN_len ns) hmx)
  obtain ⟨y, hy⟩ : ∃ y, nth (keysN ns) j = y := ⟨_, rfl⟩
  rw [show (j : Int).toNat = j by omega, hy]
  have HM := Lib.hid hm
  have HY := Lib.hid hy
  have hd0 : decide ((j : Int) < 0) = false := by simp
  have hd1 : decide (m ≤ j) = false := by simp; omega
  clear h hk hm k1 hmx hy h0
  go_enter Tryd.func47, Tryd.ntmps47
  go_wp2_with fail
  refine (ikeys_any g _ ns _ H.out hl).mono ?_
  rintro e w1 ⟨u, rfl, ou, hb⟩
  obtain ⟨ua, uc, hu, hc⟩ := (Ints.of_own ou HML.out).opened
  rw [HM.out] at hu
  subst hu
  obtain ⟨G, rfl, _, hcell⟩ := hc.get j (by rw [HM.out]; exact hj)
  rw [HY.out] at hcell
  have B1 := Lib.hid (Below.on (below_grow w _) hb)
  clear hb ou hc
  go_wp2
  go_ret2
  exact ⟨rfl, B1.out⟩

theorem onB_kat (g : Int) (ns : List Nt) (x : Nt) : onB g ns x = (decide (x.key = 0) && katB ns x.on && tokB g (nth (keysN ns) x.on.toNat) x.say x.ask x.tell) := rfl

theorem inf_has (g : Int) (v : Value) (ns : List Nt) (x : Nt) (w : World) (G : Gr w) (h : Nts w v ns) (hl : ns.length ≤ 2000000) (hh : hasN ns x = true) : Calls Tryd.prog 41 #[.agg #[.int .i64 g, v], .agg #[.int .i64 x.key, .int .i64 x.on, .int .i64 x.say, .int .i64 x.ask, .int .i64 x.tell]] w fun e w' => e = .returned (.bool false) ∧ Below w.heap.size w w' := by
  have HH := Lib.hid hh
  clear hh
  obtain ⟨a, c, rfl, _⟩ := h.opened
  have H := Lib.hid h
  have HG := Lib.hid G
  obtain ⟨n, hn⟩ : ∃ n, ns.length = n := ⟨_, rfl⟩
  rw [hn] at H ⊢
  have HL := Lib.hid hl
  have N0 := Lib.hid (Nb.start w [.int .i64 g, .slice a n c] [.int .i64 x.key, .int .i64 x.on, .int .i64 x.say, .int .i64 x.ask, .int .i64 x.tell] 29 47)
  clear h hn hl G
  go_enter Tryd.func41, Tryd.ntmps41
  go_wp2_with fail
  refine (inc_any _ ns x _ (H.out.on N0.out.be)).mono ?_
  rintro e w1 ⟨rfl, hb⟩
  rw [HH.out]
  have N1 := Lib.hid (N0.out.on hb)
  clear hb
  go_wp2
  go_ret
  exact ⟨rfl, N1.out.be⟩
set_option maxHeartbeats 1600000 in
theorem inf_key (g : Int) (v : Value) (ns : List Nt) (x : Nt) (w : World) (G : Gr w) (h : Nts w v ns) (hl : ns.length ≤ 2000000) (hh : hasN ns x = false) (ho : x.on = -1) : Calls Tryd.prog 41 #[.agg #[.int .i64 g, v], .agg #[.int .i64 x.key, .int .i64 x.on, .int .i64 x.say, .int .i64 x.ask, .int .i64 x.tell]] w fun e w' => e = .returned (.bool (elB g x.key && zerB x)) ∧ Below w.heap.size w w' := by
  have HH := Lib.hid hh
  have hd : (x.on == -1) = true := by simp [ho]
  clear hh ho
  obtain ⟨a, c, rfl, _⟩ := h.opened
  have H := Lib.hid h
  have HG := Lib.hid G
  obtain ⟨n, hn⟩ : ∃ n, ns.length = n := ⟨_, rfl⟩
  rw [hn] at H ⊢
  have HL := Lib.hid hl
  have N0 := Lib.hid (Nb.start w [.int .i64 g, .slice a n c] [.int .i64 x.key, .int .i64 x.on, .int .i64 x.say, .int .i64 x.ask, .int .i64 x.tell] 29 47)
  clear h hn hl G
  have tg := talkGuard
  have te := run_equal_talk
  have HZ := Lib.hid (show talkB x.say x.ask x.tell 0 0 0 = zerB x from rfl)
  cases he : elB g x.key
  · have HE := Lib.hid he
    clear he
    go_enter Tryd.func41, Tryd.ntmps41
    go_wp2_with fail
    refine (inc_any _ ns x _ (H.out.on N0.out.be)).mono ?_
    rintro e w1 ⟨rfl, hb⟩
    rw [HH.out]
    have N1 := Lib.hid (N0.out.on hb)
    clear hb
    have q00 := N1.out.b0.cell 0
    have q10 := N1.out.b1.cell 0
    have q11 := N1.out.b1.cell 1
    simp at q00 q10 q11
    go_wp2_with fail
    refine (iel_b g x.key _ (HG.out.on N1.out.be)).mono ?_
    rintro e w2 ⟨rfl, hb⟩
    rw [HE.out]
    have N2 := Lib.hid (N1.out.on hb)
    clear hb q00 q10 q11
    go_wp2
    go_ret
    exact ⟨rfl, N2.out.be⟩
  · have HE := Lib.hid he
    clear he
    go_enter Tryd.func41, Tryd.ntmps41
    go_wp2_with fail
    refine (inc_any _ ns x _ (H.out.on N0.out.be)).mono ?_
    rintro e w1 ⟨rfl, hb⟩
    rw [HH.out]
    have N1 := Lib.hid (N0.out.on hb)
    clear hb
    have q00 := N1.out.b0.cell 0
    have q10 := N1.out.b1.cell 0
    have q11 := N1.out.b1.cell 1
    simp at q00 q10 q11
    go_wp2_with fail
    refine (iel_b g x.key _ (HG.out.on N1.out.be)).mono ?_
    rintro e w2 ⟨rfl, hb⟩
    rw [HE.out]
    have N2 := Lib.hid (N1.out.on hb)
    clear hb q00 q10 q11
    have q12 := N2.out.b1.cell 2
    have q13 := N2.out.b1.cell 3
    have q14 := N2.out.b1.cell 4
    simp at q12 q13 q14
    go_wp2
    go_ret
    exact ⟨by rw [← HZ.out]; rfl, N2.out.be⟩
set_option maxHeartbeats 1600000 in
theorem inf_on (g : Int) (v : Value) (ns : List Nt) (x : Nt) (w : World) (G : Gr w) (h : Nts w v ns) (hl : ns.length ≤ 2000000) (hh : hasN ns x = false) (ho : x.on ≠ -1) : Calls Tryd.prog 41 #[.agg #[.int .i64 g, v], .agg #[.int .i64 x.key, .int .i64 x.on, .int .i64 x.say, .int .i64 x.ask, .int .i64 x.tell]] w fun e w' => e = .returned (.bool (onB g ns x)) ∧ Below w.heap.size w w' := by
  have HH := Lib.hid hh
  have hd : (x.on == -1) = false := by simp [ho]
  rw [onB_kat]
  clear hh ho
  obtain ⟨a, c, rfl, _⟩ := h.opened
  have H := Lib.hid h
  have HG := Lib.hid G
  obtain ⟨n, hn⟩ : ∃ n, ns.length = n := ⟨_, rfl⟩
  rw [hn] at H ⊢
  have HL := Lib.hid hl
  have N0 := Lib.hid (Nb.start w [.int .i64 g, .slice a n c] [.int .i64 x.key, .int .i64 x.on, .int .i64 x.say, .int .i64 x.ask, .int .i64 x.tell] 29 47)
  clear h hn hl G
  cases hk : katB ns x.on
  · have HK := Lib.hid hk
    have HX := Lib.hid (show (decide (x.key = 0) && false && tokB g (nth (keysN ns) x.on.toNat) x.say x.ask x.tell) = false by simp)
    rw [HX.out]
    clear hk
    go_enter Tryd.func41, Tryd.ntmps41
    go_wp2_with fail
    refine (inc_any _ ns x _ (H.out.on N0.out.be)).mono ?_
    rintro e w1 ⟨rfl, hb⟩
    rw [HH.out]
    have N1 := Lib.hid (N0.out.on hb)
    clear hb
    have q00 := N1.out.b0.cell 0
    have q01 := N1.out.b0.cell 1
    have q11 := N1.out.b1.cell 1
    simp at q00 q01 q11
    go_wp2_with fail
    refine (ikat_no g _ ns x.on _ (H.out.on N1.out.be) HL.out HK.out).mono ?_
    rintro e w2 ⟨rfl, hb⟩
    have N2 := Lib.hid (N1.out.on hb)
    clear hb q00 q01 q11
    go_wp2
    go_ret
    exact ⟨rfl, N2.out.be⟩
  · have HK := Lib.hid hk
    clear hk
    obtain ⟨y, hy⟩ : ∃ y, nth (keysN ns) x.on.toNat = y := ⟨_, rfl⟩
    rw [hy]
    have HY := Lib.hid hy
    clear hy
    by_cases h0 : x.key = 0
    · have h0d : (x.key == 0) = true := by simp [h0]
      have HX := Lib.hid (show (decide (x.key = 0) && true && tokB g y x.say x.ask x.tell) = tokB g y x.say x.ask x.tell by simp [h0])
      rw [HX.out]
      clear h0
      go_enter Tryd.func41, Tryd.ntmps41
      go_wp2_with fail
      refine (inc_any _ ns x _ (H.out.on N0.out.be)).mono ?_
      rintro e w1 ⟨rfl, hb⟩
      rw [HH.out]
      have N1 := Lib.hid (N0.out.on hb)
      clear hb
      have q00 := N1.out.b0.cell 0
      have q01 := N1.out.b0.cell 1
      have q11 := N1.out.b1.cell 1
      simp at q00 q01 q11
      go_wp2_with fail
      refine (ikat_yes g _ ns x.on _ (H.out.on N1.out.be) HL.out HK.out).mono ?_
      rintro e w2 ⟨rfl, hb⟩
      rw [HY.out]
      have N2 := Lib.hid (N1.out.on hb)
      clear hb q00 q01 q11
      have q00 := N2.out.b0.cell 0
      have q10 := N2.out.b1.cell 0
      have q12 := N2.out.b1.cell 2
      have q13 := N2.out.b1.cell 3
      have q14 := N2.out.b1.cell 4
      simp at q00 q10 q12 q13 q14
      go_wp2_with fail
      refine (itok_any g y x.say x.ask x.tell _ (HG.out.on N2.out.be)).mono ?_
      rintro e w3 ⟨rfl, hb⟩
      have N3 := Lib.hid (N2.out.on hb)
      clear hb q00 q10 q12 q13 q14
      go_wp2
      go_ret
      exact ⟨rfl, N3.out.be⟩
    · have h0d : (x.key == 0) = false := by simp [h0]
      have HX := Lib.hid (show (decide (x.key = 0) && true && tokB g y x.say x.ask x.tell) = false by simp [h0])
      rw [HX.out]
      clear h0
      go_enter Tryd.func41, Tryd.ntmps41
      go_wp2_with fail
      refine (inc_any _ ns x _ (H.out.on N0.out.be)).mono ?_
      rintro e w1 ⟨rfl, hb⟩
      rw [HH.out]
      have N1 := Lib.hid (N0.out.on hb)
      clear hb
      have q00 := N1.out.b0.cell 0
      have q01 := N1.out.b0.cell 1
      have q11 := N1.out.b1.cell 1
      simp at q00 q01 q11
      go_wp2_with fail
      refine (ikat_yes g _ ns x.on _ (H.out.on N1.out.be) HL.out HK.out).mono ?_
      rintro e w2 ⟨rfl, hb⟩
      rw [HY.out]
      have N2 := Lib.hid (N1.out.on hb)
      clear hb q00 q01 q11
      have q00 := N2.out.b0.cell 0
      have q10 := N2.out.b1.cell 0
      have q12 := N2.out.b1.cell 2
      have q13 := N2.out.b1.cell 3
      have q14 := N2.out.b1.cell 4
      simp at q00 q10 q12 q13 q14
      go_wp2
      go_ret
      exact ⟨rfl, N2.out.be⟩
theorem inf_any (g : Int) (v : Value) (ns : List Nt) (x : Nt) (w : World) (G : Gr w) (h : Nts w v ns) (hl : ns.length ≤ 2000000) : Calls Tryd.prog 41 #[.agg #[.int .i64 g, v], .agg #[.int .i64 x.key, .int .i64 x.on, .int .i64 x.say, .int .i64 x.ask, .int .i64 x.tell]] w fun e w' => e = .returned (.bool (fitB g ns x)) ∧ Below w.heap.size w w' := by
  cases hh : hasN ns x
  · by_cases ho : x.on = -1
    · rw [fit_key hh ho]; exact inf_key g v ns x w G h hl hh ho
    · rw [fit_on hh ho]; exact inf_on g v ns x w G h hl hh ho
  · rw [fit_has hh]; exact inf_has g v ns x w G h hl hh
theorem inf_is {g : Int} {v : Value} {ns : List Nt} {x : Nt} {w : World} {b : Bool} (hb : fitB g ns x = b) (G : Gr w) (h : Nts w v ns) (hl : ns.length ≤ 2000000) : Calls Tryd.prog 41 #[.agg #[.int .i64 g, v], .agg #[.int .i64 x.key, .int .i64 x.on, .int .i64 x.say, .int .i64 x.ask, .int .i64 x.tell]] w fun e w' => e = .returned (.bool b) ∧ Below w.heap.size w w' := by rw [← hb]; exact inf_any g v ns x w G h hl

set_option maxRecDepth 20000 in
set_option maxHeartbeats 3200000 in
theorem ibrd_any (g : Int) (v : Value) (ns : List Nt) (w : World) (G : Gr w) (h : Nts w v ns) (hl : ns.length ≤ 2000000) : Calls Tryd.prog 13 #[.agg #[.int .i64 g, v]] w fun e w' => e = .returned (.bool (brdB g ns)) ∧ Below w.heap.size w w' := by
  obtain ⟨a, c, rfl, k1⟩ := h.opened
  obtain ⟨n, hn⟩ : ∃ n, ns.length = n := ⟨_, rfl⟩
  have hcp := k1.cap
  have HG := Lib.hid G
  have HC := Lib.hid (fun w' (hb : Below w.heap.size w w') k (hk : k < n) => (k1.on hb).get k (by rw [hn]; exact hk))
  have HP := Lib.hid (fun w' (hb : Below w.heap.size w w') k (hk : k < n) => (show Nts w' (.slice a n c) ns by rw [← hn]; exact h.on hb).pre hn (by omega) (Nat.le_of_lt hk))
  have HPL := Lib.hid (fun k => Nat.le_trans (List.length_take_le' k ns) hl)
  have HBN := Lib.hid (fun k (hk : k < n) (hf : fitB g (ns.take k) (nthN ns k) = false) => brd_no (by rw [hn]; exact hk) hf)
  have HBY := Lib.hid (fun (hf : FitTo g ns n) => brd_fits (show FitTo g ns ns.length by rw [hn]; exact hf))
  have HBG := Lib.hid (fun (hg : gok g = false) => brd_gok (ns := ns) hg)
  have HBL := Lib.hid (fun (hx : ¬ n ≤ 12) => brd_len (g := g) (ns := ns) (by rw [hn]; exact hx))
  have IB0 := Lib.hid (InB.start w [.int .i64 g, .slice a n c] 29)
  have HNL := Lib.hid hn
  rw [hn] at hcp hl ⊢
  clear h k1 hn G
  cases hg : gok g
  · have HX := Lib.hid (HBG.out hg)
    go_enter Tryd.func13, Tryd.ntmps13
    go_wp2_with fail
    refine (groupOk_any g _).mono ?_
    rintro e w1 ⟨rfl, rfl⟩
    rw [hg]
    go_wp2
    go_ret
    exact ⟨by rw [HX.out]; try rfl, IB0.out.fin⟩
  · have HGK := Lib.hid hg
    by_cases h12 : n ≤ 12
    · have hd12 : decide (12 < n) = false := by simp; omega
      have hd12i : decide ((12 : Int) < (n : Int)) = false := by simp; omega
      go_enter Tryd.func13, Tryd.ntmps13
      go_wp2_with fail
      refine (groupOk_any g _).mono ?_
      rintro e w1 ⟨rfl, rfl⟩
      rw [HGK.out]
      go_wp2
      go_loopw [19] (fun i wr => ∃ k : Nat, k ≤ n ∧ i = .int .i64 k ∧ Hid (FitTo g ns k) ∧ Hid (InB w [.int .i64 g, .slice a n c] 29 wr)) (fun i _ => n - (intOf i).toNat)
      case atStart => exact ⟨0, by omega, rfl, Lib.hid (FitTo.zero _ _), IB0⟩
      case round =>
        obtain ⟨k, hk, rfl, hf, hb⟩ := hrel
        by_cases hlt : k < n
        · obtain ⟨A, rfl, _, hc⟩ := HC.out _ hb.out.fin k hlt
          obtain ⟨y, hy⟩ : ∃ y, nthN ns k = y := ⟨_, rfl⟩
          rw [hy] at hc
          have HYk := Lib.hid hy
          obtain ⟨c0, c1, c2, c3, c4⟩ := hc
          have hlt1 : (k : Int) < (n : Int) := by omega
          have hkc : k ≤ c := by omega
          have hb0 := hb.out.box
          have p0 := hb0.cell 0
          have p1 := hb0.cell 1
          simp at p0 p1
          have I1 := Lib.hid (hb.out.on (below_grow wr (.cells #[.int .i64 y.key, .int .i64 y.on, .int .i64 y.say, .int .i64 y.ask, .int .i64 y.tell] 47)))
          have W1 := Lib.hid (Box.made wr [.int .i64 y.key, .int .i64 y.on, .int .i64 y.say, .int .i64 y.ask, .int .i64 y.tell] 47)
          clear hy hb0 hb
          go_upto_region 6 with (fail)
          clear c0 c1 c2 c3 c4 p0 p1
          obtain ⟨wn, hwn⟩ : ∃ z, z = wr.alloc (.cells #[.int .i64 y.key, .int .i64 y.on, .int .i64 y.say, .int .i64 y.ask, .int .i64 y.tell] 47) := ⟨_, rfl⟩
          have hsz : wr.heap.size + 1 = wn.heap.size := by rw [hwn]; simp
          have I2 : Hid (InB w [.int .i64 g, .slice (some ⟨A, 0, none⟩) n c] 29 wn) := Lib.hid (by rw [hwn]; exact I1.out)
          have W2 : Hid (Box wn wr.heap.size [.int .i64 y.key, .int .i64 y.on, .int .i64 y.say, .int .i64 y.ask, .int .i64 y.tell]) := Lib.hid (by rw [hwn]; exact W1.out)
          rw [← hwn]
          clear hwn I1 W1
          go_wp2_with fail
          apply wp_region_H (Z := List Cp × Option (Nat × List Value)) (S := fun k => k == 7 || k == 8) (C := fun z w' => Hid (Zx wn z.1 z.2 w')) [0, 1, 2, 3, 4, 5, 6] ([], none)
          · kernel_rfl
          · kernel_rfl
          · kernel_rfl
          · exact ⟨rfl, rfl, rfl, rfl, rfl, rfl, rfl, trivial⟩
          · rfl
          · decide
          · exact Lib.hid (Zx.start (Below.refl _ _).drew)
          · intro z
            dsimp only [pickL, nthO]
            go_big_quiet_want; go_big_quiet_op; first | go_big_quiet_on | (refine ⟨_, fun _ _ => rfl, ?_⟩; go_big_quiet_on)
            go_big_quiet_want
            go_big_quiet_op
            refine ⟨.int .i64 g, fun w' hw' => ?_, ?_⟩
            · have q := (I2.out.on hw'.out.be).box.cell 0
              simp at q
              simp [go_sem, q]
            go_big_quiet_on
            go_big_quiet_want; go_big_quiet_op; first | go_big_quiet_on | (refine ⟨_, fun _ _ => rfl, ?_⟩; go_big_quiet_on)
            go_big_quiet_want
            go_big_quiet_op
            refine ⟨.slice (some ⟨A, 0, none⟩) n c, fun w' hw' => ?_, ?_⟩
            · have q := (I2.out.on hw'.out.be).box.cell 1
              simp at q
              simp [go_sem, q]
            go_big_quiet_on
            go_big_quiet_want; go_big_quiet_op; first | go_big_quiet_on | (refine ⟨_, fun _ _ => rfl, ?_⟩; go_big_quiet_on)
            go_big_quiet_want
            go_big_quiet_op
            refine ⟨.slice (some ⟨A, 0, none⟩) k c, fun w' hw' => ?_, ?_⟩
            · simp [go_sem]
            go_big_quiet_on
            go_big_quiet_want; go_big_quiet_op; first | go_big_quiet_on | (refine ⟨_, fun _ _ => rfl, ?_⟩; go_big_quiet_on)
            exact wpQuiet_nil rfl
          · skip
            refine wpAnyH_special (i := 7) (d := some 5) rfl (by kernel_rfl) rfl rfl (by kernel_rfl) fun wN hc => ⟨.pointer (some ⟨wN.heap.size, 0, none⟩), wN.alloc (.cells #[.int .i64 0, .slice none 0 0] 29), ([], some (wN.heap.size, [.int .i64 0, .slice none 0 0])), .inl (by kernel_rfl), Lib.hid (hc.out.made [.int .i64 0, .slice none 0 0] _), ?_⟩
            clear hc
            refine wpAnyH_special (i := 8) (d := none) rfl (by kernel_rfl) rfl rfl (by kernel_rfl) fun we he => ?_
            have kb := (he.out.bx _ _ rfl).2.1
            have k0 := kb.cell 0; have f0 := kb.frozen 0
            have k1 := kb.cell 1; have f1 := kb.frozen 1
            simp at k0 k1
            refine ⟨undef, ((we.setCell ⟨wN.heap.size, 0, none⟩ (.int .i64 g)).setCell ⟨wN.heap.size, 1, none⟩ (.slice (some ⟨A, 0, none⟩) k c)), ([], some (wN.heap.size, [.int .i64 g, .slice (some ⟨A, 0, none⟩) k c])), .inr ⟨by simp [go_sem, Act.put, k0, f0, k1, f1], rfl⟩, Lib.hid ((he.out.put 0 _).put 1 _), ?_⟩
            clear he kb k0 f0 k1 f1
            refine ⟨by kernel_rfl, fun w3 hz => ?_⟩
            simp only [Act.put, List.setIfInBounds_toArray, List.set_cons_zero, List.set_cons_succ]
            have hb3 := hz.out.be
            obtain ⟨hN, hB, _⟩ := hz.out.bx _ _ rfl
            have I3 := Lib.hid (I2.out.on hb3)
            have W3 := Lib.hid (W2.out.on hb3)
            have B3 := Lib.hid hB
            have P3 := Lib.hid (HP.out _ I3.out.fin k hlt)
            have s0 := B3.out.cell 0
            have s1 := B3.out.cell 1
            have t0 := W3.out.cell 0
            have t1 := W3.out.cell 1
            have t2 := W3.out.cell 2
            have t3 := W3.out.cell 3
            have t4 := W3.out.cell 4
            simp at s0 s1 t0 t1 t2 t3 t4
            clear hb3 hN hB hz I2 W2
            cases hfit : fitB g (ns.take k) y
            · have HF := Lib.hid hfit
              clear hfit
              go_wp2_with fail
              refine (inf_is HF.out (HG.out.on I3.out.fin) P3.out (HPL.out k)).mono ?_
              rintro e w4 ⟨rfl, hb4⟩
              have I4 := Lib.hid (I3.out.on hb4)
              clear hb4 s0 s1 t0 t1 t2 t3 t4
              have HX := Lib.hid (HBN.out k hlt (by rw [HYk.out]; exact HF.out))
              go_wp2
              go_ret
              exact ⟨by rw [HX.out]; try rfl, I4.out.fin⟩
            · have HF := Lib.hid hfit
              clear hfit
              go_wp2_with fail
              refine (inf_is HF.out (HG.out.on I3.out.fin) P3.out (HPL.out k)).mono ?_
              rintro e w4 ⟨rfl, hb4⟩
              have I4 := Lib.hid (I3.out.on hb4)
              clear hb4 s0 s1 t0 t1 t2 t3 t4
              have F4 := Lib.hid (hf.out.succ (by rw [HYk.out]; exact HF.out))
              go_wp2
              go_roundw
              case rel => exact ⟨k + 1, by omega, by go_num, F4, I4⟩
              case measure => simp [intOf]; omega
        · obtain rfl : k = n := by omega
          have HX := Lib.hid (show brdB g ns = true by rw [HBY.out hf.out, HGK.out, HNL.out]; simpa using h12)
          go_wp2
          go_ret
          exact ⟨by rw [HX.out]; try rfl, hb.out.fin⟩
    · have hd12 : decide (12 < n) = true := by simp; omega
      have hd12i : decide ((12 : Int) < (n : Int)) = true := by simp; omega
      have HX := Lib.hid (HBL.out h12)
      go_enter Tryd.func13, Tryd.ntmps13
      go_wp2_with fail
      refine (groupOk_any g _).mono ?_
      rintro e w1 ⟨rfl, rfl⟩
      rw [HGK.out]
      go_wp2
      go_ret
      exact ⟨by rw [HX.out]; try rfl, IB0.out.fin⟩
end Go.Proofs.YtiinifcepcaonaaDoor
