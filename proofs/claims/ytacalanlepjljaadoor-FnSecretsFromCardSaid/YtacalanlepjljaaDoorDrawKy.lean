/- l20Exp without a miss at any group; l20Keys: a group, elements, a number to be known, exponents. -/
import Derived.Test.YtacalanlepjljaaDoorDrawQ
import Derived.Test.YtacalanlepjljaaDoorDrawX
import Derived.Test.YtacalanlepjljaaDoorTalkS
import Derived.Test.YtacalanlepjljaaDoorBRd
import Derived.Test.YtacalanlepjljaaDoorDrawCl
import Derived.Deep.Cut
namespace Go.Proofs.YtacalanlepjljaaDoor
open Go.RowKit

theorem drawexg_any (R k : Nat) (g : Int) (w : World) (h : Rd w R k) (hk : k ≤ 90000) : Calls Tryd.prog 63 #[.pointer (some ⟨R, 0, none⟩), .int .i64 g, .int .i64 0] w (NumP R k 2 (fun v => 0 ≤ v ∧ v ≤ 22) w) := by
  by_cases hg : 0 ≤ g ∧ g < 4
  · obtain ⟨o1, o2⟩ := ord_bd hg.1 hg.2
    refine (drawex0_any R k g w hg.1 hg.2 h hk).mono ?_
    rintro e w' ⟨v, rfl, hv, r⟩
    have := (exB_true.1 hv).2
    exact ⟨v, rfl, by omega, r⟩
  · have H := Lib.hid h; clear h
    have HX := Lib.hid (ord_none hg)
    clear hg
    go_enter Tryd.func63, Tryd.ntmps63
    go_wp2_with fail
    refine (sord_any _ _).mono ?_
    rintro e w0 ⟨rfl, hb0⟩
    rw [HX.out]
    have H0 : Hid (Rd w0 R k) := Lib.hid (H.out.below hb0)
    have G0 : Hid (w.grownBy w0 (some R)) := Lib.hid (grown_below R hb0)
    clear hb0
    go_wp2_with fail
    refine (odd_zero _ _ _ (by omega)).mono ?_
    rintro e w1 ⟨rfl, rfl⟩
    go_wp2_with fail
    refine (pick_any R k _ _ H0.out (by omega)).mono ?_
    rintro e w2 ⟨v, rfl, v0, v1, m2, hw2⟩
    have v2 := v1 (by omega)
    clear v1
    have H2 : Hid (Rd w2 R (k + 1)) := Lib.hid (by rw [hw2]; exact H0.out.next m2)
    have G2 : Hid (w.grownBy w2 (some R)) := Lib.hid (by rw [hw2]; exact grown_trans G0.out (grown_pick _ R k m2))
    clear hw2
    go_wp2
    go_ret
    exact ⟨_, rfl, ⟨by omega, by omega⟩, G2.out, _, by omega, H2.out⟩

/-- The reader, and two lists of the call's own, apart from each other. -/
structure Ky (w : World) (R : Nat) (wr : World) (k : Nat) (kv sv : Value) (ks ss : List Int) : Prop where
  rd : Rd wr R k
  gr : w.grownBy wr (some R)
  ok : Own wr w.heap.size kv ks
  os : Own wr w.heap.size sv ss
  ap : ∀ b, kv.ownBlock = some b → sv.ownBlock = some b → False
  rl : R < w.heap.size
section
variable {w : World} {R : Nat} {wr : World} {k : Nat} {kv sv : Value} {ks ss : List Int}
theorem Ky.draw {w' : World} {k' : Nat} (h : Ky w R wr k kv sv ks ss) (hg : wr.grownBy w' (some R)) (hr : Rd w' R k') : Ky w R w' k' kv sv ks ss :=
  ⟨hr, grown_trans h.gr hg, own_draw h.ok h.rl hg, own_draw h.os h.rl hg, h.ap, h.rl⟩
theorem Ky.on {w' : World} (h : Ky w R wr k kv sv ks ss) (hb : Below wr.heap.size wr w') : Ky w R w' k kv sv ks ss := h.draw (grown_below R hb) (h.rd.below hb)
theorem Ky.le (h : Ky w R wr k kv sv ks ss) : w.heap.size ≤ wr.heap.size := h.gr.size
theorem grown_own {w wr w' : World} {R : Nat} {v : Value} (hgr : w.grownBy wr (some R)) (hg : wr.grownBy w' v.ownBlock) (hlo : ∀ b, v.ownBlock = some b → w.heap.size ≤ b) : w.grownBy w' (some R) :=
  ⟨hg.os.trans hgr.os, hg.tape.trans hgr.tape, hg.output.trans hgr.output, Nat.le_trans hgr.size hg.size, fun q a b => (hg.block q (Nat.lt_of_lt_of_le a hgr.size) fun e => by have := hlo q e.symm; omega).trans (hgr.block q a b)⟩
theorem rd_own {wr w' : World} {R B k : Nat} {v : Value} (hr : Rd wr R k) (hg : wr.grownBy w' v.ownBlock) (hlo : ∀ b, v.ownBlock = some b → B ≤ b) (hB : R < B) (hl : B ≤ wr.heap.size) : Rd w' R k :=
  hr.upto (B := R + 1) ⟨hg.os, hg.tape, hg.output, hg.size, fun q hq => hg.block q (by omega) fun e => by have := hlo q e.symm; omega⟩ (by omega)
theorem Ky.app1 {w' : World} {v' : Value} {ys : List Int} (h : Ky w R wr k kv sv ks ss) (ho : Own w' w.heap.size v' ys) (hg : wr.grownBy w' kv.ownBlock) (hk : v'.ownBlock = kv.ownBlock ∨ ∃ b, v'.ownBlock = some b ∧ wr.heap.size ≤ b) : Ky w R w' k v' sv ys ss :=
  ⟨rd_own h.rd hg (fun b hb => (h.ok.lt b hb).1) h.rl h.le, grown_own h.gr hg fun b hb => (h.ok.lt b hb).1, ho, own_heap h.os fun q hq => hg.block q (h.os.lt q hq).2 fun e => h.ap q e.symm hq,
   fun q h1 h2 => by
    rcases hk with hk | ⟨b, hb, hl⟩
    · exact h.ap q (hk ▸ h1) h2
    · rw [hb] at h1; cases h1; have := (h.os.lt _ h2).2; omega, h.rl⟩
theorem Ky.app2 {w' : World} {v' : Value} {ys : List Int} (h : Ky w R wr k kv sv ks ss) (ho : Own w' w.heap.size v' ys) (hg : wr.grownBy w' sv.ownBlock) (hk : v'.ownBlock = sv.ownBlock ∨ ∃ b, v'.ownBlock = some b ∧ wr.heap.size ≤ b) : Ky w R w' k kv v' ks ys :=
  ⟨rd_own h.rd hg (fun b hb => (h.os.lt b hb).1) h.rl h.le, grown_own h.gr hg fun b hb => (h.os.lt b hb).1, own_heap h.ok fun q hq => hg.block q (h.ok.lt q hq).2 fun e => h.ap q hq e.symm, ho,
   fun q h1 h2 => by
    rcases hk with hk | ⟨b, hb, hl⟩
    · exact h.ap q h1 (hk ▸ h2)
    · rw [hb] at h2; cases h2; have := (h.ok.lt _ h1).2; omega, h.rl⟩
end
/-- How many exponents are known. -/
def pos (ss : List Int) : Nat := ss.countP fun x => decide (0 ≤ x)
theorem pos_all : ∀ {ss : List Int}, (∀ j, j < ss.length → 0 ≤ nth ss j) → pos ss = ss.length := fun {ss} h => by
  unfold pos
  rw [List.countP_eq_length]
  intro a ha
  obtain ⟨j, hj, e⟩ := List.getElem_of_mem ha
  have := h j hj
  rw [show nth ss j = a by unfold nth; rw [List.getD_eq_getElem?_getD, List.getElem?_eq_getElem hj, e]; rfl] at this
  exact decide_eq_true this
theorem pos_some {ss : List Int} (h : 0 < pos ss) : ∃ j, j < ss.length ∧ 0 ≤ nth ss j := by
  obtain ⟨a, ha, hp⟩ := List.countP_pos_iff.1 h
  obtain ⟨j, hj, e⟩ := List.getElem_of_mem ha
  refine ⟨j, hj, ?_⟩
  rw [show nth ss j = a by unfold nth; rw [List.getD_eq_getElem?_getD, List.getElem?_eq_getElem hj, e]; rfl]
  exact of_decide_eq_true hp
theorem pos_set {ss : List Int} {j : Nat} (hj : j < ss.length) (h : 0 ≤ nth ss j) : pos (ss.set j (-1)) + 1 = pos ss := by
  have hn : nth ss j = ss[j] := by unfold nth; rw [List.getD_eq_getElem?_getD, List.getElem?_eq_getElem hj]; rfl
  have hp : 0 < pos ss := List.countP_pos_iff.2 ⟨ss[j], List.getElem_mem hj, decide_eq_true (by rw [← hn]; exact h)⟩
  unfold pos at *
  rw [List.countP_set hj, if_pos (decide_eq_true (by rw [← hn]; exact h)), if_neg (by decide)]
  omega
def KeysPost (R k : Nat) (w : World) (e : Ending) (w' : World) : Prop :=
  ∃ (g : Int) (kv : Value) (keys : List Int) (need : Int) (sv : Value) (secrets : List Int) (k' : Nat), e = .returned (.tuple #[.int .i64 g, kv, .int .i64 need, sv]) ∧ (-1 ≤ g ∧ g ≤ 4) ∧ (1 ≤ need ∧ need ≤ 5) ∧ (1 ≤ keys.length ∧ keys.length ≤ 5) ∧ (1 ≤ secrets.length ∧ secrets.length ≤ 4) ∧ k' ≤ k + 40 ∧ (0 ≤ ord g → (keys.length : Int) ≤ ord g) ∧ Ky w R w' k' kv sv keys secrets
theorem set_len1 (xs : List Int) (k : Nat) (y : Int) : (xs.set k y).length = xs.length := List.length_set

set_option maxRecDepth 20000 in
set_option maxHeartbeats 12800000 in
theorem drawkeys_any (R k : Nat) (nn : Int) (w : World) (h : Rd w R k) (hk : k ≤ 10000) (hn1 : 1 ≤ nn) (hn2 : nn ≤ 1000) : Calls Tryd.prog 73 #[.pointer (some ⟨R, 0, none⟩), .int .i64 nn] w (KeysPost R k w) := by
  have HRL := Lib.hid h.lt
  have H := Lib.hid h
  clear h
  go_enter Tryd.func73, Tryd.ntmps73
  go_wp2_with fail
  refine (drawgroup_any R k nn w H.out (by omega) hn1 (by omega)).mono ?_
  rintro e w0 ⟨g, rfl, hg0, hg1, g0, k0, hk0, r0⟩
  have H0 := Lib.hid r0
  have G0 := Lib.hid g0
  clear g0 r0 H
  go_wp2_with fail
  refine (sord_any g _).mono ?_
  rintro e w1 ⟨rfl, hb⟩
  have H1 := Lib.hid (H0.out.below hb)
  have G1 := Lib.hid (grown_trans G0.out (grown_below R hb))
  clear hb H0 G0
  obtain ⟨k1, hk1⟩ : ∃ k1, k1 = k0 := ⟨_, rfl⟩
  rw [← hk1] at H1 hk0
  clear hk1
  obtain ⟨q, hq⟩ : ∃ q, ord g = q := ⟨_, rfl⟩
  have hq3 : q = -1 ∨ (3 ≤ q ∧ q ≤ 23) := by
    by_cases hg : 0 ≤ g ∧ g < 4
    · have := ord_bd hg.1 hg.2; omega
    · left; rw [← hq]; exact ord_none hg
  rw [hq]
  have HQ := Lib.hid hq
  clear hq
  by_cases hmn : (4 : Int) ≤ q - 1
  · have hqa : 3 ≤ q := by omega
    have hqb : q ≤ 23 := by omega
    have hqc : ¬ q - 1 < 4 := by omega
    clear hq3
    go_wp2_with fail
    refine (pick_any R k1 _ _ H1.out (by omega)).mono ?_
    rintro e w2 ⟨mv, rfl, m0, m1, mm, hw2⟩
    have m2 := m1 (by omega)
    clear m1
    have H2 : Hid (Rd w2 R (k1 + 1)) := Lib.hid (by rw [hw2]; exact H1.out.next mm)
    have G2 : Hid (w.grownBy w2 (some R)) := Lib.hid (by rw [hw2]; exact grown_trans G1.out (grown_pick _ R k1 mm))
    clear hw2
    have m3 : mv < 4 := by omega
    obtain ⟨n, hn⟩ : ∃ n : Nat, (n : Int) = 1 + mv := ⟨(1 + mv).toNat, by omega⟩
    have n1 : 1 ≤ n := by omega
    have n4 : n ≤ 4 := by omega
    have HNM := Lib.hid (show 0 ≤ q → (n : Int) + 1 ≤ q by omega)
    clear H1 G1
    go_wp2_with fail
    rw [← hn]
    clear hn
    refine (pick_any R (k1 + 1) _ _ H2.out (by omega)).mono ?_
    rintro e w3 ⟨dv, rfl, d0, d1, mm, hw3⟩
    have d2 := d1 (by omega)
    have H3 : Hid (Rd w3 R (k1 + 2)) := Lib.hid (by rw [hw3]; exact H2.out.next mm)
    have G3 : Hid (w.grownBy w3 (some R)) := Lib.hid (by rw [hw3]; exact grown_trans G2.out (grown_pick _ R (k1 + 1) mm))
    clear hw3 d1 H2 G2
    obtain ⟨d, hd⟩ : ∃ d : Nat, (d : Int) = 1 + dv := ⟨(1 + dv).toNat, by omega⟩
    have dd1 : 1 ≤ d := by omega
    have ddn : d ≤ n := by omega
    clear m0 m2 m3 d0 d2
    have hs3 := G3.out.size
    have K4 := Lib.hid (show Ky w R ((w3.alloc (.cells #[] 3)).alloc (.cells #[] 3)) (k1 + 2) (.slice (some ⟨w3.heap.size, 0, none⟩) 0 0) (.slice (some ⟨w3.heap.size + 1, 0, none⟩) 0 0) [] [] from
      ⟨(H3.out.below (below_grow _ _)).below (below_grow _ _), grown_trans G3.out (grown_below R (Below.on (below_grow _ _) (below_grow _ _))), own_mono (own_below (own_made w3 3 rfl) (below_grow _ _)) hs3,
       own_mono (B := w3.heap.size + 1) (by have := own_made (w3.alloc (.cells #[] 3)) 3 rfl; simpa using this) (by omega), fun b e1 e2 => by simp [Value.ownBlock] at e1 e2; omega, HRL.out⟩)
    clear H3 G3 hs3
    go_wp2
    go_loopw [11, 12, 13] (fun kv sv i wr => ∃ (j : Nat) (ks ss : List Int) (kk : Nat), j ≤ n ∧ i = .int .i64 j ∧ ks.length = j ∧ ss.length = j ∧ kk ≤ k1 + 2 + 2 * j ∧ Hid (∀ q, q < j → 0 ≤ nth ss q) ∧ Hid (Ky w R wr kk kv sv ks ss)) (fun _ _ i _ => n - (intOf i).toNat)
    case atStart => exact ⟨0, [], [], k1 + 2, by omega, rfl, rfl, rfl, by omega, Lib.hid fun q hq => by omega, K4⟩
    case round =>
      obtain ⟨j, ks, ss, kk, hj, rfl, hl1, hl2, hkk, hP, hK⟩ := hrel
      obtain ⟨wo, rfl⟩ : ∃ wo : World, wo = wr := ⟨_, rfl⟩
      have HL1 := Lib.hid hl1
      have HL2 := Lib.hid hl2
      clear hl1 hl2 K4
      by_cases hjn : j < n
      · have hj1 : (j : Int) < (n : Int) := by omega
        go_wp2_with fail
        refine (drawexg_any R kk g _ hK.out.rd (by omega)).mono ?_
        rintro e w5 ⟨s, rfl, ⟨s0, s9⟩, g5, k5, hk5, r5⟩
        have K5 := Lib.hid (hK.out.draw g5 r5)
        clear g5 r5 hK
        go_wp2_with fail
        refine (skey_any g s _).mono ?_
        rintro e w6 ⟨rfl, hb⟩
        have K6 := Lib.hid (K5.out.on hb)
        clear hb K5
        have ov := K6.out.ok
        have hle := K6.out.le
        obtain ⟨ke, hke⟩ : ∃ x, keyOf g s = x := ⟨_, rfl⟩
        rw [hke]
        clear hke
        go_upto_region 11 with (at_builtin; refine wpAppInt rfl _ _ rfl rfl ov (by rw [HL1.out]; omega) (by omega) rfl ?_)
        intro v7 w7 o7 g7 k7
        have K7 := Lib.hid (K6.out.app1 o7 g7 k7)
        clear o7 g7 k7 ov K6 hle
        have ov := K7.out.os
        have hle := K7.out.le
        go_wp2_with (at_builtin; refine wpAppInt rfl _ _ rfl rfl ov (by rw [HL2.out]; omega) (by omega) rfl ?_)
        intro v8 w8 o8 g8 k8
        have K8 := Lib.hid (K7.out.app2 o8 g8 k8)
        clear o8 g8 k8 ov K7 hle
        have HPN := Lib.hid (show ∀ q, q < j + 1 → 0 ≤ nth (ss ++ [s]) q from fun q hq => by
          rw [nth_app, HL2.out]
          by_cases e : q < j
          · rw [if_pos e]; exact hP.out q e
          · rw [if_neg e, if_pos (by omega)]; exact s0)
        go_wp2
        go_roundw
        case rel => exact ⟨j + 1, ks ++ [ke], ss ++ [s], k5, by omega, by go_num, by rw [List.length_append, HL1.out]; rfl, by rw [List.length_append, HL2.out]; rfl, by omega, HPN, K8⟩
        case measure => simp [intOf]; omega
      · obtain rfl : j = n := by omega
        have hj1 : ¬ (j : Int) < (j : Int) := by omega
        obtain ⟨kv, hkv⟩ : ∃ kv : Value, kv = u11 := ⟨_, rfl⟩
        obtain ⟨sv, hsv⟩ : ∃ sv : Value, sv = u12 := ⟨_, rfl⟩
        rw [← hkv, ← hsv] at hK ⊢
        clear hkv hsv
        obtain ⟨SB, SC, esv⟩ := own_slice' hK.out.os (by rw [HL2.out]; omega)
        rw [HL2.out] at esv
        subst esv
        obtain ⟨KB, KC, ekv⟩ := own_slice' hK.out.ok (by rw [HL1.out]; omega)
        rw [HL1.out] at ekv
        subst ekv
        have HPS := Lib.hid (show pos ss = d + (j - d) by rw [pos_all (by rw [HL2.out]; exact hP.out), HL2.out]; omega)
        have h1d : (1 : Int) + dv = d := hd.symm
        rw [h1d]
        clear h1d hP hd
        go_wp2
        go_loopw [15] (fun i wr => ∃ (c : Nat) (zs : List Int) (kz : Nat), c ≤ j - d ∧ i = .int .i64 c ∧ kz ≤ kk + (j - d - c) ∧ Hid (zs.length = j ∧ pos zs = d + c) ∧ Hid (Ky w R wr kz (.slice (some ⟨KB, 0, none⟩) j KC) (.slice (some ⟨SB, 0, none⟩) j SC) ks zs)) (fun i _ => (intOf i).toNat)
        case atStart => exact ⟨j - d, ss, kk, by omega, by congr 1; omega, by omega, Lib.hid ⟨HL2.out, HPS.out⟩, hK⟩
        case round =>
          obtain ⟨c, zs, kz, hc, rfl, hkz, hZ, hK2⟩ := hrel
          obtain ⟨wi, rfl⟩ : ∃ wi : World, wi = wr := ⟨_, rfl⟩
          clear hK
          by_cases hc0 : 0 < c
          · have hc1 : (c : Int) > 0 := by omega
            go_wp2_with fail
            refine (pick_any R kz _ _ hK2.out.rd (by omega)).mono ?_
            rintro e w9 ⟨av, rfl, a0, a1, ma, hw9⟩
            have a2 := a1 (by omega)
            have hgp := grown_pick wi R kz ma
            have hrn := hK2.out.rd.next ma
            rw [← hw9] at hgp hrn
            have K9 := Lib.hid (hK2.out.draw hgp hrn)
            clear hw9 hgp hrn a1 hK2
            obtain ⟨a9, ha9⟩ : ∃ a9 : Nat, (a9 : Int) = av := ⟨av.toNat, by omega⟩
            subst ha9
            have a3 : a9 < j := by omega
            obtain ⟨t9, ht9, hpt⟩ := pos_some (show 0 < pos zs by rw [hZ.out.2]; omega)
            rw [hZ.out.1] at ht9
            have HPT := Lib.hid hpt
            have HZL := Lib.hid hZ.out.1
            clear hpt a0 a2
            have HSC := Lib.hid (show ∀ q, q < j → w9.cell? ⟨SB, q, none⟩ = some (.int .i64 (nth zs q)) from fun q hq => (K9.out.os.set HZL.out hq 0).1.2)
            have hj9 : ((j : Int) == 0) = false := by simp; omega
            have hj8 : ¬ (j : Int) = 0 := by omega
            go_wp2
            go_loop [16] (fun x => ∃ a : Nat, a < j ∧ x = .int .i64 a) (fun x => if (intOf x).toNat ≤ t9 then t9 - (intOf x).toNat else t9 + j - (intOf x).toNat)
            case atStart => exact ⟨a9, a3, rfl⟩
            case round =>
              obtain ⟨a, ha, rfl⟩ := hrel
              have hca := HSC.out a ha
              have ha1 : (a : Int) < (j : Int) := by omega
              by_cases hneg : nth zs a < 0
              · have hat : a ≠ t9 := fun e => by have := HPT.out; rw [← e] at this; omega
                by_cases hw : a + 1 = j
                · have hm : ((a : Int) + 1).tmod (j : Int) = 0 := by rw [show (a : Int) + 1 = (j : Int) by omega]; exact Int.tmod_self
                  have HW := Lib.hid hw
                  clear hw
                  go_wp2
                  go_round
                  case rel => exact ⟨0, by omega, by go_num⟩
                  case measure =>
                    have := HW.out
                    have h1 : ¬ a ≤ t9 := by omega
                    simp [intOf, h1]; omega
                · have hm : ((a : Int) + 1).tmod (j : Int) = (a : Int) + 1 := Int.tmod_eq_of_lt (by omega) (by omega)
                  go_wp2
                  go_round
                  case rel => exact ⟨a + 1, by omega, by go_num⟩
                  case measure =>
                    by_cases h1 : a ≤ t9
                    · have h2 : a + 1 ≤ t9 := by omega
                      simp [intOf, h1, h2]; omega
                    · have h2 : ¬ a + 1 ≤ t9 := by omega
                      simp [intOf, h1, h2]; omega
              · obtain ⟨⟨f0, c0⟩, o9, g9⟩ := K9.out.os.set HZL.out ha (-1)
                have K10 := Lib.hid (K9.out.app2 o9 g9 (.inl rfl))
                have HZ2 := Lib.hid (show (zs.set a (-1)).length = j ∧ pos (zs.set a (-1)) = d + (c - 1) from ⟨by rw [List.length_set, HZL.out], by have := pos_set (ss := zs) (by rw [HZL.out]; exact ha) (by omega); have := hZ.out.2; omega⟩)
                clear o9 g9 K9 c0
                go_wp2
                go_roundw
                case rel => exact ⟨c - 1, zs.set a (-1), kz + 1, by omega, by congr 1; omega, by omega, HZ2, K10⟩
                case measure => simp [intOf]; omega
          · have hc1 : ¬ (c : Int) > 0 := by omega
            have HZL := Lib.hid hZ.out.1
            go_wp2_with fail
            refine (odd_any R kz nn _ hK2.out.rd (by omega) hn1 (by omega)).mono ?_
            rintro e w9 ⟨b, rfl, mm, hw9⟩
            have hgp := grown_pick wi R kz mm
            have hrn := hK2.out.rd.next mm
            rw [← hw9] at hgp hrn
            have K9 := Lib.hid (hK2.out.draw hgp hrn)
            clear hw9 hgp hrn hK2
            cases b
            · go_wp2
              refine bodyPost_ret (v := .tuple #[.int .i64 g, .slice (some ⟨KB, 0, none⟩) j KC, .int .i64 d, .slice (some ⟨SB, 0, none⟩) j SC]) ?_ rfl ?_
              · simp [results, Tryd.results73, go_sem]
              · exact ⟨g, _, ks, d, _, zs, kz + 1, rfl, ⟨hg0, hg1⟩, ⟨by omega, by omega⟩, ⟨by rw [HL1.out]; omega, by rw [HL1.out]; omega⟩, ⟨by rw [HZL.out]; omega, by rw [HZL.out]; omega⟩, by omega, by
                  rw [HQ.out]; intro hq0; have hnm := HNM.out hq0; rw [HL1.out]; omega, K9.out⟩
            · go_wp2_with fail
              refine (pick_any R (kz + 1) _ _ K9.out.rd (by omega)).mono ?_
              rintro e w10 ⟨pv, rfl, p0, p1, mp, hw10⟩
              have p2 := p1 (by omega)
              have hgp := grown_pick w9 R (kz + 1) mp
              have hrn := K9.out.rd.next mp
              rw [← hw10] at hgp hrn
              have K10 := Lib.hid (K9.out.draw hgp hrn)
              clear hw10 hgp hrn K9 p1
              obtain rfl | rfl | rfl : pv = 0 ∨ pv = 1 ∨ pv = 2 := by omega
              · clear p0 p2
                go_wp2
                refine bodyPost_ret (v := .tuple #[.int .i64 g, .slice (some ⟨KB, 0, none⟩) j KC, .int .i64 (j + 1), .slice (some ⟨SB, 0, none⟩) j SC]) ?_ rfl ?_
                · simp [results, Tryd.results73, go_sem]
                · exact ⟨g, _, ks, (j + 1), _, zs, kz + 1 + 1, rfl, ⟨hg0, hg1⟩, ⟨by omega, by omega⟩, ⟨by rw [HL1.out]; omega, by rw [HL1.out]; omega⟩, ⟨by rw [HZL.out]; omega, by rw [HZL.out]; omega⟩, by omega, by
                    rw [HQ.out]; intro hq0; have hnm := HNM.out hq0; rw [HL1.out]; omega, K10.out⟩
              · clear p0 p2
                have ov := K10.out.ok
                have hle := K10.out.le
                go_wp2_with (at_builtin; refine wpAppInt rfl _ _ rfl rfl ov (by rw [HL1.out]; omega) (by omega) rfl ?_)
                intro v11 w11 o11 g11 k11
                have K11 := Lib.hid (K10.out.app1 o11 g11 k11)
                clear o11 g11 k11 ov hle K10
                go_wp2
                refine bodyPost_ret (v := .tuple #[.int .i64 g, v11, .int .i64 d, .slice (some ⟨SB, 0, none⟩) j SC]) ?_ rfl ?_
                · simp [results, Tryd.results73, go_sem]
                · exact ⟨g, _, (ks ++ [1]), d, _, zs, kz + 1 + 1, rfl, ⟨hg0, hg1⟩, ⟨by omega, by omega⟩, ⟨by have := HL1.out; have h8 : (ks ++ [(1 : Int)]).length = ks.length + 1 := List.length_append; omega, by have := HL1.out; have h8 : (ks ++ [(1 : Int)]).length = ks.length + 1 := List.length_append; omega⟩, ⟨by rw [HZL.out]; omega, by rw [HZL.out]; omega⟩, by omega, by
                    rw [HQ.out]; intro hq0; have hnm := HNM.out hq0; have := HL1.out; have h8 : (ks ++ [(1 : Int)]).length = ks.length + 1 := List.length_append; omega, K11.out⟩
              · clear p0 p2
                obtain ⟨⟨f0, c0⟩, o11, g11⟩ := K10.out.ok.set HL1.out (show 0 < j by omega) 0
                have K11 := Lib.hid (K10.out.app1 o11 g11 (.inl rfl))
                have hj9 : (0 : Int) < (j : Int) := by omega
                clear o11 g11 K10
                go_wp2
                refine bodyPost_ret (v := .tuple #[.int .i64 g, .slice (some ⟨KB, 0, none⟩) j KC, .int .i64 d, .slice (some ⟨SB, 0, none⟩) j SC]) ?_ rfl ?_
                · simp [results, Tryd.results73, go_sem]
                · exact ⟨g, _, (ks.set 0 0), d, _, zs, kz + 1 + 1, rfl, ⟨hg0, hg1⟩, ⟨by omega, by omega⟩, ⟨by rw [List.length_set, HL1.out]; omega, by rw [List.length_set, HL1.out]; omega⟩, ⟨by rw [HZL.out]; omega, by rw [HZL.out]; omega⟩, by omega, by
                    rw [HQ.out]; intro hq0; have hnm := HNM.out hq0; rw [List.length_set, HL1.out]; omega, K11.out⟩
  · by_cases hmx : (1 : Int) ≤ q - 1
    · have hqa : 3 ≤ q := by omega
      have hqb : q ≤ 23 := by omega
      have hqc : q - 1 < 4 := by omega
      clear hq3
      go_wp2_with fail
      refine (pick_any R k1 _ _ H1.out (by omega)).mono ?_
      rintro e w2 ⟨mv, rfl, m0, m1, mm, hw2⟩
      have m2 := m1 (by omega)
      clear m1
      have H2 : Hid (Rd w2 R (k1 + 1)) := Lib.hid (by rw [hw2]; exact H1.out.next mm)
      have G2 : Hid (w.grownBy w2 (some R)) := Lib.hid (by rw [hw2]; exact grown_trans G1.out (grown_pick _ R k1 mm))
      clear hw2
      have m3 : mv < 4 := by omega
      obtain ⟨n, hn⟩ : ∃ n : Nat, (n : Int) = 1 + mv := ⟨(1 + mv).toNat, by omega⟩
      have n1 : 1 ≤ n := by omega
      have n4 : n ≤ 4 := by omega
      have HNM := Lib.hid (show 0 ≤ q → (n : Int) + 1 ≤ q by omega)
      clear H1 G1
      go_wp2_with fail
      rw [← hn]
      clear hn
      refine (pick_any R (k1 + 1) _ _ H2.out (by omega)).mono ?_
      rintro e w3 ⟨dv, rfl, d0, d1, mm, hw3⟩
      have d2 := d1 (by omega)
      have H3 : Hid (Rd w3 R (k1 + 2)) := Lib.hid (by rw [hw3]; exact H2.out.next mm)
      have G3 : Hid (w.grownBy w3 (some R)) := Lib.hid (by rw [hw3]; exact grown_trans G2.out (grown_pick _ R (k1 + 1) mm))
      clear hw3 d1 H2 G2
      obtain ⟨d, hd⟩ : ∃ d : Nat, (d : Int) = 1 + dv := ⟨(1 + dv).toNat, by omega⟩
      have dd1 : 1 ≤ d := by omega
      have ddn : d ≤ n := by omega
      clear m0 m2 m3 d0 d2
      have hs3 := G3.out.size
      have K4 := Lib.hid (show Ky w R ((w3.alloc (.cells #[] 3)).alloc (.cells #[] 3)) (k1 + 2) (.slice (some ⟨w3.heap.size, 0, none⟩) 0 0) (.slice (some ⟨w3.heap.size + 1, 0, none⟩) 0 0) [] [] from
        ⟨(H3.out.below (below_grow _ _)).below (below_grow _ _), grown_trans G3.out (grown_below R (Below.on (below_grow _ _) (below_grow _ _))), own_mono (own_below (own_made w3 3 rfl) (below_grow _ _)) hs3,
         own_mono (B := w3.heap.size + 1) (by have := own_made (w3.alloc (.cells #[] 3)) 3 rfl; simpa using this) (by omega), fun b e1 e2 => by simp [Value.ownBlock] at e1 e2; omega, HRL.out⟩)
      clear H3 G3 hs3
      go_wp2
      go_loopw [11, 12, 13] (fun kv sv i wr => ∃ (j : Nat) (ks ss : List Int) (kk : Nat), j ≤ n ∧ i = .int .i64 j ∧ ks.length = j ∧ ss.length = j ∧ kk ≤ k1 + 2 + 2 * j ∧ Hid (∀ q, q < j → 0 ≤ nth ss q) ∧ Hid (Ky w R wr kk kv sv ks ss)) (fun _ _ i _ => n - (intOf i).toNat)
      case atStart => exact ⟨0, [], [], k1 + 2, by omega, rfl, rfl, rfl, by omega, Lib.hid fun q hq => by omega, K4⟩
      case round =>
        obtain ⟨j, ks, ss, kk, hj, rfl, hl1, hl2, hkk, hP, hK⟩ := hrel
        obtain ⟨wo, rfl⟩ : ∃ wo : World, wo = wr := ⟨_, rfl⟩
        have HL1 := Lib.hid hl1
        have HL2 := Lib.hid hl2
        clear hl1 hl2 K4
        by_cases hjn : j < n
        · have hj1 : (j : Int) < (n : Int) := by omega
          go_wp2_with fail
          refine (drawexg_any R kk g _ hK.out.rd (by omega)).mono ?_
          rintro e w5 ⟨s, rfl, ⟨s0, s9⟩, g5, k5, hk5, r5⟩
          have K5 := Lib.hid (hK.out.draw g5 r5)
          clear g5 r5 hK
          go_wp2_with fail
          refine (skey_any g s _).mono ?_
          rintro e w6 ⟨rfl, hb⟩
          have K6 := Lib.hid (K5.out.on hb)
          clear hb K5
          have ov := K6.out.ok
          have hle := K6.out.le
          obtain ⟨ke, hke⟩ : ∃ x, keyOf g s = x := ⟨_, rfl⟩
          rw [hke]
          clear hke
          go_upto_region 11 with (at_builtin; refine wpAppInt rfl _ _ rfl rfl ov (by rw [HL1.out]; omega) (by omega) rfl ?_)
          intro v7 w7 o7 g7 k7
          have K7 := Lib.hid (K6.out.app1 o7 g7 k7)
          clear o7 g7 k7 ov K6 hle
          have ov := K7.out.os
          have hle := K7.out.le
          go_wp2_with (at_builtin; refine wpAppInt rfl _ _ rfl rfl ov (by rw [HL2.out]; omega) (by omega) rfl ?_)
          intro v8 w8 o8 g8 k8
          have K8 := Lib.hid (K7.out.app2 o8 g8 k8)
          clear o8 g8 k8 ov K7 hle
          have HPN := Lib.hid (show ∀ q, q < j + 1 → 0 ≤ nth (ss ++ [s]) q from fun q hq => by
            rw [nth_app, HL2.out]
            by_cases e : q < j
            · rw [if_pos e]; exact hP.out q e
            · rw [if_neg e, if_pos (by omega)]; exact s0)
          go_wp2
          go_roundw
          case rel => exact ⟨j + 1, ks ++ [ke], ss ++ [s], k5, by omega, by go_num, by rw [List.length_append, HL1.out]; rfl, by rw [List.length_append, HL2.out]; rfl, by omega, HPN, K8⟩
          case measure => simp [intOf]; omega
        · obtain rfl : j = n := by omega
          have hj1 : ¬ (j : Int) < (j : Int) := by omega
          obtain ⟨kv, hkv⟩ : ∃ kv : Value, kv = u11 := ⟨_, rfl⟩
          obtain ⟨sv, hsv⟩ : ∃ sv : Value, sv = u12 := ⟨_, rfl⟩
          rw [← hkv, ← hsv] at hK ⊢
          clear hkv hsv
          obtain ⟨SB, SC, esv⟩ := own_slice' hK.out.os (by rw [HL2.out]; omega)
          rw [HL2.out] at esv
          subst esv
          obtain ⟨KB, KC, ekv⟩ := own_slice' hK.out.ok (by rw [HL1.out]; omega)
          rw [HL1.out] at ekv
          subst ekv
          have HPS := Lib.hid (show pos ss = d + (j - d) by rw [pos_all (by rw [HL2.out]; exact hP.out), HL2.out]; omega)
          have h1d : (1 : Int) + dv = d := hd.symm
          rw [h1d]
          clear h1d hP hd
          go_wp2
          go_loopw [15] (fun i wr => ∃ (c : Nat) (zs : List Int) (kz : Nat), c ≤ j - d ∧ i = .int .i64 c ∧ kz ≤ kk + (j - d - c) ∧ Hid (zs.length = j ∧ pos zs = d + c) ∧ Hid (Ky w R wr kz (.slice (some ⟨KB, 0, none⟩) j KC) (.slice (some ⟨SB, 0, none⟩) j SC) ks zs)) (fun i _ => (intOf i).toNat)
          case atStart => exact ⟨j - d, ss, kk, by omega, by congr 1; omega, by omega, Lib.hid ⟨HL2.out, HPS.out⟩, hK⟩
          case round =>
            obtain ⟨c, zs, kz, hc, rfl, hkz, hZ, hK2⟩ := hrel
            obtain ⟨wi, rfl⟩ : ∃ wi : World, wi = wr := ⟨_, rfl⟩
            clear hK
            by_cases hc0 : 0 < c
            · have hc1 : (c : Int) > 0 := by omega
              go_wp2_with fail
              refine (pick_any R kz _ _ hK2.out.rd (by omega)).mono ?_
              rintro e w9 ⟨av, rfl, a0, a1, ma, hw9⟩
              have a2 := a1 (by omega)
              have hgp := grown_pick wi R kz ma
              have hrn := hK2.out.rd.next ma
              rw [← hw9] at hgp hrn
              have K9 := Lib.hid (hK2.out.draw hgp hrn)
              clear hw9 hgp hrn a1 hK2
              obtain ⟨a9, ha9⟩ : ∃ a9 : Nat, (a9 : Int) = av := ⟨av.toNat, by omega⟩
              subst ha9
              have a3 : a9 < j := by omega
              obtain ⟨t9, ht9, hpt⟩ := pos_some (show 0 < pos zs by rw [hZ.out.2]; omega)
              rw [hZ.out.1] at ht9
              have HPT := Lib.hid hpt
              have HZL := Lib.hid hZ.out.1
              clear hpt a0 a2
              have HSC := Lib.hid (show ∀ q, q < j → w9.cell? ⟨SB, q, none⟩ = some (.int .i64 (nth zs q)) from fun q hq => (K9.out.os.set HZL.out hq 0).1.2)
              have hj9 : ((j : Int) == 0) = false := by simp; omega
              have hj8 : ¬ (j : Int) = 0 := by omega
              go_wp2
              go_loop [16] (fun x => ∃ a : Nat, a < j ∧ x = .int .i64 a) (fun x => if (intOf x).toNat ≤ t9 then t9 - (intOf x).toNat else t9 + j - (intOf x).toNat)
              case atStart => exact ⟨a9, a3, rfl⟩
              case round =>
                obtain ⟨a, ha, rfl⟩ := hrel
                have hca := HSC.out a ha
                have ha1 : (a : Int) < (j : Int) := by omega
                by_cases hneg : nth zs a < 0
                · have hat : a ≠ t9 := fun e => by have := HPT.out; rw [← e] at this; omega
                  by_cases hw : a + 1 = j
                  · have hm : ((a : Int) + 1).tmod (j : Int) = 0 := by rw [show (a : Int) + 1 = (j : Int) by omega]; exact Int.tmod_self
                    have HW := Lib.hid hw
                    clear hw
                    go_wp2
                    go_round
                    case rel => exact ⟨0, by omega, by go_num⟩
                    case measure =>
                      have := HW.out
                      have h1 : ¬ a ≤ t9 := by omega
                      simp [intOf, h1]; omega
                  · have hm : ((a : Int) + 1).tmod (j : Int) = (a : Int) + 1 := Int.tmod_eq_of_lt (by omega) (by omega)
                    go_wp2
                    go_round
                    case rel => exact ⟨a + 1, by omega, by go_num⟩
                    case measure =>
                      by_cases h1 : a ≤ t9
                      · have h2 : a + 1 ≤ t9 := by omega
                        simp [intOf, h1, h2]; omega
                      · have h2 : ¬ a + 1 ≤ t9 := by omega
                        simp [intOf, h1, h2]; omega
                · obtain ⟨⟨f0, c0⟩, o9, g9⟩ := K9.out.os.set HZL.out ha (-1)
                  have K10 := Lib.hid (K9.out.app2 o9 g9 (.inl rfl))
                  have HZ2 := Lib.hid (show (zs.set a (-1)).length = j ∧ pos (zs.set a (-1)) = d + (c - 1) from ⟨by rw [List.length_set, HZL.out], by have := pos_set (ss := zs) (by rw [HZL.out]; exact ha) (by omega); have := hZ.out.2; omega⟩)
                  clear o9 g9 K9 c0
                  go_wp2
                  go_roundw
                  case rel => exact ⟨c - 1, zs.set a (-1), kz + 1, by omega, by congr 1; omega, by omega, HZ2, K10⟩
                  case measure => simp [intOf]; omega
            · have hc1 : ¬ (c : Int) > 0 := by omega
              have HZL := Lib.hid hZ.out.1
              go_wp2_with fail
              refine (odd_any R kz nn _ hK2.out.rd (by omega) hn1 (by omega)).mono ?_
              rintro e w9 ⟨b, rfl, mm, hw9⟩
              have hgp := grown_pick wi R kz mm
              have hrn := hK2.out.rd.next mm
              rw [← hw9] at hgp hrn
              have K9 := Lib.hid (hK2.out.draw hgp hrn)
              clear hw9 hgp hrn hK2
              cases b
              · go_wp2
                refine bodyPost_ret (v := .tuple #[.int .i64 g, .slice (some ⟨KB, 0, none⟩) j KC, .int .i64 d, .slice (some ⟨SB, 0, none⟩) j SC]) ?_ rfl ?_
                · simp [results, Tryd.results73, go_sem]
                · exact ⟨g, _, ks, d, _, zs, kz + 1, rfl, ⟨hg0, hg1⟩, ⟨by omega, by omega⟩, ⟨by rw [HL1.out]; omega, by rw [HL1.out]; omega⟩, ⟨by rw [HZL.out]; omega, by rw [HZL.out]; omega⟩, by omega, by
                    rw [HQ.out]; intro hq0; have hnm := HNM.out hq0; rw [HL1.out]; omega, K9.out⟩
              · go_wp2_with fail
                refine (pick_any R (kz + 1) _ _ K9.out.rd (by omega)).mono ?_
                rintro e w10 ⟨pv, rfl, p0, p1, mp, hw10⟩
                have p2 := p1 (by omega)
                have hgp := grown_pick w9 R (kz + 1) mp
                have hrn := K9.out.rd.next mp
                rw [← hw10] at hgp hrn
                have K10 := Lib.hid (K9.out.draw hgp hrn)
                clear hw10 hgp hrn K9 p1
                obtain rfl | rfl | rfl : pv = 0 ∨ pv = 1 ∨ pv = 2 := by omega
                · clear p0 p2
                  go_wp2
                  refine bodyPost_ret (v := .tuple #[.int .i64 g, .slice (some ⟨KB, 0, none⟩) j KC, .int .i64 (j + 1), .slice (some ⟨SB, 0, none⟩) j SC]) ?_ rfl ?_
                  · simp [results, Tryd.results73, go_sem]
                  · exact ⟨g, _, ks, (j + 1), _, zs, kz + 1 + 1, rfl, ⟨hg0, hg1⟩, ⟨by omega, by omega⟩, ⟨by rw [HL1.out]; omega, by rw [HL1.out]; omega⟩, ⟨by rw [HZL.out]; omega, by rw [HZL.out]; omega⟩, by omega, by
                      rw [HQ.out]; intro hq0; have hnm := HNM.out hq0; rw [HL1.out]; omega, K10.out⟩
                · clear p0 p2
                  have ov := K10.out.ok
                  have hle := K10.out.le
                  go_wp2_with (at_builtin; refine wpAppInt rfl _ _ rfl rfl ov (by rw [HL1.out]; omega) (by omega) rfl ?_)
                  intro v11 w11 o11 g11 k11
                  have K11 := Lib.hid (K10.out.app1 o11 g11 k11)
                  clear o11 g11 k11 ov hle K10
                  go_wp2
                  refine bodyPost_ret (v := .tuple #[.int .i64 g, v11, .int .i64 d, .slice (some ⟨SB, 0, none⟩) j SC]) ?_ rfl ?_
                  · simp [results, Tryd.results73, go_sem]
                  · exact ⟨g, _, (ks ++ [1]), d, _, zs, kz + 1 + 1, rfl, ⟨hg0, hg1⟩, ⟨by omega, by omega⟩, ⟨by have := HL1.out; have h8 : (ks ++ [(1 : Int)]).length = ks.length + 1 := List.length_append; omega, by have := HL1.out; have h8 : (ks ++ [(1 : Int)]).length = ks.length + 1 := List.length_append; omega⟩, ⟨by rw [HZL.out]; omega, by rw [HZL.out]; omega⟩, by omega, by
                      rw [HQ.out]; intro hq0; have hnm := HNM.out hq0; have := HL1.out; have h8 : (ks ++ [(1 : Int)]).length = ks.length + 1 := List.length_append; omega, K11.out⟩
                · clear p0 p2
                  obtain ⟨⟨f0, c0⟩, o11, g11⟩ := K10.out.ok.set HL1.out (show 0 < j by omega) 0
                  have K11 := Lib.hid (K10.out.app1 o11 g11 (.inl rfl))
                  have hj9 : (0 : Int) < (j : Int) := by omega
                  clear o11 g11 K10
                  go_wp2
                  refine bodyPost_ret (v := .tuple #[.int .i64 g, .slice (some ⟨KB, 0, none⟩) j KC, .int .i64 d, .slice (some ⟨SB, 0, none⟩) j SC]) ?_ rfl ?_
                  · simp [results, Tryd.results73, go_sem]
                  · exact ⟨g, _, (ks.set 0 0), d, _, zs, kz + 1 + 1, rfl, ⟨hg0, hg1⟩, ⟨by omega, by omega⟩, ⟨by rw [List.length_set, HL1.out]; omega, by rw [List.length_set, HL1.out]; omega⟩, ⟨by rw [HZL.out]; omega, by rw [HZL.out]; omega⟩, by omega, by
                      rw [HQ.out]; intro hq0; have hnm := HNM.out hq0; rw [List.length_set, HL1.out]; omega, K11.out⟩
    · obtain rfl : q = -1 := by omega
      clear hq3 hmn hmx
      go_wp2_with fail
      refine (pick_any R k1 _ _ H1.out (by omega)).mono ?_
      rintro e w2 ⟨mv, rfl, m0, m1, mm, hw2⟩
      have m2 := m1 (by omega)
      clear m1
      have H2 : Hid (Rd w2 R (k1 + 1)) := Lib.hid (by rw [hw2]; exact H1.out.next mm)
      have G2 : Hid (w.grownBy w2 (some R)) := Lib.hid (by rw [hw2]; exact grown_trans G1.out (grown_pick _ R k1 mm))
      clear hw2
      have m3 : mv < 4 := by omega
      obtain ⟨n, hn⟩ : ∃ n : Nat, (n : Int) = 1 + mv := ⟨(1 + mv).toNat, by omega⟩
      have n1 : 1 ≤ n := by omega
      have n4 : n ≤ 4 := by omega
      have HNM := Lib.hid (show 0 ≤ (-1 : Int) → (n : Int) + 1 ≤ (-1 : Int) by omega)
      clear H1 G1
      go_wp2_with fail
      rw [← hn]
      clear hn
      refine (pick_any R (k1 + 1) _ _ H2.out (by omega)).mono ?_
      rintro e w3 ⟨dv, rfl, d0, d1, mm, hw3⟩
      have d2 := d1 (by omega)
      have H3 : Hid (Rd w3 R (k1 + 2)) := Lib.hid (by rw [hw3]; exact H2.out.next mm)
      have G3 : Hid (w.grownBy w3 (some R)) := Lib.hid (by rw [hw3]; exact grown_trans G2.out (grown_pick _ R (k1 + 1) mm))
      clear hw3 d1 H2 G2
      obtain ⟨d, hd⟩ : ∃ d : Nat, (d : Int) = 1 + dv := ⟨(1 + dv).toNat, by omega⟩
      have dd1 : 1 ≤ d := by omega
      have ddn : d ≤ n := by omega
      clear m0 m2 m3 d0 d2
      have hs3 := G3.out.size
      have K4 := Lib.hid (show Ky w R ((w3.alloc (.cells #[] 3)).alloc (.cells #[] 3)) (k1 + 2) (.slice (some ⟨w3.heap.size, 0, none⟩) 0 0) (.slice (some ⟨w3.heap.size + 1, 0, none⟩) 0 0) [] [] from
        ⟨(H3.out.below (below_grow _ _)).below (below_grow _ _), grown_trans G3.out (grown_below R (Below.on (below_grow _ _) (below_grow _ _))), own_mono (own_below (own_made w3 3 rfl) (below_grow _ _)) hs3,
         own_mono (B := w3.heap.size + 1) (by have := own_made (w3.alloc (.cells #[] 3)) 3 rfl; simpa using this) (by omega), fun b e1 e2 => by simp [Value.ownBlock] at e1 e2; omega, HRL.out⟩)
      clear H3 G3 hs3
      go_wp2
      go_loopw [11, 12, 13] (fun kv sv i wr => ∃ (j : Nat) (ks ss : List Int) (kk : Nat), j ≤ n ∧ i = .int .i64 j ∧ ks.length = j ∧ ss.length = j ∧ kk ≤ k1 + 2 + 2 * j ∧ Hid (∀ q, q < j → 0 ≤ nth ss q) ∧ Hid (Ky w R wr kk kv sv ks ss)) (fun _ _ i _ => n - (intOf i).toNat)
      case atStart => exact ⟨0, [], [], k1 + 2, by omega, rfl, rfl, rfl, by omega, Lib.hid fun q hq => by omega, K4⟩
      case round =>
        obtain ⟨j, ks, ss, kk, hj, rfl, hl1, hl2, hkk, hP, hK⟩ := hrel
        obtain ⟨wo, rfl⟩ : ∃ wo : World, wo = wr := ⟨_, rfl⟩
        have HL1 := Lib.hid hl1
        have HL2 := Lib.hid hl2
        clear hl1 hl2 K4
        by_cases hjn : j < n
        · have hj1 : (j : Int) < (n : Int) := by omega
          go_wp2_with fail
          refine (drawexg_any R kk g _ hK.out.rd (by omega)).mono ?_
          rintro e w5 ⟨s, rfl, ⟨s0, s9⟩, g5, k5, hk5, r5⟩
          have K5 := Lib.hid (hK.out.draw g5 r5)
          clear g5 r5 hK
          go_wp2_with fail
          refine (skey_any g s _).mono ?_
          rintro e w6 ⟨rfl, hb⟩
          have K6 := Lib.hid (K5.out.on hb)
          clear hb K5
          have ov := K6.out.ok
          have hle := K6.out.le
          obtain ⟨ke, hke⟩ : ∃ x, keyOf g s = x := ⟨_, rfl⟩
          rw [hke]
          clear hke
          go_upto_region 11 with (at_builtin; refine wpAppInt rfl _ _ rfl rfl ov (by rw [HL1.out]; omega) (by omega) rfl ?_)
          intro v7 w7 o7 g7 k7
          have K7 := Lib.hid (K6.out.app1 o7 g7 k7)
          clear o7 g7 k7 ov K6 hle
          have ov := K7.out.os
          have hle := K7.out.le
          go_wp2_with (at_builtin; refine wpAppInt rfl _ _ rfl rfl ov (by rw [HL2.out]; omega) (by omega) rfl ?_)
          intro v8 w8 o8 g8 k8
          have K8 := Lib.hid (K7.out.app2 o8 g8 k8)
          clear o8 g8 k8 ov K7 hle
          have HPN := Lib.hid (show ∀ q, q < j + 1 → 0 ≤ nth (ss ++ [s]) q from fun q hq => by
            rw [nth_app, HL2.out]
            by_cases e : q < j
            · rw [if_pos e]; exact hP.out q e
            · rw [if_neg e, if_pos (by omega)]; exact s0)
          go_wp2
          go_roundw
          case rel => exact ⟨j + 1, ks ++ [ke], ss ++ [s], k5, by omega, by go_num, by rw [List.length_append, HL1.out]; rfl, by rw [List.length_append, HL2.out]; rfl, by omega, HPN, K8⟩
          case measure => simp [intOf]; omega
        · obtain rfl : j = n := by omega
          have hj1 : ¬ (j : Int) < (j : Int) := by omega
          obtain ⟨kv, hkv⟩ : ∃ kv : Value, kv = u11 := ⟨_, rfl⟩
          obtain ⟨sv, hsv⟩ : ∃ sv : Value, sv = u12 := ⟨_, rfl⟩
          rw [← hkv, ← hsv] at hK ⊢
          clear hkv hsv
          obtain ⟨SB, SC, esv⟩ := own_slice' hK.out.os (by rw [HL2.out]; omega)
          rw [HL2.out] at esv
          subst esv
          obtain ⟨KB, KC, ekv⟩ := own_slice' hK.out.ok (by rw [HL1.out]; omega)
          rw [HL1.out] at ekv
          subst ekv
          have HPS := Lib.hid (show pos ss = d + (j - d) by rw [pos_all (by rw [HL2.out]; exact hP.out), HL2.out]; omega)
          have h1d : (1 : Int) + dv = d := hd.symm
          rw [h1d]
          clear h1d hP hd
          go_wp2
          go_loopw [15] (fun i wr => ∃ (c : Nat) (zs : List Int) (kz : Nat), c ≤ j - d ∧ i = .int .i64 c ∧ kz ≤ kk + (j - d - c) ∧ Hid (zs.length = j ∧ pos zs = d + c) ∧ Hid (Ky w R wr kz (.slice (some ⟨KB, 0, none⟩) j KC) (.slice (some ⟨SB, 0, none⟩) j SC) ks zs)) (fun i _ => (intOf i).toNat)
          case atStart => exact ⟨j - d, ss, kk, by omega, by congr 1; omega, by omega, Lib.hid ⟨HL2.out, HPS.out⟩, hK⟩
          case round =>
            obtain ⟨c, zs, kz, hc, rfl, hkz, hZ, hK2⟩ := hrel
            obtain ⟨wi, rfl⟩ : ∃ wi : World, wi = wr := ⟨_, rfl⟩
            clear hK
            by_cases hc0 : 0 < c
            · have hc1 : (c : Int) > 0 := by omega
              go_wp2_with fail
              refine (pick_any R kz _ _ hK2.out.rd (by omega)).mono ?_
              rintro e w9 ⟨av, rfl, a0, a1, ma, hw9⟩
              have a2 := a1 (by omega)
              have hgp := grown_pick wi R kz ma
              have hrn := hK2.out.rd.next ma
              rw [← hw9] at hgp hrn
              have K9 := Lib.hid (hK2.out.draw hgp hrn)
              clear hw9 hgp hrn a1 hK2
              obtain ⟨a9, ha9⟩ : ∃ a9 : Nat, (a9 : Int) = av := ⟨av.toNat, by omega⟩
              subst ha9
              have a3 : a9 < j := by omega
              obtain ⟨t9, ht9, hpt⟩ := pos_some (show 0 < pos zs by rw [hZ.out.2]; omega)
              rw [hZ.out.1] at ht9
              have HPT := Lib.hid hpt
              have HZL := Lib.hid hZ.out.1
              clear hpt a0 a2
              have HSC := Lib.hid (show ∀ q, q < j → w9.cell? ⟨SB, q, none⟩ = some (.int .i64 (nth zs q)) from fun q hq => (K9.out.os.set HZL.out hq 0).1.2)
              have hj9 : ((j : Int) == 0) = false := by simp; omega
              have hj8 : ¬ (j : Int) = 0 := by omega
              go_wp2
              go_loop [16] (fun x => ∃ a : Nat, a < j ∧ x = .int .i64 a) (fun x => if (intOf x).toNat ≤ t9 then t9 - (intOf x).toNat else t9 + j - (intOf x).toNat)
              case atStart => exact ⟨a9, a3, rfl⟩
              case round =>
                obtain ⟨a, ha, rfl⟩ := hrel
                have hca := HSC.out a ha
                have ha1 : (a : Int) < (j : Int) := by omega
                by_cases hneg : nth zs a < 0
                · have hat : a ≠ t9 := fun e => by have := HPT.out; rw [← e] at this; omega
                  by_cases hw : a + 1 = j
                  · have hm : ((a : Int) + 1).tmod (j : Int) = 0 := by rw [show (a : Int) + 1 = (j : Int) by omega]; exact Int.tmod_self
                    have HW := Lib.hid hw
                    clear hw
                    go_wp2
                    go_round
                    case rel => exact ⟨0, by omega, by go_num⟩
                    case measure =>
                      have := HW.out
                      have h1 : ¬ a ≤ t9 := by omega
                      simp [intOf, h1]; omega
                  · have hm : ((a : Int) + 1).tmod (j : Int) = (a : Int) + 1 := Int.tmod_eq_of_lt (by omega) (by omega)
                    go_wp2
                    go_round
                    case rel => exact ⟨a + 1, by omega, by go_num⟩
                    case measure =>
                      by_cases h1 : a ≤ t9
                      · have h2 : a + 1 ≤ t9 := by omega
                        simp [intOf, h1, h2]; omega
                      · have h2 : ¬ a + 1 ≤ t9 := by omega
                        simp [intOf, h1, h2]; omega
                · obtain ⟨⟨f0, c0⟩, o9, g9⟩ := K9.out.os.set HZL.out ha (-1)
                  have K10 := Lib.hid (K9.out.app2 o9 g9 (.inl rfl))
                  have HZ2 := Lib.hid (show (zs.set a (-1)).length = j ∧ pos (zs.set a (-1)) = d + (c - 1) from ⟨by rw [List.length_set, HZL.out], by have := pos_set (ss := zs) (by rw [HZL.out]; exact ha) (by omega); have := hZ.out.2; omega⟩)
                  clear o9 g9 K9 c0
                  go_wp2
                  go_roundw
                  case rel => exact ⟨c - 1, zs.set a (-1), kz + 1, by omega, by congr 1; omega, by omega, HZ2, K10⟩
                  case measure => simp [intOf]; omega
            · have hc1 : ¬ (c : Int) > 0 := by omega
              have HZL := Lib.hid hZ.out.1
              go_wp2_with fail
              refine (odd_any R kz nn _ hK2.out.rd (by omega) hn1 (by omega)).mono ?_
              rintro e w9 ⟨b, rfl, mm, hw9⟩
              have hgp := grown_pick wi R kz mm
              have hrn := hK2.out.rd.next mm
              rw [← hw9] at hgp hrn
              have K9 := Lib.hid (hK2.out.draw hgp hrn)
              clear hw9 hgp hrn hK2
              cases b
              · go_wp2
                refine bodyPost_ret (v := .tuple #[.int .i64 g, .slice (some ⟨KB, 0, none⟩) j KC, .int .i64 d, .slice (some ⟨SB, 0, none⟩) j SC]) ?_ rfl ?_
                · simp [results, Tryd.results73, go_sem]
                · exact ⟨g, _, ks, d, _, zs, kz + 1, rfl, ⟨hg0, hg1⟩, ⟨by omega, by omega⟩, ⟨by rw [HL1.out]; omega, by rw [HL1.out]; omega⟩, ⟨by rw [HZL.out]; omega, by rw [HZL.out]; omega⟩, by omega, by
                    rw [HQ.out]; intro hq0; have hnm := HNM.out hq0; rw [HL1.out]; omega, K9.out⟩
              · go_wp2_with fail
                refine (pick_any R (kz + 1) _ _ K9.out.rd (by omega)).mono ?_
                rintro e w10 ⟨pv, rfl, p0, p1, mp, hw10⟩
                have p2 := p1 (by omega)
                have hgp := grown_pick w9 R (kz + 1) mp
                have hrn := K9.out.rd.next mp
                rw [← hw10] at hgp hrn
                have K10 := Lib.hid (K9.out.draw hgp hrn)
                clear hw10 hgp hrn K9 p1
                obtain rfl | rfl | rfl : pv = 0 ∨ pv = 1 ∨ pv = 2 := by omega
                · clear p0 p2
                  go_wp2
                  refine bodyPost_ret (v := .tuple #[.int .i64 g, .slice (some ⟨KB, 0, none⟩) j KC, .int .i64 (j + 1), .slice (some ⟨SB, 0, none⟩) j SC]) ?_ rfl ?_
                  · simp [results, Tryd.results73, go_sem]
                  · exact ⟨g, _, ks, (j + 1), _, zs, kz + 1 + 1, rfl, ⟨hg0, hg1⟩, ⟨by omega, by omega⟩, ⟨by rw [HL1.out]; omega, by rw [HL1.out]; omega⟩, ⟨by rw [HZL.out]; omega, by rw [HZL.out]; omega⟩, by omega, by
                      rw [HQ.out]; intro hq0; have hnm := HNM.out hq0; rw [HL1.out]; omega, K10.out⟩
                · clear p0 p2
                  have ov := K10.out.ok
                  have hle := K10.out.le
                  go_wp2_with (at_builtin; refine wpAppInt rfl _ _ rfl rfl ov (by rw [HL1.out]; omega) (by omega) rfl ?_)
                  intro v11 w11 o11 g11 k11
                  have K11 := Lib.hid (K10.out.app1 o11 g11 k11)
                  clear o11 g11 k11 ov hle K10
                  go_wp2
                  refine bodyPost_ret (v := .tuple #[.int .i64 g, v11, .int .i64 d, .slice (some ⟨SB, 0, none⟩) j SC]) ?_ rfl ?_
                  · simp [results, Tryd.results73, go_sem]
                  · exact ⟨g, _, (ks ++ [1]), d, _, zs, kz + 1 + 1, rfl, ⟨hg0, hg1⟩, ⟨by omega, by omega⟩, ⟨by have := HL1.out; have h8 : (ks ++ [(1 : Int)]).length = ks.length + 1 := List.length_append; omega, by have := HL1.out; have h8 : (ks ++ [(1 : Int)]).length = ks.length + 1 := List.length_append; omega⟩, ⟨by rw [HZL.out]; omega, by rw [HZL.out]; omega⟩, by omega, by
                      rw [HQ.out]; intro hq0; have hnm := HNM.out hq0; have := HL1.out; have h8 : (ks ++ [(1 : Int)]).length = ks.length + 1 := List.length_append; omega, K11.out⟩
                · clear p0 p2
                  obtain ⟨⟨f0, c0⟩, o11, g11⟩ := K10.out.ok.set HL1.out (show 0 < j by omega) 0
                  have K11 := Lib.hid (K10.out.app1 o11 g11 (.inl rfl))
                  have hj9 : (0 : Int) < (j : Int) := by omega
                  clear o11 g11 K10
                  go_wp2
                  refine bodyPost_ret (v := .tuple #[.int .i64 g, .slice (some ⟨KB, 0, none⟩) j KC, .int .i64 d, .slice (some ⟨SB, 0, none⟩) j SC]) ?_ rfl ?_
                  · simp [results, Tryd.results73, go_sem]
                  · exact ⟨g, _, (ks.set 0 0), d, _, zs, kz + 1 + 1, rfl, ⟨hg0, hg1⟩, ⟨by omega, by omega⟩, ⟨by rw [List.length_set, HL1.out]; omega, by rw [List.length_set, HL1.out]; omega⟩, ⟨by rw [HZL.out]; omega, by rw [HZL.out]; omega⟩, by omega, by
                      rw [HQ.out]; intro hq0; have hnm := HNM.out hq0; rw [List.length_set, HL1.out]; omega, K11.out⟩
end Go.Proofs.YtacalanlepjljaaDoor
