/- l20Parts: two exponents for each element; DrawSomeOf. -/
import Derived.Test.YtacalanlepjljaaDoorDrawKy
import Derived.Deep.Cut
namespace Go.Proofs.YtacalanlepjljaaDoor
open Go.RowKit

def PartsPost (R k n : Nat) (w : World) (e : Ending) (w' : World) : Prop :=
  ∃ (fv : Value) (first : List Int) (gv : Value) (second : List Int) (k' : Nat), e = .returned (.tuple #[fv, gv]) ∧ first.length = n ∧ second.length = n ∧ k' ≤ k + 4 * n ∧ Ky w R w' k' fv gv first second
theorem Ky.side {w2 w4 w5 : World} {R k : Nat} {fv gv u : Value} {fs gs : List Int} (h : Ky w2 R w4 k fv gv fs gs) (hg : w4.grownBy w5 u.ownBlock) (hlo : ∀ b, u.ownBlock = some b → b < w2.heap.size) : Own w5 w2.heap.size fv fs ∧ Own w5 w2.heap.size gv gs :=
  ⟨own_heap h.ok fun b hb => hg.block b (h.ok.lt b hb).2 fun e => by have := hlo b e.symm; have := (h.ok.lt b hb).1; omega, own_heap h.os fun b hb => hg.block b (h.os.lt b hb).2 fun e => by have := hlo b e.symm; have := (h.os.lt b hb).1; omega⟩

set_option maxRecDepth 20000 in
set_option maxHeartbeats 3200000 in
theorem drawparts_any (R k : Nat) (g : Int) (sv : Value) (secrets : List Int) (B : Nat) (w : World) (h : Rd w R k) (hk : k ≤ 10000) (ho : Own w B sv secrets) (hR : R < B) (h1 : 1 ≤ secrets.length) (h4 : secrets.length ≤ 4) :
    Calls Tryd.prog 74 #[.pointer (some ⟨R, 0, none⟩), .int .i64 g, sv] w (PartsPost R k secrets.length w) := by
  obtain ⟨SB, SC, rfl⟩ := own_slice' ho (by omega)
  obtain ⟨n, hn⟩ : ∃ n, secrets.length = n := ⟨_, rfl⟩
  have HRL := Lib.hid h.lt
  have H := Lib.hid h
  have HSC := Lib.hid (show ∀ w', w.grownBy w' (some R) → ∀ q, q < n → w'.cell? ⟨SB, q, none⟩ = some (.int .i64 (nth secrets q)) from fun w' hg q hq => ((own_draw ho hR hg).set rfl (by omega) 0).1.2)
  rw [hn] at h4 h1
  rw [hn]
  clear h ho hR hn
  go_enter Tryd.func74, Tryd.ntmps74
  have K4 := Lib.hid (show Ky w R ((w.alloc (.cells #[] 3)).alloc (.cells #[] 3)) k (.slice (some ⟨w.heap.size, 0, none⟩) 0 0) (.slice (some ⟨w.heap.size + 1, 0, none⟩) 0 0) [] [] from
    ⟨(H.out.below (below_grow _ _)).below (below_grow _ _), grown_below R (Below.on (below_grow _ _) (below_grow _ _)), own_mono (own_below (own_made w 3 rfl) (below_grow _ _)) (Nat.le_refl _),
     own_mono (B := w.heap.size + 1) (by have := own_made (w.alloc (.cells #[] 3)) 3 rfl; simpa using this) (by omega), fun b e1 e2 => by simp [Value.ownBlock] at e1 e2; omega, HRL.out⟩)
  clear H
  go_wp2
  go_loopw [8, 9, 10] (fun fv gv i wr => ∃ (j : Nat) (fs gs : List Int) (kk : Nat), j ≤ n ∧ i = .int .i64 j ∧ fs.length = j ∧ gs.length = j ∧ kk ≤ k + 4 * j ∧ Hid (Ky w R wr kk fv gv fs gs)) (fun _ _ i _ => n - (intOf i).toNat)
  case atStart => exact ⟨0, [], [], k, by omega, rfl, rfl, rfl, by omega, K4⟩
  case round =>
    obtain ⟨j, fs, gs, kk, hj, rfl, hl1, hl2, hkk, hK⟩ := hrel
    obtain ⟨wo, rfl⟩ : ∃ wo : World, wo = wr := ⟨_, rfl⟩
    have HL1 := Lib.hid hl1
    have HL2 := Lib.hid hl2
    clear hl1 hl2 K4
    by_cases hjn : j < n
    · have hj1 : (j : Int) < (n : Int) := by omega
      go_wp2_with fail
      refine (drawexp_any R kk g 60 _ hK.out.rd (by omega) (by omega) (by omega)).mono ?_
      rintro e w5 ⟨s5, rfl, a5, b5, g5, k5, hk5, r5⟩
      have K5 := Lib.hid (hK.out.draw g5 r5)
      clear g5 r5
      have ov := K5.out.ok
      have hle := K5.out.le
      clear hK
      go_upto_region 7 with (at_builtin; refine wpAppInt rfl _ _ rfl rfl ov (by rw [HL1.out]; omega) (by omega) rfl ?_)
      intro v7 w7 o7 g7 k7
      have K7 := Lib.hid (K5.out.app1 o7 g7 k7)
      clear o7 g7 k7 ov K5 hle
      have c7 := HSC.out _ K7.out.gr j hjn
      by_cases hneg : nth secrets j < 0
      · go_wp2_with fail
        refine (drawexp_any R k5 g 60 _ K7.out.rd (by omega) (by omega) (by omega)).mono ?_
        rintro e w8 ⟨s8, rfl, a8, b8, g5, k8, hk8, r5⟩
        have K8 := Lib.hid (K7.out.draw g5 r5)
        clear g5 r5
        clear K7 c7
        have ov := K8.out.os
        have hle := K8.out.le
        go_wp2_with (at_builtin; refine wpAppInt rfl _ _ rfl rfl ov (by rw [HL2.out]; omega) (by omega) rfl ?_)
        intro v9 w9 o9 g9 k9
        have K9 := Lib.hid (K8.out.app2 o9 g9 k9)
        clear o9 g9 k9 ov hle
        go_wp2
        go_roundw
        case rel => exact ⟨j + 1, fs ++ [s5], gs ++ [s8], k8, by omega, by go_num, by rw [List.length_append, HL1.out]; rfl, by rw [List.length_append, HL2.out]; rfl, by omega, K9⟩
        case measure => simp [intOf]; omega
      · have ov := K7.out.os
        have hle := K7.out.le
        go_wp2_with (at_builtin; refine wpAppInt rfl _ _ rfl rfl ov (by rw [HL2.out]; omega) (by omega) rfl ?_)
        intro v9 w9 o9 g9 k9
        have K9 := Lib.hid (K7.out.app2 o9 g9 k9)
        clear o9 g9 k9 ov hle
        go_wp2
        go_roundw
        case rel => exact ⟨j + 1, fs ++ [s5], gs ++ [0], k5, by omega, by go_num, by rw [List.length_append, HL1.out]; rfl, by rw [List.length_append, HL2.out]; rfl, by omega, K9⟩
        case measure => simp [intOf]; omega
    · obtain rfl : j = n := by omega
      have hj1 : ¬ (j : Int) < (j : Int) := by omega
      go_wp2
      refine bodyPost_ret (v := .tuple #[u8, u9]) ?_ rfl ?_
      · simp [results, Tryd.results74, go_sem]
      · exact ⟨_, fs, _, gs, kk, rfl, HL1.out, HL2.out, hkk, hK.out⟩

set_option maxRecDepth 20000 in
set_option maxHeartbeats 3200000 in
theorem drawSomeOf_any (s : Value) (w : World) (h : CodeIn w s) : Calls Tryd.prog 29 #[s] w fun e w' => ∃ (g : Int) (kv : Value) (keys : List Int) (need : Int) (sv : Value) (secrets : List Int) (fv : Value) (first : List Int) (gv : Value) (second : List Int) (ask : Int),
    e = .returned (.tuple #[.int .i64 g, kv, .int .i64 need, sv, fv, gv, .int .i64 ask]) ∧ (1 ≤ need ∧ need ≤ 5) ∧ (1 ≤ keys.length ∧ keys.length ≤ 5) ∧ secrets.length ≤ 4 ∧ first.length ≤ 4 ∧ second.length ≤ 4 ∧ Ints w' kv keys ∧ Ints w' sv secrets ∧ Ints w' fv first ∧ Ints w' gv second ∧ Below w.heap.size w w' := by
  have H := Lib.hid h; clear h
  go_enter Tryd.func29, Tryd.ntmps29
  go_wp2_with fail
  refine (open_any _ _ H.out).mono ?_
  rintro e w1 ⟨rfl, H1, hb1⟩
  have RD := Lib.hid H1
  have B1 := Lib.hid hb1
  clear H1 hb1
  go_wp2_with fail
  refine (drawkeys_any _ _ 20 _ RD.out (by omega) (by omega) (by omega)).mono ?_
  rintro e w2 ⟨g, kv, keys, need, sv, secrets, k2, rfl, hg, hd, hl, hs, hk, _, hK⟩
  have K2 := Lib.hid hK
  clear hK RD
  obtain ⟨ns, hns⟩ : ∃ n, secrets.length = n := ⟨_, rfl⟩
  have HNS := Lib.hid hns
  go_wp2_with fail
  refine (drawparts_any w.heap.size k2 g sv secrets w1.heap.size _ K2.out.rd (by omega) K2.out.os K2.out.rl (by omega) (by omega)).mono ?_
  rintro e w3 ⟨fv, first, gv, second, k3, rfl, hf1, hf2, hk3, hP⟩
  have K3 := Lib.hid (K2.out.draw hP.gr hP.rd)
  have P3 := Lib.hid hP
  have hsz := hP.gr.size
  have HLT := Lib.hid (show (∀ b, kv.ownBlock = some b → b < w2.heap.size) ∧ (∀ b, sv.ownBlock = some b → b < w2.heap.size) from ⟨fun b hb => (K2.out.ok.lt b hb).2, fun b hb => (K2.out.os.lt b hb).2⟩)
  clear hP K2
  obtain ⟨SB, SC, rfl⟩ := own_slice' K3.out.os (by omega)
  rw [hns] at hf1 hf2 hs hk3
  rw [HNS.out] at K3 HLT ⊢
  clear hns
  go_wp2_with fail
  refine (odd_any w.heap.size k3 14 _ K3.out.rd (by omega) (by omega) (by omega)).mono ?_
  rintro e w4 ⟨b, rfl, mm, hw4⟩
  have hgp := grown_pick w3 w.heap.size k3 mm
  have hrn := K3.out.rd.next mm
  rw [← hw4] at hgp hrn
  have K4 := Lib.hid (K3.out.draw hgp hrn)
  have P4 := Lib.hid (P3.out.draw hgp hrn)
  clear hw4 hgp hrn K3 P3
  cases b
  all_goals have HR2 := Lib.hid (show w.heap.size < w2.heap.size from P4.out.rl)
  · go_wp2_with fail
    refine (drawexp_any w.heap.size _ g 20 _ K4.out.rd (by omega) (by omega) (by omega)).mono ?_
    rintro e w9 ⟨ask, rfl, a9, b9, g9, k9, hk9, r9⟩
    have I1 := Lib.hid (Ints.of_own (own_draw K4.out.ok K4.out.rl g9) (by unfold maxLen; omega))
    have I2 := Lib.hid (Ints.of_own (own_draw K4.out.os K4.out.rl g9) (by rw [HNS.out]; unfold maxLen; omega))
    have I3 := Lib.hid (Ints.of_own (own_draw P4.out.ok (by have := HR2.out; omega) g9) (by rw [hf1]; unfold maxLen; omega))
    have I4 := Lib.hid (Ints.of_own (own_draw P4.out.os (by have := HR2.out; omega) g9) (by rw [hf2]; unfold maxLen; omega))
    have HBB := Lib.hid (show Below w.heap.size w w9 from below_of_grown B1.out (grown_trans K4.out.gr g9) B1.out.size (by omega))
    clear g9 r9
    go_wp2
    refine bodyPost_ret (v := .tuple #[.int .i64 g, kv, .int .i64 need, .slice (some ⟨SB, 0, none⟩) ns SC, fv, gv, .int .i64 ask]) ?_ rfl ?_
    · simp [results, Tryd.results29, go_sem]
    · exact ⟨g, _, keys, need, _, secrets, _, first, _, second, ask, rfl, hd, ⟨by omega, by omega⟩, by rw [HNS.out]; omega, by omega, by omega, I1.out, I2.out, I3.out, I4.out, HBB.out⟩
  · have hp9 : decide ((ns : Int) > 0) = true := by simp; omega
    have hp8 : (0 : Int) < (ns : Int) := by omega
    go_wp2_with fail
    refine (drawexp_any w.heap.size _ g 4 _ K4.out.rd (by omega) (by omega) (by omega)).mono ?_
    rintro e w5 ⟨s5, rfl, a5, b5, g5, k5, hk5, r5⟩
    have K5 := Lib.hid (K4.out.draw g5 r5)
    have P5 := Lib.hid (P4.out.draw g5 r5)
    clear g5 r5 K4 P4
    obtain ⟨⟨f0, c0⟩, o6, g6⟩ := K5.out.os.set HNS.out (show 0 < ns by omega) s5
    have K6 := Lib.hid (K5.out.app2 o6 g6 (.inl rfl))
    have P6 := Lib.hid (P5.out.side (u := .slice (some ⟨SB, 0, none⟩) ns SC) g6 HLT.out.2)
    clear o6 g6
    go_wp2_with fail
    refine (drawexp_any w.heap.size _ g 20 _ K6.out.rd (by omega) (by omega) (by omega)).mono ?_
    rintro e w9 ⟨ask, rfl, a9, b9, g9, k9, hk9, r9⟩
    have I1 := Lib.hid (Ints.of_own (own_draw K6.out.ok K6.out.rl g9) (by unfold maxLen; omega))
    have I2 := Lib.hid (Ints.of_own (own_draw K6.out.os K6.out.rl g9) (by rw [List.length_set, HNS.out]; unfold maxLen; omega))
    have I3 := Lib.hid (Ints.of_own (own_draw P6.out.1 (by have := HR2.out; omega) g9) (by rw [hf1]; unfold maxLen; omega))
    have I4 := Lib.hid (Ints.of_own (own_draw P6.out.2 (by have := HR2.out; omega) g9) (by rw [hf2]; unfold maxLen; omega))
    have HBB := Lib.hid (show Below w.heap.size w w9 from below_of_grown B1.out (grown_trans K6.out.gr g9) B1.out.size (by omega))
    clear g9 r9
    go_wp2
    refine bodyPost_ret (v := .tuple #[.int .i64 g, kv, .int .i64 need, .slice (some ⟨SB, 0, none⟩) ns SC, fv, gv, .int .i64 ask]) ?_ rfl ?_
    · simp [results, Tryd.results29, go_sem]
    · exact ⟨g, _, keys, need, _, (secrets.set 0 s5), _, first, _, second, ask, rfl, hd, ⟨by omega, by omega⟩, by rw [List.length_set, HNS.out]; omega, by omega, by omega, I1.out, I2.out, I3.out, I4.out, HBB.out⟩
end Go.Proofs.YtacalanlepjljaaDoor
