/- The law FnTalksBy, walked. -/
import Derived.Test.YtljekapbcphdaabDoorTbI
import Derived.Test.YtljekapbcphdaabDoorBTbS
import Derived.Test.YtljekapbcphdaabDoorLawR
namespace Go.Proofs.YtljekapbcphdaabDoor
open Go.RowKit

theorem lit2 (w : World) (a b : Int) : Own (w.alloc (.cells #[.int .i64 a, .int .i64 b] 3)) w.heap.size (.slice (some ⟨w.heap.size, 0, none⟩) 2 2) [a, b] := World.ownsRow_lit (base := w.heap.size) (e := 3) (size := 1) w #[.int .i64 a, .int .i64 b] 2 (Nat.le_refl _) (by decide) rfl
theorem lit1 (w : World) (a : Int) : Own (w.alloc (.cells #[.int .i64 a] 3)) w.heap.size (.slice (some ⟨w.heap.size, 0, none⟩) 1 1) [a] := World.ownsRow_lit (base := w.heap.size) (e := 3) (size := 1) w #[.int .i64 a] 1 (Nat.le_refl _) (by decide) rfl
theorem fin3 {v : Int} (h0 : 0 ≤ v) (h1 : v < 3) : ∃ a : Fin 3, v = ((a.val : Nat) : Int) := ⟨⟨v.toNat, by omega⟩, by show v = ((v.toNat : Nat) : Int); omega⟩
theorem own_dr {w w' : World} {R B : Nat} {v : Value} {xs : List Int} (h : Own w B v xs) (hR : R < B) (hg : w.grownBy w' (some R)) : Own w' B v xs :=
  own_heap h fun b hb => hg.block b (h.lt b hb).2 fun e => by cases e; have := (h.lt _ hb).1; omega
theorem ints_head {w : World} {B X c : Nat} {a b : Int} (h : Own w B (.slice (some ⟨X, 0, none⟩) 2 c) [a, b]) : Ints w (.slice (some ⟨X, 0, none⟩) 1 c) [a] := by
  refine .inr ⟨X, c, rfl, by unfold maxLen; simp, (h.lt X rfl).2, fun j hj => ?_⟩
  have : j = 0 := by simpa using hj
  subst this
  exact ((Ints.of_own h (by unfold maxLen; simp)).opened.elim fun a' h' => h'.elim fun c' h'' => by
    obtain ⟨e, k⟩ := h''
    injection e with e _ _
    obtain ⟨g, e1, _, e3⟩ := k.get 0 (by simp)
    rw [← e] at e1
    cases e1
    exact e3)
def TbPost (w : World) (e : Ending) (w' : World) : Prop :=
  ∃ (kv : Value) (keys : List Int) (need : Int) (sv : Value) (secrets : List Int) (ask : Int), e = .returned (.tuple #[kv, .int .i64 need, sv, .int .i64 ask]) ∧ TbD keys need secrets ∧ Ints w' kv keys ∧ Ints w' sv secrets ∧ Below w.heap.size w w'

set_option maxHeartbeats 1600000 in
theorem drawTalksBy_any (c : Value) (w : World) (h : CodeIn w c) : Calls Tryd.prog 44 #[c] w (TbPost w) := by
  have H := Lib.hid h; clear h
  go_enter Tryd.func44, Tryd.ntmps44
  go_wp2_with fail
  refine (open_any _ _ H.out).mono ?_
  rintro e w0 ⟨rfl, H1, hb1⟩
  have R0 := Lib.hid H1
  have B0 := Lib.hid hb1
  have hs0 := hb1.size
  have G0 := Lib.hid (grown_refl w0 w.heap.size)
  clear hb1 H1
  go_wp2_with fail
  refine (pick_any _ _ _ _ R0.out (by omega)).mono ?_
  rintro e w1 ⟨av, rfl, a0, a1, m, hw⟩
  have a1 := a1 (by omega)
  have R1 : Hid (Rd w1 w.heap.size _) := Lib.hid (by rw [hw]; exact R0.out.next m)
  have G1 : Hid (w0.grownBy w1 (some w.heap.size)) := Lib.hid (by rw [hw]; exact grown_trans G0.out (grown_pick _ _ _ m))
  clear hw
  obtain ⟨a, rfl⟩ := fin3 a0 a1
  go_wp2_with fail
  refine (pick_any _ _ _ _ R1.out (by omega)).mono ?_
  rintro e w2 ⟨bv, rfl, b0, b1, m, hw⟩
  have b1 := b1 (by omega)
  have R2 : Hid (Rd w2 w.heap.size _) := Lib.hid (by rw [hw]; exact R1.out.next m)
  have G2 : Hid (w0.grownBy w2 (some w.heap.size)) := Lib.hid (by rw [hw]; exact grown_trans G1.out (grown_pick _ _ _ m))
  clear hw
  obtain ⟨b, rfl⟩ := fin3 b0 b1
  clear a0 a1 b0 b1
  go_wp2_with fail
  refine (skey_any _ _ _).mono ?_
  rintro e w3 ⟨rfl, hb⟩
  have R3 := Lib.hid (R2.out.below hb)
  have G3 := Lib.hid (grown_trans G2.out (grown_below w.heap.size hb))
  clear hb
  go_wp2_with fail
  refine (skey_any _ _ _).mono ?_
  rintro e w4 ⟨rfl, hb⟩
  have R4 := Lib.hid (R3.out.below hb)
  have G4 := Lib.hid (grown_trans G3.out (grown_below w.heap.size hb))
  clear hb
  have O4 := Lib.hid (lit2 w4 (keyOf 0 (a.val : Nat)) (keyOf 0 (b.val : Nat)))
  have hbg := below_grow w4 (.cells #[.int .i64 (keyOf 0 (a.val : Nat)), .int .i64 (keyOf 0 (b.val : Nat))] 3)
  have R4b := Lib.hid (R4.out.below hbg)
  have G4b := Lib.hid (grown_trans G4.out (grown_below w.heap.size hbg))
  have hRl : w.heap.size < w4.heap.size := R4.out.lt
  clear hbg
  go_wp2_with fail
  refine (drawexp_any _ _ _ _ _ R4b.out (by omega) (by omega) (by omega)).mono ?_
  rintro e w5 ⟨ask, rfl, l5, u5, hg, k5, hk5, hr⟩
  have R5 := Lib.hid hr
  have G5 := Lib.hid (grown_trans G4b.out hg)
  have O5 := Lib.hid (own_dr O4.out hRl hg)
  clear hg hr O4
  go_wp2_with fail
  refine (pick_any _ _ _ _ R5.out (by omega)).mono ?_
  rintro e w6 ⟨v, rfl, v0, v1, m, hw⟩
  have v2 := v1 (by omega)
  have G6 : Hid (w0.grownBy w6 (some w.heap.size)) := Lib.hid (by rw [hw]; exact grown_trans G5.out (grown_pick _ _ _ m))
  have O6 : Hid (Own w6 w4.heap.size (.slice (some ⟨w4.heap.size, 0, none⟩) 2 2) [keyOf 0 (a.val : Nat), keyOf 0 (b.val : Nat)]) := Lib.hid (own_dr O5.out hRl (by rw [hw]; exact grown_pick _ _ _ m))
  have B6 := Lib.hid (below_of_grown B0.out G6.out hs0 (Nat.le_refl _))
  clear hw v1 O5 G5 R5
  obtain rfl | rfl | rfl | rfl : v = 0 ∨ v = 1 ∨ v = 2 ∨ v = 3 := by omega
  · clear v0 v2
    have I1 : Hid (Ints (w6.alloc (.cells #[.int .i64 ((a.val : Nat) : Int), .int .i64 (-1)] 3)) (.slice (some ⟨w4.heap.size, 0, none⟩) 2 2) [keyOf 0 (a.val : Nat), keyOf 0 (b.val : Nat)]) := Lib.hid (Ints.of_own (own_below O6.out (below_grow _ _)) (by unfold maxLen; simp))
    have I2 := Lib.hid (Ints.of_own (lit2 w6 (((a.val : Nat) : Int)) ((-1))) (by unfold maxLen; simp))
    have BF : Hid (Below w.heap.size w (w6.alloc (.cells #[.int .i64 ((a.val : Nat) : Int), .int .i64 (-1)] 3))) := Lib.hid (Below.on B6.out (below_grow _ _))
    go_wp2
    refine bodyPost_ret (v := .tuple #[.slice (some ⟨w4.heap.size, 0, none⟩) 2 2, .int .i64 1, .slice (some ⟨w6.heap.size, 0, none⟩) 2 2, .int .i64 ask]) ?_ rfl ?_
    · simp [results, Tryd.results44, go_sem]
    · exact ⟨_, _, _, _, _, _, rfl, TbD.fst a b, I1.out, I2.out, BF.out⟩
  · clear v0 v2
    have I1 : Hid (Ints (w6.alloc (.cells #[.int .i64 (-1), .int .i64 ((b.val : Nat) : Int)] 3)) (.slice (some ⟨w4.heap.size, 0, none⟩) 2 2) [keyOf 0 (a.val : Nat), keyOf 0 (b.val : Nat)]) := Lib.hid (Ints.of_own (own_below O6.out (below_grow _ _)) (by unfold maxLen; simp))
    have I2 := Lib.hid (Ints.of_own (lit2 w6 ((-1)) (((b.val : Nat) : Int))) (by unfold maxLen; simp))
    have BF : Hid (Below w.heap.size w (w6.alloc (.cells #[.int .i64 (-1), .int .i64 ((b.val : Nat) : Int)] 3))) := Lib.hid (Below.on B6.out (below_grow _ _))
    go_wp2
    refine bodyPost_ret (v := .tuple #[.slice (some ⟨w4.heap.size, 0, none⟩) 2 2, .int .i64 1, .slice (some ⟨w6.heap.size, 0, none⟩) 2 2, .int .i64 ask]) ?_ rfl ?_
    · simp [results, Tryd.results44, go_sem]
    · exact ⟨_, _, _, _, _, _, rfl, TbD.snd a b, I1.out, I2.out, BF.out⟩
  · clear v0 v2
    have I1 : Hid (Ints (w6.alloc (.cells #[.int .i64 ((a.val : Nat) : Int), .int .i64 ((b.val : Nat) : Int)] 3)) (.slice (some ⟨w4.heap.size, 0, none⟩) 2 2) [keyOf 0 (a.val : Nat), keyOf 0 (b.val : Nat)]) := Lib.hid (Ints.of_own (own_below O6.out (below_grow _ _)) (by unfold maxLen; simp))
    have I2 := Lib.hid (Ints.of_own (lit2 w6 (((a.val : Nat) : Int)) (((b.val : Nat) : Int))) (by unfold maxLen; simp))
    have BF : Hid (Below w.heap.size w (w6.alloc (.cells #[.int .i64 ((a.val : Nat) : Int), .int .i64 ((b.val : Nat) : Int)] 3))) := Lib.hid (Below.on B6.out (below_grow _ _))
    go_wp2
    refine bodyPost_ret (v := .tuple #[.slice (some ⟨w4.heap.size, 0, none⟩) 2 2, .int .i64 2, .slice (some ⟨w6.heap.size, 0, none⟩) 2 2, .int .i64 ask]) ?_ rfl ?_
    · simp [results, Tryd.results44, go_sem]
    · exact ⟨_, _, _, _, _, _, rfl, TbD.all a b, I1.out, I2.out, BF.out⟩
  · clear v0 v2
    have I1 : Hid (Ints (w6.alloc (.cells #[.int .i64 ((a.val : Nat) : Int)] 3)) (.slice (some ⟨w4.heap.size, 0, none⟩) 1 2) [keyOf 0 (a.val : Nat)]) := Lib.hid ((ints_head O6.out).below (below_grow _ _))
    have I2 := Lib.hid (Ints.of_own (lit1 w6 (((a.val : Nat) : Int))) (by unfold maxLen; simp))
    have BF : Hid (Below w.heap.size w (w6.alloc (.cells #[.int .i64 ((a.val : Nat) : Int)] 3))) := Lib.hid (Below.on B6.out (below_grow _ _))
    go_wp2
    refine bodyPost_ret (v := .tuple #[.slice (some ⟨w4.heap.size, 0, none⟩) 1 2, .int .i64 1, .slice (some ⟨w6.heap.size, 0, none⟩) 1 1, .int .i64 ask]) ?_ rfl ?_
    · simp [results, Tryd.results44, go_sem]
    · exact ⟨_, _, _, _, _, _, rfl, TbD.one a, I1.out, I2.out, BF.out⟩

theorem ascend_any (v : Value) (xs : List Int) (w : World) (h : Ints w v xs) (hp : ∀ i, i + 1 < xs.length → nth xs i < nth xs (i + 1)) (h0 : 0 < xs.length) : Calls Tryd.prog 46 #[v] w fun e w' => e = .returned (.bool true) ∧ Below w.heap.size w w' := by
  obtain ⟨a, c, rfl, k1⟩ := h.opened
  obtain ⟨n, hn⟩ : ∃ n, xs.length = n := ⟨_, rfl⟩
  obtain ⟨g, rfl, _, _⟩ := k1.get 0 h0
  have hm := k1.max
  have HC := Lib.hid (show ∀ k, k < n → ∀ w', Below w.heap.size w w' → w'.cell? ⟨g, k, none⟩ = some (.int .i64 (nth xs k)) from fun k hk w' hb => by
    obtain ⟨g', e1, e2, e3⟩ := k1.get k (by rw [hn]; exact hk)
    cases e1
    exact (hb.cell (p := ⟨g, k, none⟩) e2).trans e3)
  have HP := Lib.hid (show ∀ i, i + 1 < n → nth xs i < nth xs (i + 1) from fun i hi => hp i (by rw [hn]; exact hi))
  rw [hn] at hm h0 ⊢
  unfold maxLen at hm
  clear h k1 hp hn
  go_enter Tryd.func46, Tryd.ntmps46
  go_wp2
  go_loopw [3] (fun x wr => ∃ i : Nat, i < n ∧ x = .int .i64 ((i + 1 : Nat) : Int) ∧ Hid (Below w.heap.size w wr)) (fun x _ => n + 1 - (intOf x).toNat)
  case atStart => exact ⟨0, by omega, rfl, Lib.hid (Below.refl _ _)⟩
  case round =>
    obtain ⟨i, hi, rfl, hB⟩ := hrel
    obtain ⟨wo, rfl⟩ : ∃ wo : World, wo = wr := ⟨_, rfl⟩
    by_cases hlt : i + 1 < n
    · have hlt1 : ((i + 1 : Nat) : Int) < (n : Int) := by omega
      obtain ⟨x, hx⟩ : ∃ x, nth xs i = x := ⟨_, rfl⟩
      obtain ⟨y, hy⟩ : ∃ y, nth xs (i + 1) = y := ⟨_, rfl⟩
      have hxy : ¬ y ≤ x := by rw [← hx, ← hy]; have := HP.out i hlt; omega
      have HX := Lib.hid (show ∀ w', Below w.heap.size w w' → w'.cell? ⟨g, i, none⟩ = some (.int .i64 x) ∧ w'.cell? ⟨g, i + 1, none⟩ = some (.int .i64 y) from fun w' hb => by rw [← hx, ← hy]; exact ⟨HC.out i (by omega) w' hb, HC.out (i + 1) hlt w' hb⟩)
      have HD : Hid (Below w.heap.size w wo.drew) := Lib.hid hB.out.drew
      clear hx hy
      go_wp2_with fail
      refine wp_region_class (C := fun w' => Hid (Below w.heap.size w w')) (by kernel_rfl) (by kernel_rfl) HD ?_
      repeat (first | go_big_quiet_skip | (go_big_quiet_want; go_big_quiet_op; first | go_big_quiet_on | (refine ⟨_, fun _ _ => rfl, ?_⟩; go_big_quiet_on)))
      go_big_quiet_want
      go_big_quiet_op
      refine ⟨.int .i64 x, fun w' hw' => ?_, ?_⟩
      · have q := (HX.out _ hw'.out).1
        simp [go_sem, q]
      go_big_quiet_on
      repeat (first | go_big_quiet_skip | (go_big_quiet_want; go_big_quiet_op; first | go_big_quiet_on | (refine ⟨_, fun _ _ => rfl, ?_⟩; go_big_quiet_on)))
      go_big_quiet_want
      go_big_quiet_op
      refine ⟨.int .i64 y, fun w' hw' => ?_, ?_⟩
      · have q := (HX.out _ hw'.out).2
        simp [go_sem, q]
      go_big_quiet_on
      repeat (first | go_big_quiet_skip | (go_big_quiet_want; go_big_quiet_op; first | go_big_quiet_on | (refine ⟨_, fun _ _ => rfl, ?_⟩; go_big_quiet_on)))
      refine wpQuiet_nil ?_
      intro w2 M2
      clear HD hB
      go_wp2
      go_roundw
      case rel => exact ⟨i + 1, hlt, by go_num, M2⟩
      case measure => simp [intOf]; omega
    · go_wp2
      go_ret
      exact ⟨rfl, hB.out⟩

set_option maxHeartbeats 800000 in
set_option maxRecDepth 20000 in
theorem lTalksBy_walk (c : Value) (w : World) (h : CodeIn w c) (G : Gr w) : Calls Tryd.prog 12 #[c] w fun e w' => e = .returned (.bool true) ∧ Below w.heap.size w w' := by
  obtain ⟨a0, len0, cap0, rfl⟩ := h.slice
  have H := Lib.hid h; clear h
  have G0 := Lib.hid G; clear G
  by_cases hl : 1048576 < len0
  · go_enter Tryd.func12, Tryd.ntmps12
    go_wp2
    go_ret
    exact ⟨rfl, Below.refl _ _⟩
  go_enter Tryd.func12, Tryd.ntmps12
  go_wp2_with fail
  refine (drawTalksBy_any _ _ H.out).mono ?_
  rintro e w1 ⟨kv, keys, need, sv, secrets, ask, rfl, hd, ik, is, hb⟩
  have B1 := Lib.hid hb
  have G1 := Lib.hid (G0.out.on hb)
  have K1 := Lib.hid ik
  have S1 := Lib.hid is
  obtain ⟨ka, kc, hkv, hka⟩ := ik.opened
  obtain ⟨sa, sc, hsv, hsa⟩ := is.opened
  obtain ⟨nk, hnk⟩ : ∃ nk, keys.length = nk := ⟨_, rfl⟩
  obtain ⟨ns, hns⟩ : ∃ ns, secrets.length = ns := ⟨_, rfl⟩
  rw [hnk] at hkv
  rw [hns] at hsv
  subst hkv hsv
  have HNK := Lib.hid hnk
  obtain ⟨R, hR⟩ : ∃ R, tby keys need secrets ask = R := ⟨_, rfl⟩
  have HSP := Lib.hid (fun (kv sv : Value) (w' : World) (h1 : Ints w' kv keys) (h2 : Ints w' sv secrets) => stby_any kv sv keys secrets need ask w' h1 h2)
  have HIM := Lib.hid (fun (kv sv : Value) (w' : World) (G' : Gr w') (h1 : Ints w' kv keys) (h2 : Ints w' sv secrets) => itby_any kv sv keys secrets need ask w' G' h1 h2)
  have HL : Hid (R.length ≤ 81) := Lib.hid (by rw [← hR]; exact tby_le _ _ _ _)
  have HF : Hid (R ≠ [] → TbF keys need ask R) := Lib.hid (by rw [← hR]; exact tb_law hd)
  have MR : Hid (R.length ≤ maxLen) := Lib.hid (by have := HL.out; unfold maxLen; omega)
  rw [hR] at HSP HIM
  obtain ⟨n, hn⟩ : ∃ n, R.length = n := ⟨_, rfl⟩
  have HN := Lib.hid hn
  clear hR hd hka hsa hnk hns ik is hb hn
  go_wp2_with fail
  refine (HIM.out _ _ _ G1.out K1.out S1.out).mono ?_
  rintro e w2 ⟨u, rfl, o, hb⟩
  have B2 := Lib.hid (Below.on B1.out hb)
  have G2 := Lib.hid (G1.out.on hb)
  have K2 := Lib.hid (K1.out.below hb)
  have S2 := Lib.hid (S1.out.below hb)
  have U2 := Lib.hid (Ints.of_own o MR.out)
  obtain ⟨ua, uc, hu⟩ := o.form
  rw [HN.out] at hu
  subst hu
  clear o hb
  go_wp2_with fail
  refine (HSP.out _ _ _ K2.out S2.out).mono ?_
  rintro e w3 ⟨v, rfl, o, hb⟩
  have B3 := Lib.hid (Below.on B2.out hb)
  have G3 := Lib.hid (G2.out.on hb)
  have K3 := Lib.hid (K2.out.below hb)
  have U3 := Lib.hid (U2.out.below hb)
  have V3 := Lib.hid (Ints.of_own o MR.out)
  clear o hb
  go_wp2_with fail
  refine (same_eq _ _ R _ U3.out V3.out).mono ?_
  rintro e w4 ⟨rfl, hb⟩
  have B4 := Lib.hid (Below.on B3.out hb)
  have G4 := Lib.hid (G3.out.on hb)
  have K4 := Lib.hid (K3.out.below hb)
  have U4 := Lib.hid (U3.out.below hb)
  clear hb K1 K2 K3 U2 U3 V3 S1 S2
  by_cases hz : n = 0
  · subst hz
    go_wp2_with fail
    refine (alive_any _ G4.out).mono ?_
    rintro e wz ⟨rfl, rfl⟩
    go_wp2
    go_ret
    exact ⟨rfl, B4.out⟩
  · have hF := HF.out (fun e => hz (by rw [← HN.out, e]; rfl))
    have hsm : smyM 0 keys need ask = (n : Int) := by rw [← HN.out]; exact hF.len.symm
    have HSM := Lib.hid hsm
    have HFF := Lib.hid hF
    have nz : ((n : Int) == 0) = false := by simp; omega
    have hnp : 0 < n := by omega
    clear hz
    have nn : ((n : Int) != (n : Int)) = false := by simp
    clear hF hsm
    go_wp2_with fail
    refine (ismy_any 0 need ask _ keys _ G4.out K4.out).mono ?_
    rintro e w5 ⟨rfl, hb⟩
    rw [HSM.out]
    have B5 := Lib.hid (Below.on B4.out hb)
    have G5 := Lib.hid (G4.out.on hb)
    have K5 := Lib.hid (K4.out.below hb)
    have U5 := Lib.hid (U4.out.below hb)
    clear hb K4 U4
    go_wp2_with fail
    refine (ascend_any _ R _ U5.out HFF.out.asc (by rw [HN.out]; exact hnp)).mono ?_
    rintro e w6 ⟨rfl, hb⟩
    have B6 := Lib.hid (Below.on B5.out hb)
    have G6 := Lib.hid (G5.out.on hb)
    have K6 := Lib.hid (K5.out.below hb)
    have U6 := Lib.hid (U5.out.below hb)
    clear hb K5 U5
    by_cases h2 : nk = 2
    rotate_left
    · have e2 : ((nk : Int) != 2) = true := by simp; omega
      clear h2
      go_wp2
      go_ret
      exact ⟨rfl, B6.out⟩
    · subst h2
      have e2 : (((2 : Nat) : Int) != 2) = false := by simp
      by_cases h1 : need = 1
      rotate_left
      · have e1 : (need != 1) = true := by simpa using h1
        clear h1
        go_wp2
        go_ret
        exact ⟨rfl, B6.out⟩
      · obtain ⟨Ka, Kb, a, b, hk, la, lb, t1, t2⟩ := HFF.out.two HNK.out h1
        subst h1
        subst hk
        have HA := Lib.hid la
        have HB := Lib.hid lb
        have HT1 := Lib.hid (fun (kv sv : Value) (w' : World) (G' : Gr w') (h1 : Ints w' kv [Ka, Kb]) (h2 : Ints w' sv [a, -1]) => itby_any kv sv [Ka, Kb] [a, -1] 1 ask w' G' h1 h2)
        have HT2 := Lib.hid (fun (kv sv : Value) (w' : World) (G' : Gr w') (h1 : Ints w' kv [Ka, Kb]) (h2 : Ints w' sv [-1, b]) => itby_any kv sv [Ka, Kb] [-1, b] 1 ask w' G' h1 h2)
        rw [t1] at HT1
        rw [t2] at HT2
        obtain ⟨ka', kc', ek, kk⟩ := K6.out.opened
        obtain ⟨X, e3, ex1, ex2⟩ := kk.get 0 (by simp)
        clear ex1 ex2
        injection ek with ek el ec
        rw [← ek] at e3 kk
        subst e3
        clear el ec
        have HKC := Lib.hid (show ∀ w', Below w6.heap.size w6 w' → w'.cell? ⟨X, 0, none⟩ = some (.int .i64 Ka) ∧ w'.cell? ⟨X, 1, none⟩ = some (.int .i64 Kb) from fun w' hb => by
          obtain ⟨X1, f1, f2, f3⟩ := kk.get 0 (by simp)
          obtain ⟨X2, g1, g2, g3⟩ := kk.get 1 (by simp)
          cases f1; cases g1
          exact ⟨(hb.cell (p := ⟨X, 0, none⟩) f2).trans f3, (hb.cell (p := ⟨X, 1, none⟩) g2).trans g3⟩)
        clear la lb t1 t2 ek kk HFF HF HSP HIM HSM
        obtain ⟨q0, q1⟩ := HKC.out _ (Below.refl _ _)
        have e1 : ((1 : Int) != 1) = false := by simp
        go_wp2_with fail
        refine (ilog_any 0 2 Ka _ G6.out).mono ?_
        rintro e w7 ⟨rfl, m, hw⟩
        rw [HA.out]
        have b7 := below_of_drew hw
        have B7 := Lib.hid (Below.on B6.out b7)
        have G7 := Lib.hid (G6.out.on b7)
        have K7 := Lib.hid (K6.out.below b7)
        have U7 := Lib.hid (U6.out.below b7)
        clear q0 q1
        obtain ⟨q0, q1⟩ := HKC.out _ b7
        clear hw b7 K6 U6
        go_wp2_with fail
        refine (ilog_any 0 2 Kb _ G7.out).mono ?_
        rintro e w8 ⟨rfl, m, hw⟩
        rw [HB.out]
        have b8 := below_of_drew hw
        have B8 := Lib.hid (Below.on B7.out b8)
        have G8 := Lib.hid (G7.out.on b8)
        have K8 := Lib.hid (K7.out.below b8)
        have U8 := Lib.hid (U7.out.below b8)
        clear hw b8 K7 U7 q0 q1
        have I8 := Lib.hid (Ints.of_own (lit2 w8 a (-1)) (by unfold maxLen; simp))
        go_wp2_with fail
        refine (HT1.out _ _ _ (G8.out.on (below_grow _ _)) (K8.out.below (below_grow _ _)) I8.out).mono ?_
        rintro e w9 ⟨x, rfl, o, hb'⟩
        have hb := Below.on (below_grow w8 (.cells #[.int .i64 a, .int .i64 (-1)] 3)) hb'
        have B9 := Lib.hid (Below.on B8.out hb)
        have G9 := Lib.hid (G8.out.on hb)
        have K9 := Lib.hid (K8.out.below hb)
        have U9 := Lib.hid (U8.out.below hb)
        have X9 := Lib.hid (Ints.of_own o MR.out)
        clear o hb hb' K8 U8 I8
        go_wp2_with fail
        refine (same_eq _ _ R _ X9.out U9.out).mono ?_
        rintro e w10 ⟨rfl, hb⟩
        have B10 := Lib.hid (Below.on B9.out hb)
        have G10 := Lib.hid (G9.out.on hb)
        have K10 := Lib.hid (K9.out.below hb)
        have U10 := Lib.hid (U9.out.below hb)
        clear hb K9 U9 X9
        have I10 := Lib.hid (Ints.of_own (lit2 w10 (-1) b) (by unfold maxLen; simp))
        go_wp2_with fail
        refine (HT2.out _ _ _ (G10.out.on (below_grow _ _)) (K10.out.below (below_grow _ _)) I10.out).mono ?_
        rintro e w11 ⟨y, rfl, o, hb'⟩
        have hb := Below.on (below_grow w10 (.cells #[.int .i64 (-1), .int .i64 b] 3)) hb'
        have B11 := Lib.hid (Below.on B10.out hb)
        have U11 := Lib.hid (U10.out.below hb)
        have Y11 := Lib.hid (Ints.of_own o MR.out)
        clear o hb hb' K10 U10 I10
        go_wp2_with fail
        refine (same_eq _ _ R _ Y11.out U11.out).mono ?_
        rintro e w12 ⟨rfl, hb⟩
        have B12 := Lib.hid (Below.on B11.out hb)
        clear hb
        go_wp2
        go_ret
        exact ⟨rfl, B12.out⟩
end Go.Proofs.YtljekapbcphdaabDoor
