/- The law FnFoundOut, walked. -/
import Derived.Test.YtimkmdedoacpfabDoorDrO
import Derived.Test.YtimkmdedoacpfabDoorFouS
import Derived.Test.YtimkmdedoacpfabDoorColM
import Derived.Test.YtimkmdedoacpfabDoorLwOrderOk
import Derived.Deep.Cut
namespace Go.Proofs.YtimkmdedoacpfabDoor
open Go.RowKit

/-- What the law says: P41. -/
structure FtF (p : Int) (es : List Int) (t : Int) (n U V : Nat) : Prop where
  tn : t = (n : Int)
  n5 : n ≤ 5
  e0 : 0 < es.length
  e50 : es.length ≤ 50
  fu : fou p es t = ((U : Int), (V : Int))
  v0 : 0 < V
  u1 : U ≤ 312500000
  v1 : V ≤ 312500000
  one : 0 < (colsB p es).length → U = 1 ∧ V = 1
  less : (colsB p es).length = 0 → U * es.length ^ n ≤ (es.length - 1) ^ n * V
theorem ft_facts {p t : Int} {es : List Int} (h : fouB p es t = true) : ∃ n U V, FtF p es t n U V := by
  have hf := fouB_true.1 h
  have F := fou_facts hf.gk hf.e0 t.toNat
  have ht := hf.t5
  have ht1 := hf.t1
  refine ⟨t.toNat, (fouA p es).1 ^ t.toNat, (fouA p es).2 ^ t.toNat, by omega, by omega, hf.e0, hf.gk.few, fou_yes h, Nat.pow_pos F.b0, pow_few8 F.a50 (by omega), pow_few8 F.b50 (by omega), fun hc => ?_, fun hc => ?_⟩
  · rw [colsB_yes (gkB_true.2 hf.gk)] at hc; exact F.one hc
  · rw [colsB_yes (gkB_true.2 hf.gk)] at hc; exact F.less hc
theorem mul_few {a b : Nat} (ha : a ≤ 312500000) (hb : b ≤ 312500000) : ((a : Int) * (b : Int)) ≤ 97656250000000000 ∧ 0 ≤ (a : Int) * (b : Int) := by
  have := Nat.mul_le_mul ha hb
  rw [← Int.natCast_mul]
  omega

set_option maxRecDepth 100000 in
set_option maxHeartbeats 12800000 in
theorem lFoundOut_walk (s : Value) (w : World) (h : CodeIn w s) (G : Gr w) : Calls Tryd.prog 10 #[s] w fun e w' => e = .returned (.bool true) ∧ Below w.heap.size w w' := by
  obtain ⟨a0, len0, cap0, rfl⟩ := h.slice
  have H := Lib.hid h; clear h
  have G0 := Lib.hid G; clear G
  by_cases hl : 1048576 < len0
  · go_enter Tryd.func10, Tryd.ntmps10
    go_wp2
    go_ret
    exact ⟨rfl, Below.refl _ _⟩
  go_enter Tryd.func10, Tryd.ntmps10
  go_wp2_with fail
  refine (drawFoundOut_any _ _ H.out).mono ?_
  rintro e w1 ⟨p, v, es, t, rfl, p0, p5, hx, t0, t7, hb⟩
  have HX := Lib.hid hx
  clear hx
  have S1 := Lib.hid (Lq.start hb)
  clear hb
  have ip : intIn p := ⟨by omega, by omega⟩
  have IP := Lib.hid ip
  clear ip
  obtain ⟨va, vc, e1⟩ := Own.form_ints HX.out.ints
  subst e1
  obtain ⟨L, hL⟩ : ∃ r, es.length = r := ⟨_, rfl⟩
  have HL := Lib.hid hL
  rw [hL] at HX ⊢
  clear hL
  have S2 := Lib.hid (S1.out.more HX.out)
  clear S1
  clear HX
  obtain ⟨w2, hw2⟩ : ∃ z, z = w1.alloc (.cells #[.int .i64 p, .slice va L vc] 25) := ⟨_, rfl⟩
  have S3 : Hid (Lq w [(.slice va L vc, es)] [(w1.heap.size, [.int .i64 p, .slice va L vc])] [] w2) := Lib.hid (by rw [hw2]; exact S2.out.made [.int .i64 p, .slice va L vc] _)
  clear S2
  have Hw2 := Lib.hid hw2
  clear hw2
  obtain ⟨U0, hU0⟩ : ∃ r, (fou p es t).1 = r := ⟨_, rfl⟩
  obtain ⟨V0, hV0⟩ : ∃ r, (fou p es t).2 = r := ⟨_, rfl⟩
  have HU := Lib.hid hU0
  have HV := Lib.hid hV0
  clear hU0 hV0
  have q3_0 := (S3.out.sx.bx _ (.head _)).cell 0
  have q3_1 := (S3.out.sx.bx _ (.head _)).cell 1
  simp at q3_0 q3_1
  rw [Hw2.out] at q3_0 q3_1
  go_wp2_with fail
  rw [← Hw2.out]
  refine (ifu_any p t _ es _ (S3.out.li _ (.head _)).ints (S3.out.li _ (.head _)).num).mono ?_
  rintro e w3 ⟨rfl, hb⟩
  rw [HU.out, HV.out]
  clear q3_0 q3_1
  have S4 := Lib.hid (S3.out.on hb)
  clear S3
  clear hb
  have q3_0 := (S4.out.sx.bx _ (.head _)).cell 0
  have q3_1 := (S4.out.sx.bx _ (.head _)).cell 1
  simp at q3_0 q3_1
  go_wp2_with fail
  refine (sfu_any p t _ es _ (S4.out.li _ (.head _)).ints IP.out (S4.out.li _ (.head _)).num).mono ?_
  rintro e w4 ⟨rfl, hb⟩
  rw [HU.out, HV.out]
  clear q3_0 q3_1
  have S5 := Lib.hid (S4.out.on hb)
  clear S4
  clear hb
  have d1 : (U0 != U0) = false := by simp
  have d2 : (V0 != V0) = false := by simp
  cases hk : fouB p es t
  · obtain rfl : U0 = -1 := by rw [← HU.out, fou_no hk]
    obtain rfl : V0 = -1 := by rw [← HV.out, fou_no hk]
    clear d1 d2 hk
    go_wp2_with fail
    refine (alive_any _ (G0.out.on S5.out.sx.be)).mono ?_
    rintro e w5 ⟨rfl, rfl⟩
    go_wp2
    go_ret
    exact ⟨rfl, S5.out.sx.be⟩
  · obtain ⟨n, U, V, F⟩ := ft_facts hk
    obtain rfl : U0 = (U : Int) := by rw [← HU.out, F.fu]
    obtain rfl : V0 = (V : Int) := by rw [← HV.out, F.fu]
    obtain rfl := F.tn
    have HF := Lib.hid F
    have hv0 := F.v0
    have hlt : ¬ (V : Int) < 0 := by omega
    clear hk F HU HV
    have q3_0 := (S5.out.sx.bx _ (.head _)).cell 0
    have q3_1 := (S5.out.sx.bx _ (.head _)).cell 1
    simp at q3_0 q3_1
    go_wp2_with fail
    refine (ico_any p _ es _ (S5.out.li _ (.head _)).ints (S5.out.li _ (.head _)).num).mono ?_
    rintro e w6 ⟨v8, us, rfl, oo, hb⟩
    obtain ⟨A4, A4c, ef⟩ := OwnSS.form oo
    obtain ⟨LL, hLL⟩ : ∃ r, (colsB p es).length = r := ⟨_, rfl⟩
    have h1 := HF.out.one
    have h2 := HF.out.less
    rw [hLL] at ef h1 h2
    subst ef
    clear q3_0 q3_1
    have S6 := Lib.hid (S5.out.on hb)
    clear S5
    clear hb oo hLL d1 d2
    by_cases h0 : 0 < LL
    · obtain ⟨rfl, rfl⟩ := h1 h0
      have hl0 : (0 : Int) < (LL : Int) := by omega
      go_wp2
      go_ret
      exact ⟨rfl, S6.out.sx.be⟩
    · have hl0 : ¬ (0 : Int) < (LL : Int) := by omega
      have h3 := h2 (by omega)
      have he0 := HF.out.e0
      have he5 := HF.out.e50
      have hn5 := HF.out.n5
      have hu1 := HF.out.u1
      have hv1 := HF.out.v1
      rw [HL.out] at h3 he0 he5
      have H3 := Lib.hid h3
      obtain ⟨M, rfl⟩ : ∃ M, L = M + 1 := ⟨L - 1, by omega⟩
      have hsub : (((M + 1 : Nat) : Int)) - 1 = (M : Int) := by omega
      clear h1 h2 h3
      go_upto_region 15 with (fail)
      go_loopw [9, 10, 11] (fun a b i wr => ∃ k : Nat, k ≤ n ∧ i = .int .i64 k ∧ (∃ X Y : Nat, a = .int .i64 X ∧ b = .int .i64 Y ∧ Hid (X = M ^ k) ∧ Hid (Y = (M + 1) ^ k)) ∧ wr = w6) (fun _ _ i _ => n - (intOf i).toNat)
      case atStart => exact ⟨0, by omega, rfl, ⟨1, 1, rfl, rfl, Lib.hid rfl, Lib.hid rfl⟩, rfl⟩
      case round =>
        obtain ⟨k, hk, rfl, ⟨X, Y, rfl, rfl, hX, hY⟩, rfl⟩ := hrel
        by_cases hlt2 : k < n
        · have p1 := pow_step (A := M) (k := k) (by omega) (by omega)
          have p2 := pow_step (A := M + 1) (k := k) (by omega) (by omega)
          rw [← hX.out] at p1
          rw [← hY.out] at p2
          have x1 := p1.1
          have x2 : ((X * M : Nat) : Int) ≤ 312500000 := by have := p1.2.1; omega
          have y1 := p2.1
          have y2 : ((Y * (M + 1) : Nat) : Int) ≤ 312500000 := by have := p2.2.1; omega
          have x3 : (0 : Int) ≤ ((X * M : Nat) : Int) := by omega
          have y3 : (0 : Int) ≤ ((Y * (M + 1) : Nat) : Int) := by omega
          have X4 : Hid (X * M = M ^ (k + 1)) := Lib.hid (p1.2.2.symm)
          have Y4 : Hid (Y * (M + 1) = (M + 1) ^ (k + 1)) := Lib.hid (p2.2.2.symm)
          rw [Int.natCast_mul] at x2 x3 y2 y3
          have e9 : ((M + 1 : Nat) : Int) = (M : Int) + 1 := by omega
          rw [e9] at y2 y3
          have hlt1 : (k : Int) < (n : Int) := by omega
          clear p1 p2 hX hY
          have q3_0 := (S6.out.sx.bx _ (.head _)).cell 0
          have q3_1 := (S6.out.sx.bx _ (.head _)).cell 1
          simp at q3_0 q3_1
          go_wp2
          go_roundw
          case rel => exact ⟨k + 1, by omega, by go_num, ⟨X * M, Y * (M + 1), by rw [Int.natCast_mul], by rw [Int.natCast_mul, e9], X4, Y4⟩, trivial⟩
          case measure => simp [intOf]; omega
        · obtain rfl : k = n := by omega
          have h3 := H3.out
          rw [Nat.add_sub_cancel, ← hX.out, ← hY.out] at h3
          have p1 := pow_few8 (a := M) (t := k) (by omega) hn5
          have p2 := pow_few8 (a := M + 1) (t := k) (by omega) hn5
          rw [← hX.out] at p1
          rw [← hY.out] at p2
          obtain ⟨m1, m2⟩ := mul_few hu1 p2
          obtain ⟨m3, m4⟩ := mul_few p1 hv1
          have h4 : (U : Int) * (Y : Int) ≤ (X : Int) * (V : Int) := by rw [← Int.natCast_mul, ← Int.natCast_mul]; omega
          clear h3 hX hY p1 p2
          go_wp2
          go_ret
          exact ⟨rfl, S6.out.sx.be⟩
end Go.Proofs.YtimkmdedoacpfabDoor
