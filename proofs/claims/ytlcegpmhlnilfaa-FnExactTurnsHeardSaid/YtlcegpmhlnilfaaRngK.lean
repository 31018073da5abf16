/- impl.ordersOf: its closure yields all orders. -/
import Derived.Test.YtlcegpmhlnilfaaRngJ
import Derived.Test.YtlcegpmhlnilfaaBRd
import Derived.Test.YtlcegpmhlnilfaaBDr
import Derived.Deep.Cut
import Derived.Laws.EntriesVeiled
namespace Go.Proofs.Ytlcegpmhlnilfaa
open Go.RowKit

theorem idn_succ (k : Nat) : idn (k + 1) = idn k ++ [(k : Int)] := by simp [idn, List.range_succ]
/-- The points filled in: the iterator's boxes, and its list. -/
structure Pz (W : World) (l k : Nat) (v : Value) (wr : World) : Prop where
  be : Below W.heap.size W wr
  b2 : Box wr W.heap.size [.func (.yield l) #[] #[]]
  b3 : Box wr (W.heap.size + 1) [v]
  ow : Own wr W.heap.size v (idn k)
  ne : ∀ q, v.ownBlock = some q → q ≠ W.heap.size ∧ q ≠ W.heap.size + 1
theorem Box.grownP {w w' : World} {N : Nat} {r : Option Nat} {cs : List Value} (h : Box w N cs) (hg : w.grownBy w' r) (hr : ∀ q, r = some q → q ≠ N) : Box w' N cs := by
  obtain ⟨T, hT⟩ := h
  exact ⟨T, by rw [hg.block N (Array.getElem?_eq_some_iff.1 hT).1 fun e => hr N e.symm rfl]; exact hT⟩
theorem Pz.next {W wr w1 w2 : World} {l k : Nat} {v v2 : Value} (h : Pz W l k v wr) (hb : Below wr.heap.size wr w1) (ho : Own w2 W.heap.size v2 (idn k ++ [(k : Int)])) (hg : w1.grownBy w2 v.ownBlock) (hv : v2.ownBlock = v.ownBlock ∨ ∃ q, v2.ownBlock = some q ∧ w1.heap.size ≤ q) :
    Pz W l (k + 1) v2 (w2.setCell ⟨W.heap.size + 1, 0, none⟩ v2) := by
  have e1 := Below.on h.be hb
  have hne : ∀ q, v2.ownBlock = some q → q ≠ W.heap.size ∧ q ≠ W.heap.size + 1 := fun q hq => by
    rcases hv with hv | ⟨q', hv, hq'⟩
    · exact h.ne q (by rw [← hv]; exact hq)
    · rw [hv] at hq
      have : q' = q := Option.some.inj hq
      have := h.b3.lt
      have := hb.size
      omega
  refine ⟨(e1.grown hg e1.size (fun q e => (h.ow.lt q e).1)).setCell (p := ⟨W.heap.size + 1, 0, none⟩) (by show W.heap.size ≤ W.heap.size + 1; omega) _, ?_, ?_, ?_, hne⟩
  · exact ((h.b2.on hb).grownP hg fun q e => (h.ne q e).1).far (by omega) v2
  · exact ((h.b3.on hb).grownP hg fun q e => (h.ne q e).2).set 0 v2
  · rw [idn_succ]
    exact own_heap ho fun q hq => Below.heap_setCell _ _ _ _ (by show q ≠ W.heap.size + 1; exact (hne q hq).2)
set_option maxRecDepth 20000 in
set_option maxHeartbeats 3200000 in
theorem iall_any (Bm l m : Nat) (T0 : List (List Int)) (J Jx : Nat → List (List Int) → World → Prop) (W : World) (hB : Bm < W.heap.size) (hm0 : W.cell? ⟨Bm, 0, none⟩ = some (.int .i64 m)) (h1 : 1 ≤ m) (h5 : m ≤ 5) (hNl : ords m <+: T0)
    (hJ : ∀ n2, AbidesIn W.heap.size n2 (J n2)) (hY : ∀ n2, W.heap.size ≤ n2 → Rounds Bm l W.heap.size n2 T0 (J n2) (Jx n2)) (h0 : ∀ W', Below W.heap.size W W' → J W'.heap.size [] W') :
    Calls Try.prog 70 #[.func (.yield l) #[] #[], .pointer (some ⟨Bm, 0, none⟩)] W fun e W' => (∃ v, e = .returned v) ∧ ∃ n2, W.heap.size ≤ n2 ∧ (J n2 (ords m) W' ∨ ∃ pre, pre <+: ords m ∧ Jx n2 pre W') := by
  have P0 : Hid (Pz W l 0 (.slice none 0 0) ((W.alloc (.cells #[.func (.yield l) #[] #[]] 23)).alloc (.cells #[.slice none 0 0] 22))) := Lib.hid (by
    obtain ⟨b0, b1, bl⟩ := boxes2 (w := W) (P := [.func (.yield l) #[] #[]]) (R := [.slice none 0 0]) (T1 := 23) (T2 := 22) (Below.refl _ _)
    exact ⟨bl, b0, b1, World.ownsRow_nil _ _ _ _, fun q hq => by simp [Value.ownBlock] at hq⟩)
  have H0 := Lib.hid h0
  have HY := Lib.hid hY
  have HJ := Lib.hid hJ
  have HM := Lib.hid hm0
  clear h0 hY hJ hm0
  have c0 := HM.out
  go_enter Try.func70, Try.ntmps70
  go_wp2
  go_loopw [8] (fun i wr => ∃ k : Nat, k ≤ m ∧ i = .int .i64 k ∧ Hid (∃ v, Pz W l k v wr)) (fun i _ => m - (intOf i).toNat)
  case atStart => exact ⟨0, by omega, rfl, Lib.hid ⟨_, P0.out⟩⟩
  case round =>
    obtain ⟨k, hk, rfl, hP⟩ := hrel
    obtain ⟨wo, rfl⟩ : ∃ wo : World, wo = wr := ⟨_, rfl⟩
    clear P0 c0
    obtain ⟨v, pz⟩ := hP.out
    have PZ := Lib.hid pz
    have HB3 := Lib.hid pz.b3
    clear pz hP
    by_cases hkm : k < m
    · have hlt : (k : Int) < (m : Int) := by omega
      have q0 := HB3.out.cell 0
      simp at q0
      have ov := PZ.out.ow
      have oz : W.heap.size ≤ wo.heap.size := PZ.out.be.size
      have hxl : (idn k).length < 1000000000 := by rw [idn_len]; omega
      go_wp2_with (at_builtin; refine wpAppInt rfl _ _ rfl rfl ov hxl oz rfl ?_)
      intro v2 w2 o2 g2 hv2
      obtain ⟨va, vc, e2⟩ := Own.form o2
      rw [List.length_append, idn_len] at e2
      subst e2
      have PN := Lib.hid (PZ.out.next (Below.refl _ _) o2 g2 hv2)
      have b3 := PZ.out.b3.grownP g2 fun q e => (PZ.out.ne q e).2
      have c3 := b3.cell 0
      have f3 := b3.frozen 0
      simp at c3
      clear o2 g2 hv2 ov oz q0 b3
      go_wp2
      go_roundw
      case rel => exact ⟨k + 1, by omega, by go_num, Lib.hid ⟨_, PN.out⟩⟩
      case measure => simp [intOf]; omega
    · obtain rfl : k = m := by omega
      obtain ⟨g, c, rfl⟩ := own_some PZ.out.ow (by rw [idn_len]; omega)
      rw [idn_len] at PZ HB3
      have hlt : ¬ (k : Int) < (k : Int) := by omega
      obtain ⟨W6, hW6⟩ : ∃ z, z = (wo.alloc (.cells #[Value.func (.func 71) #[] #[.pointer (some ⟨W.heap.size + 1, 0, none⟩)]] 81)).alloc (.cells #[Value.func (.func 72) #[] #[.pointer (some ⟨Bm, 0, none⟩), .pointer (some ⟨W.heap.size, 0, none⟩), .pointer (some ⟨W.heap.size + 1, 0, none⟩), .pointer (some ⟨wo.heap.size, 0, none⟩), .pointer (some ⟨wo.heap.size + 1, 0, none⟩)]] 82) := ⟨_, rfl⟩
      obtain ⟨b5, b6, bl⟩ := boxes2 (w := wo) (P := [Value.func (.func 71) #[] #[.pointer (some ⟨W.heap.size + 1, 0, none⟩)]]) (R := [Value.func (.func 72) #[] #[.pointer (some ⟨Bm, 0, none⟩), .pointer (some ⟨W.heap.size, 0, none⟩), .pointer (some ⟨W.heap.size + 1, 0, none⟩), .pointer (some ⟨wo.heap.size, 0, none⟩), .pointer (some ⟨wo.heap.size + 1, 0, none⟩)]]) (T1 := 81) (T2 := 82) (Below.refl _ _)
      rw [← hW6] at b5 b6 bl
      have hz6 : W6.heap.size = wo.heap.size + 2 := by rw [hW6]; simp
      have hgl := PZ.out.ow.lt g rfl
      have hgn := PZ.out.ne g rfl
      have hlt3 := PZ.out.b3.lt
      have hbw := Below.on PZ.out.be bl
      have x : Ix Bm W.heap.size (W.heap.size + 1) wo.heap.size (wo.heap.size + 1) g W.heap.size W6.heap.size :=
        ⟨hB, ⟨by omega, by omega, by omega⟩, ⟨by omega, by omega, by omega⟩, ⟨by omega, by omega, by omega⟩, ⟨by omega, by omega, by omega⟩, ⟨by omega, by omega⟩⟩
      have z2 := (PZ.out.b2.on bl).cell 0
      have z3 := (PZ.out.b3.on bl).cell 0
      have z5 := b5.cell 0
      have z6 := b6.cell 0
      simp at z2 z3 z5 z6
      have it : It Bm W.heap.size (W.heap.size + 1) wo.heap.size (wo.heap.size + 1) g c k l W.heap.size W6.heap.size (idn k) W6 :=
        ⟨(hbw.cell (p := ⟨Bm, 0, none⟩) hB).trans HM.out, z2, z3, z5, z6, own_below PZ.out.ow bl, idn_len k, Nat.le_refl _⟩
      have HC := Lib.hid (iyf_any (Jx := Jx W6.heap.size) x (by omega) h5 (HY.out _ (by omega)) (HJ.out _) k 0 [] (idn k) W6 (by omega) it (H0.out W6 hbw) (by rw [exFrom_ords h1 h5]; simpa using hNl))
      have HW6 := Lib.hid hW6
      have HZ : Hid (W.heap.size ≤ W6.heap.size) := Lib.hid (by omega)
      have HE := Lib.hid (exFrom_ords h1 h5)
      clear hW6 b5 b6 bl hz6 hgl hgn hlt3 hbw x z2 z3 z5 z6 it
      go_wp2_with fail
      rw [← HW6.out]
      refine ((callsIn_wide (n := 3)).1 HC.out).mono ?_
      rintro e W' ⟨b, rfl, r1, r2⟩
      rw [HE.out] at r1 r2
      have HR : Hid (∃ n2, W.heap.size ≤ n2 ∧ (J n2 (ords k) W' ∨ ∃ pre, pre <+: ords k ∧ Jx n2 pre W')) := Lib.hid (by
        refine ⟨W6.heap.size, HZ.out, ?_⟩
        cases b
        · obtain ⟨q, hq1, hq2⟩ := r2 rfl
          exact .inr ⟨q, hq1, by simpa using hq2⟩
        · exact .inl (by simpa using (r1 rfl).2))
      clear r1 r2
      go_wp2
      go_end0
      exact ⟨⟨_, rfl⟩, HR.out⟩
end Go.Proofs.Ytlcegpmhlnilfaa
