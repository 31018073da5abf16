/- impl.AnswersMany's closure, slices.IndexFunc, slices.ContainsFunc over it. -/
import Derived.Test.YtkcikhjobgackacDoorLotI
import Derived.Test.YtkcikhjobgackacDoorWokI
namespace Go.Proofs.YtkcikhjobgackacDoor
open Go.RowKit

def anyTo (h : Nat → Bool) : Nat → Bool
  | 0 => false
  | k + 1 => anyTo h k || h k
theorem anyTo_at {h : Nat → Bool} : ∀ {n k : Nat}, k < n → h k = true → anyTo h n = true
  | 0, k, hk, _ => by omega
  | n + 1, k, hk, e => by
    unfold anyTo
    by_cases c : k < n
    · rw [anyTo_at c e]; rfl
    · obtain rfl : k = n := by omega
      rw [e]; simp
theorem anyTo_step {h : Nat → Bool} {k : Nat} (h1 : anyTo h k = false) (h2 : h k = false) : anyTo h (k + 1) = false := by unfold anyTo; rw [h1, h2]; rfl
theorem anyTo_congr {h h' : Nat → Bool} : ∀ {n : Nat}, (∀ k, k < n → h k = h' k) → anyTo h n = anyTo h' n
  | 0, _ => rfl
  | n + 1, e => by unfold anyTo; rw [anyTo_congr fun k hk => e k (by omega), e n (by omega)]

set_option maxHeartbeats 1600000 in
theorem clo_asked (m v : Value) (N : Nat) (xs ys : List Int) (w : World) (h : Ints w m xs) (hb : Box w N [v]) (hv : Ints w v ys) :
    Calls Tryd.prog 56 #[m, .pointer (some ⟨N, 0, none⟩)] w fun e w' => e = .returned (.bool (sameB xs ys)) ∧ Below w.heap.size w w' := by
  have hc := hb.cell 0
  simp at hc
  have H1 := Lib.hid h
  have H2 := Lib.hid hv
  clear h hv
  go_enter Tryd.func56, Tryd.ntmps56
  go_wp2_with fail
  refine (slEq_any m v xs ys w H1.out H2.out).mono ?_
  rintro e w1 ⟨rfl, hb1⟩
  have HB := Lib.hid hb1
  clear hb1 hc
  go_wp2
  go_ret
  exact ⟨rfl, HB.out⟩

set_option maxHeartbeats 3200000 in
theorem idx_any (sv v : Value) (N : Nat) (mss : List (List Int)) (ys : List Int) (w : World) (h : IntSS w sv mss) (hl : mss.length ≤ 600) (hb : Box w N [v]) (hv : Ints w v ys) :
    Calls Tryd.prog 105 #[sv, .func (.func 56) #[] #[.pointer (some ⟨N, 0, none⟩)]] w fun e w' => ∃ r : Int, e = .returned (.int .i64 r) ∧ -1 ≤ r ∧ r ≤ 1000 ∧ decide (r ≥ 0) = anyTo (fun k => sameB (row mss k) ys) mss.length ∧ Below w.heap.size w w' := by
  obtain ⟨a, c, rfl, hA⟩ := h.opened
  obtain ⟨n, hn⟩ : ∃ n, mss.length = n := ⟨_, rfl⟩
  have HA := Lib.hid (show ∀ w', Below w.heap.size w w' → ∀ k, k < n → ∃ G u, a = some ⟨G, 0, none⟩ ∧ w'.cell? ⟨G, k, none⟩ = some u ∧ Ints w' u (row mss k) from fun w' hb k hk => by
    obtain ⟨G, u, e1, _, e2, e3⟩ := (hA.on hb).get k (by rw [hn]; exact hk)
    exact ⟨G, u, e1, e2, e3⟩)
  have HB := Lib.hid hb
  have HV := Lib.hid hv
  rw [hn] at hl ⊢
  obtain ⟨hh, hhe⟩ : ∃ hh : Nat → Bool, (fun k => sameB (row mss k) ys) = hh := ⟨_, rfl⟩
  have HH : Hid (∀ k, sameB (row mss k) ys = hh k) := Lib.hid fun k => by rw [← hhe]
  rw [hhe]
  clear h hA hn hb hv hhe
  go_enter Tryd.func105, Tryd.ntmps105
  go_wp2
  go_loopw [8] (fun i wr => ∃ k : Nat, k ≤ n ∧ i = .int .i64 k ∧ Hid (anyTo hh k = false) ∧ Hid (Below w.heap.size w wr)) (fun i _ => n - (intOf i).toNat)
  case atStart => exact ⟨0, by omega, rfl, Lib.hid rfl, Lib.hid (Below.refl _ _)⟩
  case round =>
    obtain ⟨k, hk, rfl, hN, hB⟩ := hrel
    obtain ⟨wo, rfl⟩ : ∃ wo : World, wo = wr := ⟨_, rfl⟩
    by_cases hlt : k < n
    · obtain ⟨G, u, rfl, hc, hi⟩ := HA.out _ hB.out k hlt
      have HI := Lib.hid hi
      have hlt1 : (k : Int) < (n : Int) := by omega
      clear hi
      cases hq : hh k
      · go_wp2_with fail
        refine (clo_asked u v N (row mss k) ys _ HI.out (HB.out.on hB.out) (HV.out.below hB.out)).mono ?_
        rintro e w1 ⟨rfl, hb1⟩
        rw [HH.out, hq]
        have B1 := Lib.hid (Below.on hB.out hb1)
        have N1 := Lib.hid (anyTo_step hN.out hq)
        clear hb1 hc hq hN hB
        go_wp2
        go_roundw
        case rel => exact ⟨k + 1, by omega, by go_num, N1, B1⟩
        case measure => simp [intOf]; omega
      · go_wp2_with fail
        refine (clo_asked u v N (row mss k) ys _ HI.out (HB.out.on hB.out) (HV.out.below hB.out)).mono ?_
        rintro e w1 ⟨rfl, hb1⟩
        rw [HH.out, hq]
        have B1 := Lib.hid (Below.on hB.out hb1)
        have N1 := Lib.hid (anyTo_at hlt hq)
        clear hb1 hc hq hN hB
        go_wp2
        go_ret
        exact ⟨k, rfl, by omega, by omega, by rw [N1.out]; simp, B1.out⟩
    · obtain rfl : k = n := by omega
      go_wp2
      go_ret
      exact ⟨-1, rfl, by omega, by omega, by rw [hN.out]; rfl, hB.out⟩

set_option maxHeartbeats 1600000 in
theorem cont_any (sv v : Value) (N : Nat) (mss : List (List Int)) (ys : List Int) (w : World) (h : IntSS w sv mss) (hl : mss.length ≤ 600) (hb : Box w N [v]) (hv : Ints w v ys) :
    Calls Tryd.prog 55 #[sv, .func (.func 56) #[] #[.pointer (some ⟨N, 0, none⟩)]] w fun e w' => e = .returned (.bool (anyTo (fun k => sameB (row mss k) ys) mss.length)) ∧ Below w.heap.size w w' := by
  have HI := Lib.hid (idx_any sv v N mss ys w h hl hb hv)
  clear h hl hb hv
  obtain ⟨b, hbe⟩ : ∃ b, anyTo (fun k => sameB (row mss k) ys) mss.length = b := ⟨_, rfl⟩
  rw [hbe] at HI ⊢
  clear hbe
  go_enter Tryd.func55, Tryd.ntmps55
  go_wp2_with fail
  refine HI.out.mono ?_
  rintro e w1 ⟨r, rfl, r0, r1, hr, hb1⟩
  have HB := Lib.hid hb1
  have HR := Lib.hid hr
  clear hb1 hr
  go_wp2
  go_ret
  exact ⟨by rw [← HR.out]; rfl, HB.out⟩
end Go.Proofs.YtkcikhjobgackacDoor
