/- Lists of talks compared, marked and looked at. -/
import Derived.Test.YtlcegpmhlnilfaaDoorSrB
import Derived.Test.YtlcegpmhlnilfaaDoorBTalk
namespace Go.Proofs.YtlcegpmhlnilfaaDoor
open Go.RowKit

theorem ownT_form {w : World} {B : Nat} {v : Value} {ask : Int → Int} {d : List (Int × Int)} (h : OwnT w B v ask d) : (∃ a c, v = .slice a d.length c) ∧ (0 < d.length → ∃ g cap, v = .slice (some ⟨g, 0, none⟩) d.length cap) := by
  rcases id h.2 with ⟨rfl, h0⟩ | ⟨g, cap, cur, rfl, _⟩
  · exact ⟨⟨none, 0, by rw [h0]⟩, fun hp => by omega⟩
  · exact ⟨⟨_, _, rfl⟩, fun _ => ⟨_, _, rfl⟩⟩

theorem eqt_refl (x : Int × Int) (ask : Int → Int) (w : World) : Calls Tryd.prog 38 #[.agg #[.int .i64 x.1, .int .i64 (ask x.1), .int .i64 x.2], .agg #[.int .i64 x.1, .int .i64 (ask x.1), .int .i64 x.2]] w fun e w' => e = .returned (.bool true) ∧ Below w.heap.size w w' := by
  obtain ⟨s, t⟩ := x
  show Calls Tryd.prog 38 #[.agg #[.int .i64 s, .int .i64 (ask s), .int .i64 t], .agg #[.int .i64 s, .int .i64 (ask s), .int .i64 t]] w _
  generalize ask s = p
  have HB0 := B2x.start w s p t s p t
  obtain ⟨⟨c0, c1, c2⟩, d0, d1, d2⟩ := B2x.cells HB0
  go_enter Tryd.func38, Tryd.ntmps38
  go_wp2
  go_ret
  exact ⟨rfl, B2x.fin HB0⟩

/-- What a later world keeps of two lists. -/
structure Tw (W : World) (B B' : Nat) (v u : Value) (ask : Int → Int) (d : List (Int × Int)) (w : World) : Prop where
  o1 : OwnT w B v ask d
  o2 : OwnT w B' u ask d
  below : Below W.heap.size W w
theorem Tw.on {W w w' : World} {B B' : Nat} {v u : Value} {ask : Int → Int} {d : List (Int × Int)} (h : Hid (Tw W B B' v u ask d w)) (hb : Below w.heap.size w w') : Hid (Tw W B B' v u ask d w') :=
  Lib.hid ⟨ownT_below h.out.o1 hb, ownT_below h.out.o2 hb, h.out.below.trans (hb.mono h.out.below.size)⟩

theorem eqt_any (v u : Value) (ask : Int → Int) (d : List (Int × Int)) (B B' : Nat) (w : World) (hl : d.length ≤ 23) (h : OwnT w B v ask d) (h' : OwnT w B' u ask d) :
    Calls Tryd.prog 15 #[v, u] w fun e w' => e = .returned (.bool true) ∧ Below w.heap.size w w' := by
  obtain ⟨n, hn⟩ : ∃ n, d.length = n := ⟨_, rfl⟩
  rcases Nat.eq_zero_or_pos n with hz | hp
  · obtain ⟨a, c, rfl⟩ := (ownT_form h).1
    obtain ⟨a', c', rfl⟩ := (ownT_form h').1
    rw [hn, hz]
    clear h h' hl hn hz
    go_enter Tryd.func15, Tryd.ntmps15
    go_wp2
    go_loop [5] (fun i => i = .int .i64 0) (fun _ => 0)
    case atStart => rfl
    case round =>
      subst hrel
      go_wp2
      go_ret
      exact ⟨rfl, Below.refl _ _⟩
  · obtain ⟨g, cap, rfl⟩ := (ownT_form h).2 (by omega)
    obtain ⟨g', cap', rfl⟩ := (ownT_form h').2 (by omega)
    rw [hn] at h h' hl ⊢
    have hb : ((n : Int) != (n : Int)) = false := by simp
    have M0 : Hid (Tw w B B' (.slice (some ⟨g, 0, none⟩) n cap) (.slice (some ⟨g', 0, none⟩) n cap') ask d w) := Lib.hid ⟨h, h', Below.refl _ _⟩
    have HN := Lib.hid hn
    clear h h' hn
    go_enter Tryd.func15, Tryd.ntmps15
    go_wp2
    go_loopw [5] (fun i wr => ∃ k : Nat, k ≤ n ∧ i = .int .i64 k ∧ Hid (Tw w B B' (.slice (some ⟨g, 0, none⟩) n cap) (.slice (some ⟨g', 0, none⟩) n cap') ask d wr)) (fun i _ => n - (intOf i).toNat)
    case atStart => exact ⟨0, by omega, rfl, M0⟩
    case round =>
      obtain ⟨k, hk, rfl, M⟩ := hrel
      obtain ⟨wo, rfl⟩ : ∃ wo : World, wo = wr := ⟨_, rfl⟩
      by_cases hlt : k < n
      · have HAT : Hid (∀ w', Tw w B B' (.slice (some ⟨g, 0, none⟩) n cap) (.slice (some ⟨g', 0, none⟩) n cap') ask d w' →
          (w'.cell? ⟨g, k * 3, none⟩ = some (.int .i64 (d[k]!).1) ∧ w'.cell? ⟨g, k * 3 + 1, none⟩ = some (.int .i64 (ask (d[k]!).1)) ∧ w'.cell? ⟨g, k * 3 + 2, none⟩ = some (.int .i64 (d[k]!).2)) ∧
          w'.cell? ⟨g', k * 3, none⟩ = some (.int .i64 (d[k]!).1) ∧ w'.cell? ⟨g', k * 3 + 1, none⟩ = some (.int .i64 (ask (d[k]!).1)) ∧ w'.cell? ⟨g', k * 3 + 2, none⟩ = some (.int .i64 (d[k]!).2)) :=
          Lib.hid fun w' h => ⟨ownT_at h.o1 HN.out hlt, ownT_at h.o2 HN.out hlt⟩
        generalize d[k]! = x at HAT
        have hlt1 : (k : Int) < (n : Int) := by omega
        have HD : Hid (Tw w B B' (.slice (some ⟨g, 0, none⟩) n cap) (.slice (some ⟨g', 0, none⟩) n cap') ask d wo.drew) := Tw.on M (Below.refl _ _).drew
        go_wp2_with fail
        refine wp_region_class (C := fun w' => Hid (Tw w B B' (.slice (some ⟨g, 0, none⟩) n cap) (.slice (some ⟨g', 0, none⟩) n cap') ask d w')) (by kernel_rfl) (by kernel_rfl) HD ?_
        repeat (first | go_big_quiet_skip | (go_big_quiet_want; go_big_quiet_op; first | go_big_quiet_on | (refine ⟨_, fun _ _ => rfl, ?_⟩; go_big_quiet_on)))
        go_big_quiet_want
        go_big_quiet_op
        refine ⟨.agg #[.int .i64 x.1, .int .i64 (ask x.1), .int .i64 x.2], fun w' hw' => ?_, ?_⟩
        · obtain ⟨⟨q, q1, q2⟩, _⟩ := HAT.out _ hw'.out
          simp [go_sem, q, q1, q2]
        go_big_quiet_on
        repeat (first | go_big_quiet_skip | (go_big_quiet_want; go_big_quiet_op; first | go_big_quiet_on | (refine ⟨_, fun _ _ => rfl, ?_⟩; go_big_quiet_on)))
        go_big_quiet_want
        go_big_quiet_op
        refine ⟨.agg #[.int .i64 x.1, .int .i64 (ask x.1), .int .i64 x.2], fun w' hw' => ?_, ?_⟩
        · obtain ⟨_, q, q1, q2⟩ := HAT.out _ hw'.out
          simp [go_sem, q, q1, q2]
        go_big_quiet_on
        repeat (first | go_big_quiet_skip | (go_big_quiet_want; go_big_quiet_op; first | go_big_quiet_on | (refine ⟨_, fun _ _ => rfl, ?_⟩; go_big_quiet_on)))
        go_big_quiet_want
        go_big_quiet_op
        go_big_quiet_call ((intro hw; exact (eqt_refl x ask _).mono fun _ _ ⟨he, hb⟩ => ⟨he, Tw.on hw hb⟩))
        repeat (first | go_big_quiet_skip | (go_big_quiet_want; go_big_quiet_op; first | go_big_quiet_on | (refine ⟨_, fun _ _ => rfl, ?_⟩; go_big_quiet_on)))
        refine wpQuiet_nil ?_
        intro w2 M2
        clear HD M HAT
        go_wp2
        go_roundw
        case rel => exact ⟨k + 1, by omega, by go_num, M2⟩
        case measure => simp [intOf]; omega
      · obtain rfl : k = n := by omega
        go_wp2
        go_ret
        exact ⟨rfl, M.out.below⟩

/-- An owned list whose first k numbers are m, m + 1, .. -/
def OwnM (w : World) (B : Nat) (v : Value) (n : Nat) (m : Int) (k : Nat) : Prop :=
  ∃ F : List Value, F.length = n * 3 ∧ (∀ j : Nat, j < k → F[j]? = some (.int .i64 (m + j))) ∧ w.ownsRow B 48 3 v n F
theorem OwnM.start {w : World} {B : Nat} {v : Value} {ask : Int → Int} {d : List (Int × Int)} (h : OwnT w B v ask d) (m : Int) : OwnM w B v d.length m 0 := ⟨_, flat_len ask d, fun _ hj => by omega, h⟩
theorem OwnM.set {w : World} {B g n cap k : Nat} {m : Int} (h : OwnM w B (.slice (some ⟨g, 0, none⟩) n cap) n m k) (hk : k < n * 3) {x : Int} (hx : x = m + k) :
    (w.frozen? ⟨g, k, none⟩ = false ∧ ∃ u, w.cell? ⟨g, k, none⟩ = some u) ∧ OwnM (w.setCell ⟨g, k, none⟩ (.int .i64 x)) B (.slice (some ⟨g, 0, none⟩) n cap) n m (k + 1) ∧ w.grownBy (w.setCell ⟨g, k, none⟩ (.int .i64 x)) (some g) := by
  obtain ⟨F, hF, hm, ho⟩ := h
  refine ⟨⟨ho.frozenAt k, _, (ho.cellAt k hk).trans (List.getElem?_eq_getElem (by omega))⟩, ⟨F.set k (.int .i64 x), by rw [List.length_set]; exact hF, fun j hj => ?_, (ho.stored k (.int .i64 x)).1⟩, (ho.stored k (.int .i64 x)).2⟩
  by_cases e : k = j
  · subst e; rw [List.getElem?_set_self (by omega), hx]
  · rw [List.getElem?_set_ne e]; exact hm j (by omega)
theorem OwnM.at {w : World} {B g n cap k j : Nat} {m : Int} (h : OwnM w B (.slice (some ⟨g, 0, none⟩) n cap) n m k) (hk : k ≤ n * 3) (hj : j < k) {x : Int} (hx : x = m + j) : w.cell? ⟨g, j, none⟩ = some (.int .i64 x) := by
  obtain ⟨F, hF, hm, ho⟩ := h
  rw [ho.cellAt j (by omega), hm j hj, hx]
theorem grown_both {w w1 w2 : World} {g : Nat} (h : w.grownBy w1 (some g)) (k : w1.grownBy w2 (some g)) : w.grownBy w2 (some g) :=
  ⟨k.os.trans h.os, k.tape.trans h.tape, k.output.trans h.output, Nat.le_trans h.size k.size, fun i hi hr => (k.block i (Nat.lt_of_lt_of_le hi h.size) hr).trans (h.block i hi hr)⟩

theorem markt_any (v : Value) (ask : Int → Int) (d : List (Int × Int)) (m : Int) (B : Nat) (w : World) (h : OwnT w B v ask d) (hl : d.length ≤ 23) (m0 : 0 ≤ m) (m1 : m ≤ 1000) :
    Calls Tryd.prog 17 #[v, .int .i64 m] w fun e w' => e = .returned (.int .i64 (m + 3 * d.length)) ∧ OwnM w' B v d.length m (d.length * 3) ∧ w.grownBy w' v.ownBlock := by
  obtain ⟨n, hn⟩ : ∃ n, d.length = n := ⟨_, rfl⟩
  have HO := Lib.hid (OwnM.start h m)
  rcases Nat.eq_zero_or_pos n with hz | hp
  · obtain ⟨a, c, rfl⟩ := (ownT_form h).1
    rw [hn, hz] at HO ⊢
    clear h hl hn hz
    go_enter Tryd.func17, Tryd.ntmps17
    go_wp2
    go_loop [1, 5] (fun q i => q = .int .i64 m ∧ i = .int .i64 0) (fun _ _ => 0)
    case atStart => exact ⟨rfl, rfl⟩
    case round =>
      obtain ⟨rfl, rfl⟩ := hrel
      go_wp2
      go_ret
      exact ⟨by simp, HO.out, rfl, rfl, rfl, Nat.le_refl _, fun _ _ _ => rfl⟩
  · obtain ⟨g, cap, rfl⟩ := (ownT_form h).2 (by omega)
    rw [hn] at HO hl ⊢
    clear h hn
    go_enter Tryd.func17, Tryd.ntmps17
    go_wp2
    go_loopw [1, 5] (fun q i wr => ∃ k : Nat, k ≤ n ∧ i = .int .i64 k ∧ q = .int .i64 (m + 3 * k) ∧ Hid (OwnM wr B (.slice (some ⟨g, 0, none⟩) n cap) n m (k * 3)) ∧ Hid (w.grownBy wr (some g))) (fun _ i _ => n - (intOf i).toNat)
    case atStart => exact ⟨0, by omega, rfl, by simp, HO, Lib.hid ⟨rfl, rfl, rfl, Nat.le_refl _, fun _ _ _ => rfl⟩⟩
    case round =>
      obtain ⟨k, hk, rfl, rfl, ho, hgr⟩ := hrel
      by_cases hlt : k < n
      · obtain ⟨⟨f0, u0, c0⟩, o1, g1⟩ := ho.out.set (by omega) (x := m + 3 * k) (by omega)
        have O1 := Lib.hid o1
        have G1 := Lib.hid (grown_both hgr.out g1)
        clear o1 g1 ho hgr
        go_upto_region 6 with (fail)
        clear f0 c0
        generalize wr.setCell ⟨g, k * 3, none⟩ (.int .i64 (m + 3 * (k : Int))) = w1 at *
        obtain ⟨⟨f0, u1, c0⟩, o1, g1⟩ := O1.out.set (by omega) (x := m + 3 * k + 1) (by omega)
        have O2 := Lib.hid o1
        have G2 := Lib.hid (grown_both G1.out g1)
        clear o1 g1 O1 G1
        go_upto_region 8 with (fail)
        clear f0 c0
        generalize w1.setCell ⟨g, k * 3 + 1, none⟩ (.int .i64 (m + 3 * (k : Int) + 1)) = w2 at *
        obtain ⟨⟨f0, u2, c0⟩, o1, g1⟩ := O2.out.set (by omega) (x := m + 3 * k + 1 + 1) (by omega)
        have O3 := Lib.hid o1
        have G3 := Lib.hid (grown_both G2.out g1)
        clear o1 g1 O2 G2
        go_wp2
        clear f0 c0
        go_roundw
        case rel => exact ⟨k + 1, by omega, by go_num, by go_num, Lib.hid (by rw [show (k + 1) * 3 = k * 3 + 1 + 1 + 1 by omega]; exact O3.out), G3⟩
        case measure => simp [intOf]; omega
      · obtain rfl : k = n := by omega
        go_wp2
        go_ret
        exact ⟨rfl, ho.out, hgr.out⟩

theorem heldt_any (v : Value) (n : Nat) (m : Int) (B : Nat) (w : World) (h : OwnM w B v n m (n * 3)) (hl : n ≤ 23) (m0 : 0 ≤ m) (m1 : m ≤ 1000) :
    Calls Tryd.prog 18 #[v, .int .i64 m] w fun e w' => e = .returned (.int .i64 (m + 3 * n)) ∧ w = w' := by
  obtain ⟨F, hF, hm, ho⟩ := id h
  rcases id ho.2 with ⟨rfl, rfl⟩ | ⟨g, cap, cur, rfl, hx⟩
  · clear h hF hm ho
    go_enter Tryd.func18, Tryd.ntmps18
    go_wp2
    go_loop [1, 5] (fun q i => q = .int .i64 m ∧ i = .int .i64 0) (fun _ _ => 0)
    case atStart => exact ⟨rfl, rfl⟩
    case round =>
      obtain ⟨rfl, rfl⟩ := hrel
      go_wp2
      go_ret
      exact ⟨by simp, rfl⟩
  · have HH := Lib.hid h
    clear h hF hm ho hx
    go_enter Tryd.func18, Tryd.ntmps18
    go_wp2
    go_loop [1, 5] (fun q i => ∃ k : Nat, k ≤ n ∧ i = .int .i64 k ∧ q = .int .i64 (m + 3 * k)) (fun _ i => n - (intOf i).toNat)
    case atStart => exact ⟨0, by omega, rfl, by simp⟩
    case round =>
      obtain ⟨k, hk, rfl, rfl⟩ := hrel
      by_cases hlt : k < n
      · have c0 := HH.out.at (Nat.le_refl _) (j := k * 3) (by omega) (x := m + 3 * k) (by omega)
        have c1 := HH.out.at (Nat.le_refl _) (j := k * 3 + 1) (by omega) (x := m + 3 * k + 1) (by omega)
        have c2 := HH.out.at (Nat.le_refl _) (j := k * 3 + 2) (by omega) (x := m + 3 * k + 1 + 1) (by omega)
        go_wp2
        go_round
        case rel => exact ⟨k + 1, by omega, by go_num, by go_num⟩
        case measure => simp [intOf]; omega
      · obtain rfl : k = n := by omega
        go_wp2
        go_ret
        exact ⟨rfl, rfl⟩
end Go.Proofs.YtlcegpmhlnilfaaDoor
