/- LawsA, LawR, in one text. -/
import Derived.Test.YtlcegpmhlnilfabDoorBPure
import Derived.Test.YtlcegpmhlnilfabDoorBWalk
import Derived.Test.YtlcegpmhlnilfabDoorBDraw
import Derived.Test.YtlcegpmhlnilfabDoorBRd
import Derived.Test.YtlcegpmhlnilfabDoorBCl
/- The laws of chapter 1 that hold no list, walked: each answers true, and writes nothing that was there. -/
namespace Go.Proofs.YtlcegpmhlnilfabDoor
open Go.RowKit

theorem CodeIn.slice {w : World} {s : Value} (h : CodeIn w s) : ∃ a len cap, s = .slice a len cap := by
  rcases h with ⟨a, cap, rfl⟩ | ⟨b, off, len, cap, z, rfl, _⟩
  · exact ⟨_, _, _, rfl⟩
  · exact ⟨_, _, _, rfl⟩

theorem Ints.slice {w : World} {v : Value} {xs : List Int} (h : Ints w v xs) : ∃ a c, v = .slice a xs.length c := by
  rcases h with ⟨rfl, rfl⟩ | ⟨g, cap, rfl, _⟩
  · exact ⟨_, _, rfl⟩
  · exact ⟨_, _, rfl⟩
theorem Ints.at' {w : World} {v : Value} {xs : List Int} (h : Ints w v xs) {i : Nat} (hi : i < xs.length) : ∃ b c, v = .slice (some ⟨b, 0, none⟩) xs.length c ∧ w.cell? ⟨b, i, none⟩ = some (.int .i64 (nth xs i)) := by
  rcases h with ⟨rfl, rfl⟩ | ⟨g, cap, rfl, _, _, hc⟩
  · simp at hi
  · exact ⟨_, _, rfl, hc i hi⟩
theorem els_fit (g : Int) : (els g).length ≤ maxLen := by have := @els_len g; unfold maxLen; omega

theorem alive_any (w : World) (G : Gr w) : Calls Tryd.prog 16 #[] w fun e w' => e = .returned (.bool true) ∧ w = w' := by
  have p := Lib.hid (show prm 0 = 7 from rfl)
  have q := Lib.hid (show ord 0 = 3 from rfl)
  have G0 := Lib.hid G; clear G
  go_enter Tryd.func16, Tryd.ntmps16
  go_wp2_with fail
  refine (iprm_any _ _ G0.out).mono ?_
  rintro e w1_ ⟨rfl, rfl⟩
  rw [p.out]
  go_wp2_with fail
  refine (iord_any _ _ G0.out).mono ?_
  rintro e w1_ ⟨rfl, rfl⟩
  rw [q.out]
  go_wp2
  go_ret
  exact ⟨rfl, rfl⟩

end Go.Proofs.YtlcegpmhlnilfabDoor

/- The laws' own helpers of chapter 3: sameRows, sameWords, rest; what a law of chapter 3 has at hand. -/
namespace Go.Proofs.YtlcegpmhlnilfabDoor
open Go.RowKit

theorem same_b (v u : Value) (xs ys : List Int) (w : World) (h : Ints w v xs) (h' : Ints w u ys) : Calls Tryd.prog 63 #[v, u] w fun e w' => e = .returned (.bool (sameB xs ys)) ∧ Below w.heap.size w w' :=
  (same_any v u xs ys w h h').mono fun _ _ ⟨he, _, hw⟩ => ⟨he, below_of_drew hw⟩
theorem same_same (v u : Value) (xs : List Int) (w : World) (h : Ints w v xs) (h' : Ints w u xs) : Calls Tryd.prog 63 #[v, u] w fun e w' => e = .returned (.bool true) ∧ ∃ m, w' = w.drewN m := by
  have c := same_any v u xs xs w h h'
  rwa [sameB_refl] at c
theorem same_eq (v u : Value) (xs : List Int) (w : World) (h : Ints w v xs) (h' : Ints w u xs) : Calls Tryd.prog 63 #[v, u] w fun e w' => e = .returned (.bool true) ∧ Below w.heap.size w w' :=
  (same_same v u xs w h h').mono fun _ _ ⟨he, _, hw⟩ => ⟨he, below_of_drew hw⟩
theorem ints_drewN {w : World} {v : Value} {xs : List Int} (h : Ints w v xs) (m : Nat) : Ints (w.drewN m) v xs := h
set_option maxHeartbeats 1600000 in
theorem samer_any (v u : Value) (xss : List (List Int)) (w : World) (h : IntSS w v xss) (h' : IntSS w u xss) :
    Calls Tryd.prog 14 #[v, u] w fun e w' => e = .returned (.bool true) ∧ Below w.heap.size w w' := by
  obtain ⟨a, c, rfl, k1⟩ := h.opened
  obtain ⟨a', c', rfl, k2⟩ := h'.opened
  obtain ⟨n, hn⟩ : ∃ n, xss.length = n := ⟨_, rfl⟩
  have hmax := k1.max
  have HA := Lib.hid (fun k (hk : k < n) => k1.get k (by rw [hn]; exact hk))
  have HA' := Lib.hid (fun k (hk : k < n) => k2.get k (by rw [hn]; exact hk))
  have hb : ((n : Int) != (n : Int)) = false := by simp
  rw [hn] at hmax ⊢
  unfold maxLen at hmax
  clear h h' k1 k2 hn
  go_enter Tryd.func14, Tryd.ntmps14
  go_wp2
  go_loopw [5] (fun i wr => ∃ k : Nat, k ≤ n ∧ i = .int .i64 k ∧ ∃ m, wr = w.drewN m) (fun i _ => n - (intOf i).toNat)
  case atStart => exact ⟨0, by omega, rfl, 0, rfl⟩
  case round =>
    obtain ⟨k, hk, rfl, m, hwr⟩ := hrel
    by_cases hlt : k < n
    · obtain ⟨g, x, rfl, _, hc0, hx⟩ := HA.out k hlt
      obtain ⟨g', x', rfl, _, hc0', hx'⟩ := HA'.out k hlt
      have hc : wr.cell? ⟨g, k, none⟩ = some x := by rw [hwr]; exact hc0
      have hc' : wr.cell? ⟨g', k, none⟩ = some x' := by rw [hwr]; exact hc0'
      have HX : Hid (Ints wr x (row xss k)) := Lib.hid (by rw [hwr]; exact hx)
      have HX' : Hid (Ints wr x' (row xss k)) := Lib.hid (by rw [hwr]; exact hx')
      have hlt1 : (k : Int) < (n : Int) := by omega
      have HW := Lib.hid hwr
      clear hx hx' hc0 hc0' hwr
      go_wp2_with fail
      go_quiet ((go_at_call 63; exact Calls.quiet_of (same_same x x' (row xss k) _ (ints_drewN HX.out _) (ints_drewN HX'.out _))))
      go_wp2
      go_roundw
      case rel => exact ⟨k + 1, by omega, by go_num, _, by rw [HW.out]; exact World.drewN_drewN _ _ _⟩
      case measure => simp [intOf]; omega
    · obtain rfl : k = n := by omega
      have HW := Lib.hid hwr
      clear hwr
      go_wp2
      go_ret
      exact ⟨rfl, by rw [HW.out]; exact below_drewN (Below.refl _ _) m⟩

/-- A relation and lists that can be read behind world v, the groups too. -/
structure Lw (v : World) (g : Int) (rv mv : Value) (rows : List (List Int)) (makes : List Int) : Prop where
  gr : Gr v
  cw : Cw v rv mv rows makes
theorem Lw.on {v v' : World} {g : Int} {rv mv : Value} {rows : List (List Int)} {makes : List Int} (h : Lw v g rv mv rows makes) (hb : Below v.heap.size v v') : Lw v' g rv mv rows makes := ⟨h.gr.on hb, h.cw.on hb⟩
end Go.Proofs.YtlcegpmhlnilfabDoor
