/- eqIntS. -/
import Derived.Test.YtopjlbihhbjhnaaDoorWalkF
namespace Go.Proofs.YtopjlbihhbjhnaaDoor
open Go.RowKit

theorem eqs_any (v u : Value) (xs ys : List Int) (w : World) (h : Ints w v xs) (h' : Ints w u ys) : Calls Tryd.prog 24 #[v, u] w fun e w' => e = .returned (.bool (sameB xs ys)) ∧ ∃ m, w' = w.drewN m := by
  by_cases hlen : xs.length = ys.length
  · rcases h with ⟨rfl, rfl⟩ | ⟨g, cap, rfl, hl, hg, hc⟩
    · obtain rfl : ys = [] := List.length_eq_zero_iff.1 hlen.symm
      obtain ⟨a, c, rfl⟩ : ∃ a c, u = .slice a 0 c := by
        rcases h' with ⟨rfl, _⟩ | ⟨g, cap, rfl, _⟩
        · exact ⟨_, _, rfl⟩
        · exact ⟨_, _, rfl⟩
      clear h' hlen
      go_enter Tryd.func24, Tryd.ntmps24
      go_wp2
      go_loop [5] (fun i => i = .int .i64 0) (fun _ => 0)
      case atStart => rfl
      case round =>
        subst hrel
        go_wp2
        go_ret
        exact ⟨rfl, 0, rfl⟩
    · rcases h' with ⟨rfl, rfl⟩ | ⟨g', cap', rfl, hl', hg', hc'⟩
      · obtain rfl : xs = [] := List.length_eq_zero_iff.1 hlen
        clear hc hl hlen
        go_enter Tryd.func24, Tryd.ntmps24
        go_wp2
        go_loop [5] (fun i => i = .int .i64 0) (fun _ => 0)
        case atStart => rfl
        case round =>
          subst hrel
          go_wp2
          go_ret
          exact ⟨rfl, 0, rfl⟩
      · unfold maxLen at hl hl'
        have HC := Lib.hid hc; clear hc
        have HC' := Lib.hid hc'; clear hc'
        have HY := Lib.hid (@same_yes xs ys hlen)
        have hd : ((xs.length : Int) != (ys.length : Int)) = false := by simp [hlen]
        have HL := Lib.hid hlen; clear hlen
        go_enter Tryd.func24, Tryd.ntmps24
        go_wp2
        go_loopw [5] (fun i wr => ∃ k : Nat, k ≤ xs.length ∧ i = .int .i64 k ∧ SameTo xs ys k ∧ ∃ m, wr = w.drewN m) (fun i _ => xs.length - (intOf i).toNat)
        case atStart => exact ⟨0, by omega, rfl, SameTo.zero _ _, 0, rfl⟩
        case round =>
          obtain ⟨k, hk, rfl, hn, m, rfl⟩ := hrel
          by_cases hlt : k < xs.length
          · have hlt' : k < ys.length := by rw [← HL.out]; exact hlt
            have hck := HC.out k hlt
            have hck' := HC'.out k hlt'
            have hlt1 : (k : Int) < (xs.length : Int) := by omega
            have hlt2 : (k : Int) < (ys.length : Int) := by omega
            by_cases he : nth xs k = nth ys k
            · have hn' := hn.succ he
              have hq : (nth xs k != nth ys k) = false := by simpa using he
              clear he hn
              go_wp2_with fail
              go_quiet (fail)
              go_wp2
              go_roundw
              case rel => exact ⟨k + 1, by omega, by go_num, hn', _, rfl⟩
              case measure => simp [intOf]; omega
            · have HT := Lib.hid (same_no he)
              have hq : (nth xs k != nth ys k) = true := by simpa using he
              clear he hn
              go_wp2_with fail
              go_quiet (fail)
              go_wp2
              go_ret
              exact ⟨by rw [HT.out]; rfl, _, World.drewN_drewN _ _ _⟩
          · obtain rfl : k = xs.length := by omega
            have HT := Lib.hid (HY.out hn)
            clear hn
            go_wp2
            go_ret
            exact ⟨by rw [HT.out]; rfl, _, rfl⟩
  · have HT := Lib.hid (same_len hlen)
    have hd : ((xs.length : Int) != (ys.length : Int)) = true := by rw [bne_iff_ne]; omega
    obtain ⟨a, c, rfl⟩ : ∃ a c, v = .slice a xs.length c := by
      rcases h with ⟨rfl, rfl⟩ | ⟨g, cap, rfl, _⟩
      · exact ⟨_, _, rfl⟩
      · exact ⟨_, _, rfl⟩
    obtain ⟨a', c', rfl⟩ : ∃ a c, u = .slice a ys.length c := by
      rcases h' with ⟨rfl, rfl⟩ | ⟨g, cap, rfl, _⟩
      · exact ⟨_, _, rfl⟩
      · exact ⟨_, _, rfl⟩
    clear h h' hlen
    go_enter Tryd.func24, Tryd.ntmps24
    go_wp2
    go_ret
    exact ⟨by rw [HT.out]; rfl, 0, rfl⟩

end Go.Proofs.YtopjlbihhbjhnaaDoor
