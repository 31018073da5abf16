/- spec's reading of a number of one to four digits. -/
import Derived.Test.YtiinifcepcaonaaDoorTextS
import Derived.Test.YtiinifcepcaonaaDoorCutS
namespace Go.Proofs.YtiinifcepcaonaaDoor
open Go.RowKit

def stepD (o : Option Nat) (c : UInt8) : Option Nat := match o with
  | some n => if 48 ≤ c.toNat ∧ c.toNat ≤ 57 then some (10 * n + (c.toNat - 48)) else none
  | none => none
def dgF (l : List UInt8) : Option Nat := l.foldl stepD (some 0)
/-- The text is refused at once: its length, or a zero ahead. -/
def digBad (l : List UInt8) : Bool := !(decide (1 ≤ l.length) && decide (l.length ≤ 4)) || (decide (1 < l.length) && decide (l.head? = some 48))
def digV (l : List UInt8) : Int := if digBad l then -1 else match dgF l with
  | some n => (n : Int)
  | none => -1
theorem dg_take {l : List UInt8} {k : Nat} (h : k < l.length) : dgF (l.take (k + 1)) = stepD (dgF (l.take k)) l[k] := by
  rw [List.take_succ_eq_append_getElem h]; unfold dgF; rw [List.foldl_append]; rfl
theorem dg_none : ∀ (l : List UInt8), l.foldl stepD none = none
  | [] => rfl
  | _ :: l => dg_none l
theorem dg_dead {l : List UInt8} {k : Nat} (h : dgF (l.take k) = none) : dgF l = none := by
  have e : dgF l = (l.drop k).foldl stepD (dgF (l.take k)) := by
    unfold dgF; rw [← List.foldl_append, List.take_append_drop]
  rw [e, h, dg_none]
def limD : Nat → Nat
  | 0 => 0
  | 1 => 9
  | 2 => 99
  | 3 => 999
  | _ => 9999
theorem lim_step {k n d : Nat} (hk : k < 4) (hn : n ≤ limD k) (hd : d ≤ 9) : 10 * n + d ≤ limD (k + 1) := by
  match k, hk with
  | 0, _ => simp [limD] at *; omega
  | 1, _ => simp [limD] at *; omega
  | 2, _ => simp [limD] at *; omega
  | 3, _ => simp [limD] at *; omega
theorem lim_le (k : Nat) : limD k ≤ 9999 := by
  match k with
  | 0 => decide
  | 1 => decide
  | 2 => decide
  | 3 => decide
  | _ + 4 => exact Nat.le_refl _

set_option maxRecDepth 20000 in
set_option maxHeartbeats 1600000 in
theorem sdig_any (s : ByteArray) (hs : s.size ≤ 1048576) (w : World) : Calls Tryd.prog 91 #[.string s] w fun e w' => e = .returned (.int .i64 (digV s.data.toList)) ∧ w = w' := by
  obtain ⟨l, hl⟩ : ∃ l, s.data.toList = l := ⟨_, rfl⟩
  have hlen : l.length = s.size := by rw [← hl, Array.length_toList]; rfl
  have HB := Lib.hid (fun (k : Nat) (hk : k < s.size) (h : k < l.length) => show s[k]'hk = l[k]'h by subst hl; exact byte_at s k hk h)
  rw [hl]
  clear hl
  by_cases h1 : 1 ≤ l.length ∧ l.length ≤ 4
  · have hd1 : decide ((1 : Int) ≤ (s.size : Int)) = true := by simp; omega
    have hd2 : decide ((s.size : Int) ≤ 4) = true := by simp; omega
    have hb0 : (decide ((1 : Int) ≤ (s.size : Int)) && decide ((s.size : Int) ≤ 4)) = true := by rw [hd1, hd2]; rfl
    by_cases h2 : 1 < l.length ∧ l.head? = some 48
    · have HX := Lib.hid (show digV l = -1 by unfold digV digBad; simp [h1.1, h1.2, h2.1, h2.2])
      have h0 : (0 : Nat) < s.size := by omega
      have hq : (((s[0]'h0).toNat : Int) == 48) = true := by
        rw [HB.out 0 h0 (by omega)]
        have : l[0]'(by omega) = 48 := by
          have e := h2.2
          rw [List.head?_eq_getElem?, List.getElem?_eq_getElem (by omega)] at e
          exact Option.some.inj e
        rw [this]; rfl
      have hgt : (1 : Int) < (s.size : Int) := by omega
      clear h2
      go_enter Tryd.func91, Tryd.ntmps91
      go_wp2_with fail
      refine (l1In_any _ _ _ _).mono ?_
      rintro e w1 ⟨rfl, rfl⟩
      rw [hb0]
      go_wp2
      go_ret
      exact ⟨by rw [HX.out]; rfl, rfl⟩
    · have HX := Lib.hid (show digV l = (match dgF l with | some n => (n : Int) | none => -1) by
        have hb : digBad l = false := by
          unfold digBad
          rw [decide_eq_true h1.1, decide_eq_true h1.2]
          by_cases h3 : 1 < l.length
          · have h4 : ¬ l.head? = some 48 := fun h => h2 ⟨h3, h⟩
            rw [decide_eq_false h4]; simp
          · rw [decide_eq_false h3]; rfl
        unfold digV; rw [hb]; rfl)
      have HS := Lib.hid (fun (k : Nat) (h : k < l.length) => dg_take h)
      have HN := Lib.hid (fun (k : Nat) (h : dgF (l.take k) = none) => dg_dead h)
      have hg : (1 : Int) < (s.size : Int) ∧ (∃ h0 : 0 < s.size, (((s[0]'h0).toNat : Int) == 48) = false) ∨ ¬ (1 : Int) < (s.size : Int) := by
        by_cases h3 : 1 < l.length
        · refine .inl ⟨by omega, by omega, ?_⟩
          rw [HB.out 0 (by omega) (by omega), beq_eq_false_iff_ne]
          intro h
          refine h2 ⟨h3, ?_⟩
          rw [List.head?_eq_getElem?, List.getElem?_eq_getElem (by omega)]
          exact congrArg some (UInt8.toNat_inj.1 (by have e : (48 : UInt8).toNat = 48 := rfl; rw [e]; omega))
        · exact .inr (by omega)
      clear h2
      have hl4 := h1.2
      clear h1 hd1 hd2
      rcases hg with ⟨hgt, h0, hq0⟩ | hgt
      all_goals
        go_enter Tryd.func91, Tryd.ntmps91
        go_wp2_with fail
        refine (l1In_any _ _ _ _).mono ?_
        rintro e w1 ⟨rfl, rfl⟩
        rw [hb0]
        go_wp2
        go_loop [3, 4] (fun n x => ∃ k m : Nat, k ≤ l.length ∧ x = .int .i64 k ∧ n = .int .i64 m ∧ dgF (l.take k) = some m ∧ m ≤ limD k) (fun _ x => l.length - (intOf x).toNat)
        case atStart => exact ⟨0, 0, Nat.zero_le _, rfl, rfl, rfl, Nat.le_refl _⟩
        case round =>
          obtain ⟨k, m, hk, rfl, rfl, hdg, hm⟩ := hrel
          have hlim := lim_le k
          by_cases hlt : k < l.length
          · have hks : k < s.size := by omega
            have hsk := HB.out k hks hlt
            have hst := HS.out k hlt
            rw [hdg] at hst
            by_cases hd : 48 ≤ (s[k]'hks).toNat ∧ (s[k]'hks).toNat ≤ 57
            · obtain ⟨d1, d2⟩ := hd
              have hst' := Lib.hid (show dgF (l.take (k + 1)) = some (10 * m + ((s[k]'hks).toNat - 48)) by rw [hst]; unfold stepD; rw [← hsk]; simp only; rw [if_pos ⟨d1, d2⟩])
              have hm' := Lib.hid (lim_step (d := (s[k]'hks).toNat - 48) (show k < 4 by omega) hm (by omega))
              clear hst hsk
              go_wp2
              go_round
              case rel => exact ⟨k + 1, 10 * m + ((s[k]'hks).toNat - 48), by omega, by go_num, by congr 1; omega, hst'.out, hm'.out⟩
              case measure => simp [intOf]; omega
            · have hz := Lib.hid (HN.out (k + 1) (by rw [hst]; unfold stepD; rw [← hsk]; simp only; rw [if_neg hd]))
              have hd' : (s[k]'hks).toNat < 48 ∨ 57 < (s[k]'hks).toNat := by omega
              clear hst hsk hd
              rcases hd' with hd' | hd'
              · go_wp2
                go_ret
                exact ⟨by rw [HX.out, hz.out]; rfl, rfl⟩
              · have hd'' : 48 ≤ (s[k]'hks).toNat := by omega
                go_wp2
                go_ret
                exact ⟨by rw [HX.out, hz.out]; rfl, rfl⟩
          · obtain rfl : k = l.length := by omega
            rw [List.take_length] at hdg
            have hz := Lib.hid hdg
            clear hdg
            go_wp2
            go_ret
            exact ⟨by rw [HX.out, hz.out]; rfl, rfl⟩
  · have HX := Lib.hid (show digV l = -1 by
      unfold digV digBad
      have : (decide (1 ≤ l.length) && decide (l.length ≤ 4)) = false := by
        rw [← Bool.not_eq_true, Bool.and_eq_true]; simpa using h1
      rw [this]; rfl)
    have hb0 : (decide ((1 : Int) ≤ (s.size : Int)) && decide ((s.size : Int) ≤ 4)) = false := by
      rw [← Bool.not_eq_true, Bool.and_eq_true]; simp; omega
    go_enter Tryd.func91, Tryd.ntmps91
    go_wp2_with fail
    refine (l1In_any _ _ _ _).mono ?_
    rintro e w1 ⟨rfl, rfl⟩
    rw [hb0]
    go_wp2
    go_ret
    exact ⟨by rw [HX.out]; rfl, rfl⟩
end Go.Proofs.YtiinifcepcaonaaDoor
