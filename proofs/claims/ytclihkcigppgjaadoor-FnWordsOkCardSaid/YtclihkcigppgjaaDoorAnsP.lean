/- The promise of AnswersMany, as plain mathematics: without a solution one question at most is answered; with one all of them, or none. -/
import Derived.Test.YtclihkcigppgjaaDoorAnsI
import Derived.Test.YtclihkcigppgjaaDoorMarkR
import Derived.Test.YtclihkcigppgjaaDoorBPure
namespace Go.Proofs.YtclihkcigppgjaaDoor

theorem anyTo_ex {h : Nat → Bool} : ∀ {n : Nat}, anyTo h n = true → ∃ k, k < n ∧ h k = true
  | 0, e => by simp [anyTo] at e
  | n + 1, e => by
    unfold anyTo at e
    rw [Bool.or_eq_true] at e
    rcases e with e | e
    · obtain ⟨k, hk, e⟩ := anyTo_ex e
      exact ⟨k, by omega, e⟩
    · exact ⟨n, by omega, e⟩
theorem ansTo_zero {h : Nat → Bool} : ∀ {n : Nat}, (∀ a, a < n → h a = false) → ansTo h n = 0
  | 0, _ => rfl
  | n + 1, e => by rw [ansTo_no (e n (by omega))]; exact ansTo_zero fun a ha => e a (by omega)
theorem ansTo_all {h : Nat → Bool} : ∀ {n : Nat}, (∀ a, a < n → h a = true) → ansTo h n = n
  | 0, _ => rfl
  | n + 1, e => by rw [ansTo_yes (e n (by omega)), ansTo_all fun a ha => e a (by omega)]
theorem ansTo_one {h : Nat → Bool} : ∀ {n : Nat}, (∀ a b, a < b → b < n → h a = true → h b = true → False) → ansTo h n ≤ 1
  | 0, _ => by simp [ansTo]
  | n + 1, e => by
    cases hn : h n
    · rw [ansTo_no hn]; exact ansTo_one fun a b h1 h2 => e a b h1 (by omega)
    · rw [ansTo_yes hn, ansTo_zero fun a ha => by
        cases hc : h a
        · rfl
        · exact (e a n ha (by omega) hc hn).elim]
      exact Nat.le_refl _
theorem solTo_has {c : List Int → Bool} {xss : List (List Int)} : ∀ {n k : Nat}, k < n → c (row xss k) = true → row xss k ∈ solTo c xss n
  | 0, k, h, _ => by omega
  | n + 1, k, h, e => by
    by_cases hk : k < n
    · have := solTo_has hk e
      cases hc : c (row xss n)
      · rw [solTo_no hc]; exact this
      · rw [solTo_yes hc]; exact List.mem_append_left _ this
    · obtain rfl : k = n := by omega
      rw [solTo_yes e]; exact List.mem_append_right _ (List.mem_singleton.2 rfl)
theorem solTo_sat {c : List Int → Bool} {xss : List (List Int)} : ∀ {n : Nat} {y : List Int}, y ∈ solTo c xss n → c y = true
  | 0, y, h => by simp [solTo] at h
  | n + 1, y, h => by
    cases hc : c (row xss n)
    · rw [solTo_no hc] at h; exact solTo_sat h
    · rw [solTo_yes hc, List.mem_append] at h
      rcases h with h | h
      · exact solTo_sat h
      · rw [List.mem_singleton.1 h]; exact hc
/-- Which lots are solutions. -/
theorem sols_mem {g : Int} {rows : List (List Int)} {makes es : List Int} (hcl : Cl g rows makes) : es ∈ sols g rows makes ↔ Lot g rows makes es ∧ mkAll g rows es = makes := by
  rw [sols_yes (clB_true.2 hcl), ← solv_true]
  constructor
  · exact solTo_sat
  · intro h
    obtain ⟨k, hk, e⟩ := row_of ((ex_lots hcl).2 (solv_true.1 h).1)
    rw [← e]
    exact solTo_has hk (by rw [e]; exact h)

/-- From the answers to one question, and a solution, answers to each. -/
theorem wok_shift {g : Int} {rows : List (List Int)} {makes says es t : List Int} {a b : Int} (hs : Lot g rows makes es) (he : mkAll g rows es = makes) (h : Wok g rows makes says a t) (hb : exB g b = true) : Wok g rows makes says b (tellsAll g es t (b - a)) := by
  have hl := tellsAll_lot (further := t) hs (b - a)
  refine ⟨hl, h.len, h.el, hb, (wok_log hl h.len h.el hb).2 fun k hk => ?_⟩
  have hlen : (tellsAll g es t (b - a)).length = es.length := tellsTo_len _ _ _ _ _
  have d1 := dotR_lin (g := g) (rows := rows) (k := k) (q := ord g) (c := b - a) (es := t) (fs := es) (hs := tellsAll g es t (b - a)) (by rw [hlen, hs.len, h.lot.len]) hlen.symm (fun j hj => by
    rw [hlen] at hj
    rw [show nth (tellsAll g es t (b - a)) j = _ from tellsTo_nth g es t (b - a) _ j hj]; exact Cg.rem _ _)
  have d2 := (hs.solved.1 he) k hk
  have d3 := (wok_log h.lot h.len h.el h.ex).1 h.same k hk
  refine (d1.trans (Cg.add d3 (d2.mul (b - a)))).trans ⟨0, by grind⟩

section
variable {g : Int} {rows : List (List Int)} {makes says : List Int}
theorem any_wok (hcl : Cl g rows makes) {a : Int} : anyTo (fun k => wokB g rows makes says a (row (lots (ord g).toNat (unk rows)) k)) (lots (ord g).toNat (unk rows)).length = true ↔ ∃ t, Wok g rows makes says a t := by
  constructor
  · intro h
    obtain ⟨k, _, e⟩ := anyTo_ex h
    exact ⟨_, wok_true.1 e⟩
  · rintro ⟨t, ht⟩
    obtain ⟨k, hk, e⟩ := row_of ((ex_lots hcl).2 ht.lot)
    exact anyTo_at hk (by show wokB g rows makes says a _ = true; rw [e]; exact wok_true.2 ht)
theorem ansM_none (h : saysB g rows makes says = true) (h0 : sols g rows makes = []) : ansM g rows makes says ≤ 1 := by
  obtain ⟨hcl, _, _⟩ := saysB_true.1 h
  unfold ansM
  rw [if_pos h]
  have := ansTo_one (h := fun a : Nat => anyTo (fun k => wokB g rows makes says a (row (lots (ord g).toNat (unk rows)) k)) (lots (ord g).toNat (unk rows)).length) (n := (ord g).toNat) fun a b hab _ ha hb => by
    obtain ⟨t1, w1⟩ := (any_wok hcl).1 ha
    obtain ⟨t2, w2⟩ := (any_wok hcl).1 hb
    have := (sols_mem hcl).2 (from_solves w1 w2 (by omega))
    rw [h0] at this
    cases this
  omega
theorem ansM_some (h : saysB g rows makes says = true) (h0 : sols g rows makes ≠ []) : ansM g rows makes says = 0 ∨ ansM g rows makes says = ord g := by
  obtain ⟨hcl, _, _⟩ := saysB_true.1 h
  obtain ⟨o1, _⟩ := ord_bd hcl.g0 hcl.g4
  obtain ⟨es, hes⟩ := List.exists_mem_of_ne_nil _ h0
  obtain ⟨hl, he⟩ := (sols_mem hcl).1 hes
  unfold ansM
  rw [if_pos h]
  by_cases hc : ∃ a t, Wok g rows makes says a t
  · obtain ⟨a, t, ht⟩ := hc
    right
    rw [ansTo_all fun b hb => (any_wok hcl).2 ⟨_, wok_shift hl he ht (exB_true.2 ⟨⟨hcl.g0, hcl.g4⟩, by omega, by omega⟩)⟩]
    omega
  · left
    rw [ansTo_zero fun a _ => by
      cases hh : anyTo (fun k => wokB g rows makes says a (row (lots (ord g).toNat (unk rows)) k)) (lots (ord g).toNat (unk rows)).length
      · rfl
      · exact (hc ⟨a, (any_wok hcl).1 hh⟩).elim]
    rfl
end
end Go.Proofs.YtclihkcigppgjaaDoor
