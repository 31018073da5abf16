/- How many solutions there are: none, or a power of the order. -/
import Derived.Test.YtclihkcigppgjaaDoorAnsP
namespace Go.Proofs.YtclihkcigppgjaaDoor

theorem ansTo_dich {h : Nat → Bool} {q : Nat} (H : ∀ a b, a < q → b < q → a ≠ b → h a = true → h b = true → ∀ c, c < q → h c = true) : ansTo h q ≤ 1 ∨ ∀ c, c < q → h c = true := by
  by_cases hc : ∃ a b, a < b ∧ b < q ∧ h a = true ∧ h b = true
  · obtain ⟨a, b, h1, h2, h3, h4⟩ := hc
    exact .inr (H a b (by omega) h2 (by omega) h3 h4)
  · exact .inl (ansTo_one fun a b h1 h2 h3 h4 => hc ⟨a, b, h1, h2, h3, h4⟩)
theorem ansTo_pos {h : Nat → Bool} : ∀ {n k : Nat}, k < n → h k = true → 1 ≤ ansTo h n
  | 0, k, hk, _ => by omega
  | n + 1, k, hk, e => by
    by_cases c : k < n
    · have := ansTo_pos c e
      cases hn : h n
      · rw [ansTo_no hn]; exact this
      · rw [ansTo_yes hn]; omega
    · obtain rfl : k = n := by omega
      rw [ansTo_yes e]; omega
theorem ansTo_add (h : Nat → Bool) (m : Nat) : ∀ n, ansTo h (m + n) = ansTo h m + ansTo (fun k => h (m + k)) n
  | 0 => by simp [ansTo]
  | n + 1 => by
    have ih := ansTo_add h m n
    cases hn : h (m + n)
    · rw [show m + (n + 1) = (m + n) + 1 by omega, ansTo_no hn, ansTo_no (h := fun k => h (m + k)) hn, ih]
    · rw [show m + (n + 1) = (m + n) + 1 by omega, ansTo_yes hn, ansTo_yes (h := fun k => h (m + k)) hn, ih]; omega
def sumTo (f : Nat → Nat) : Nat → Nat
  | 0 => 0
  | n + 1 => sumTo f n + f n
theorem sumTo_mul {f : Nat → Nat} {G : Nat → Bool} {v : Nat} : ∀ {n : Nat}, (∀ x, x < n → f x = if G x then v else 0) → sumTo f n = v * ansTo G n
  | 0, _ => by simp [sumTo, ansTo]
  | n + 1, e => by
    have ih := sumTo_mul (n := n) fun x hx => e x (by omega)
    have hn := e n (by omega)
    unfold sumTo
    cases hG : G n
    · rw [hG] at hn; rw [ansTo_no hG, ih, hn]; simp
    · rw [hG] at hn; rw [ansTo_yes hG, ih, hn, Nat.mul_add]; simp
theorem ansTo_rows (h : Nat → Bool) (q : Nat) : ∀ m, ansTo h (m * q) = sumTo (fun x => ansTo (fun y => h (x * q + y)) q) m
  | 0 => by simp [ansTo, sumTo]
  | m + 1 => by rw [Nat.succ_mul, ansTo_add, ansTo_rows h q m]; rfl
theorem solTo_count {c : List Int → Bool} {xss : List (List Int)} : ∀ n, (solTo c xss n).length = ansTo (fun k => c (row xss k)) n
  | 0 => rfl
  | n + 1 => by
    have ih := solTo_count (c := c) (xss := xss) n
    cases hc : c (row xss n)
    · rw [solTo_no hc, ansTo_no (h := fun k => c (row xss k)) hc, ih]
    · rw [solTo_yes hc, ansTo_yes (h := fun k => c (row xss k)) hc, List.length_append, ih]; rfl

/-- A set of pairs with all lines through its points: as many as none, one, the order, its square. -/
theorem count2 {q : Nat} {h : Nat → Nat → Bool} (q2 : 2 ≤ q)
    (inv : ∀ a b : Nat, a < q → b < q → a ≠ b → ∃ c : Int, Cg q (((a : Int) - b) * c) 1)
    (K : ∀ x y x1 y1 x2 y2 x' y' : Nat, x < q → y < q → x1 < q → y1 < q → x2 < q → y2 < q → x' < q → y' < q → h x y = true → h x1 y1 = true → h x2 y2 = true → ∀ c : Int, Cg q x' (x + c * ((x1 : Int) - x2)) → Cg q y' (y + c * ((y1 : Int) - y2)) → h x' y' = true) :
    ∃ m, sumTo (fun x => ansTo (h x) q) q = 0 ∨ sumTo (fun x => ansTo (h x) q) q = q ^ m := by
  have reach : ∀ a b t d : Nat, a < q → b < q → a ≠ b → ∃ c : Int, Cg q (t : Int) (d + c * ((a : Int) - b)) := fun a b t d ha hb hne => by
    obtain ⟨c, m, hm⟩ := inv a b ha hb hne
    exact ⟨((t : Int) - d) * c, -(((t : Int) - d) * m), by grind⟩
  have hq0 : (0 : Int) < q := by omega
  have modN : ∀ z : Int, ∃ y : Nat, y < q ∧ Cg q (y : Int) z := fun z => ⟨(z % q).toNat, by have := Int.emod_lt_of_pos z hq0; have := Int.emod_nonneg z (show (q : Int) ≠ 0 by omega); omega, by
    have := Int.emod_nonneg z (show (q : Int) ≠ 0 by omega)
    rw [Int.toNat_of_nonneg this]; exact Cg.rem _ _⟩
  obtain ⟨G, hG⟩ : ∃ G : Nat → Bool, (fun x => anyTo (h x) q) = G := ⟨_, rfl⟩
  have hGx : ∀ x, G x = anyTo (h x) q := fun x => by rw [← hG]
  have hGd : ansTo G q ≤ 1 ∨ ansTo G q = q := by
    have := ansTo_dich (h := G) (q := q) fun a b ha hb hne e1 e2 x hx => by
      rw [hGx] at e1 e2 ⊢
      obtain ⟨y1, k1, f1⟩ := anyTo_ex e1
      obtain ⟨y2, k2, f2⟩ := anyTo_ex e2
      obtain ⟨c, hc⟩ := reach b a x a hb ha (fun e => hne e.symm)
      obtain ⟨y, hy, hcy⟩ := modN ((y1 : Int) + c * ((y2 : Int) - y1))
      exact anyTo_at hy (K a y1 b y2 a y1 x y ha k1 hb k2 ha k1 hx hy f1 f2 f1 c hc hcy)
    rcases this with e | e
    · exact .inl e
    · exact .inr (ansTo_all e)
  have fin : ∀ v, (v = 1 ∨ v = q) → (∀ x, x < q → ansTo (h x) q = if G x then v else 0) → ∃ m, sumTo (fun x => ansTo (h x) q) q = 0 ∨ sumTo (fun x => ansTo (h x) q) q = q ^ m := fun v hv hf => by
    rw [sumTo_mul hf]
    have hc : ansTo G q = 0 ∨ ansTo G q = 1 ∨ ansTo G q = q := by omega
    rcases hc with e | e | e <;> rw [e] <;> rcases hv with rfl | rfl
    · exact ⟨0, .inl (by simp)⟩
    · exact ⟨0, .inl (by simp)⟩
    · exact ⟨0, .inr (by simp)⟩
    · exact ⟨1, .inr (by simp)⟩
    · exact ⟨1, .inr (by simp)⟩
    · exact ⟨2, .inr (by rw [Nat.pow_two])⟩
  have no : ∀ x, G x = false → ansTo (h x) q = 0 := fun x hx => ansTo_zero fun y hy => by
    cases hc : h x y
    · rfl
    · rw [hGx, anyTo_at hy hc] at hx; cases hx
  by_cases hA : ∃ x, x < q ∧ ∀ y, y < q → h x y = true
  · obtain ⟨x, hx, hf⟩ := hA
    refine fin q (.inr rfl) fun x' hx' => ?_
    cases hg : G x'
    · rw [no x' hg]; rfl
    · rw [hGx] at hg
      obtain ⟨y', hy', e⟩ := anyTo_ex hg
      rw [ansTo_all fun y hy => ?_]
      · rfl
      · obtain ⟨c, hc⟩ := reach 1 0 y y' (by omega) (by omega) (by omega)
        exact K x' y' x 1 x 0 x' y hx' hy' hx (by omega) hx (by omega) hx' hy e (hf 1 (by omega)) (hf 0 (by omega)) c ⟨0, by grind⟩ hc
  · refine fin 1 (.inl rfl) fun x hx => ?_
    have hd := ansTo_dich (h := h x) (q := q) fun a b ha hb hne e1 e2 y hy => by
      obtain ⟨c, hc⟩ := reach b a y a hb ha (fun e => hne e.symm)
      exact K x a x b x a x y hx ha hx hb hx ha hx hy e1 e2 e1 c ⟨0, by grind⟩ hc
    have h1 := hd.resolve_right fun e => hA ⟨x, hx, e⟩
    cases hg : G x
    · rw [no x hg]; rfl
    · rw [hGx] at hg
      obtain ⟨y, hy, e⟩ := anyTo_ex hg
      have := ansTo_pos hy e
      simp; omega
end Go.Proofs.YtclihkcigppgjaaDoor
