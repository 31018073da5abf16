/- Contracts of impl's chapter 2: keys, talks, made up ones, secrets, how many. -/
import Derived.Test.YtacaeoalplggfacDoorTalkS3
import Derived.Test.YtacaeoalplggfacDoorWalkG
import Derived.Test.YtacaeoalplggfacDoorTalkEq
import Derived.Test.YtacaeoalplggfacDoorPureT2
namespace Go.Proofs.YtacaeoalplggfacDoor
open Go.RowKit

theorem iel_b (g a : Int) (w : World) (G : Gr w) : Calls Tryd.prog 41 #[.int .i64 g, .int .i64 a] w fun e w' => e = .returned (.bool (elB g a)) ∧ Below w.heap.size w w' := (iel_any g a w G).mono fun _ _ ⟨he, m, hw⟩ => ⟨he, by rw [hw]; exact below_drewN (Below.refl _ _) m⟩
theorem iex_b (g n : Int) (w : World) (G : Gr w) : Calls Tryd.prog 42 #[.int .i64 g, .int .i64 n] w fun e w' => e = .returned (.bool (exB g n)) ∧ Below w.heap.size w w' := (iex_any g n w G).mono fun _ _ ⟨he, hw⟩ => ⟨he, by rw [← hw]; exact Below.refl _ _⟩
theorem key_pow {g s : Int} (h : exB g s = true) : keyOf g s = gpow g (bas g) s := by
  obtain ⟨⟨h0, h4⟩, n0, n1⟩ := exB_true.1 h
  obtain ⟨o1, o2⟩ := ord_bd h0 h4
  rw [key_yes h, gpow_yes (bas_el h0 h4) (by omega) (by omega)]; rfl

theorem tok_made {g key s a t : Int} (h1 : elB g key = true) (h2 : exB g a = true) (h3 : exB g t = true) : tokB g key s a t = talkB (sayUp g key a t) a t s a t := by
  cases hs : elB g s
  · have hn : sayUp g key a t ≠ s := fun h => by rw [← h, sayUp_el h1] at hs; cases hs
    simp [talkB, hn, tokB, hs]
  · rw [made_only h1 hs h2 h3]
    simp [talkB, eq_comm]
theorem tok_none {g key s a t : Int} (h : ¬ (elB g key = true ∧ exB g a = true ∧ exB g t = true)) : tokB g key s a t = false := by
  cases hb : tokB g key s a t
  · rfl
  · obtain ⟨x1, _, x2, x3, _⟩ := tok_yes.1 hb
    exact absurd ⟨x1, x2, x3⟩ h

theorem back_bd {g a1 a2 : Int} (e1 : exB g a1 = true) (e2 : exB g a2 = true) (hne : a1 ≠ a2) : 0 ≤ gback g ((a1 - a2) % ord g) ∧ gback g ((a1 - a2) % ord g) < ord g := by
  obtain ⟨⟨g0, g4⟩, b1, b2⟩ := exB_true.1 e1
  obtain ⟨_, b3, b4⟩ := exB_true.1 e2
  obtain ⟨o1, o2⟩ := ord_bd g0 g4
  rcases back_prod (ex_of_mod g0 g4 (a1 - a2)) with ⟨_, e⟩ | ⟨e, e', _⟩
  · exfalso
    obtain ⟨c, hc⟩ := Int.dvd_of_emod_eq_zero e
    by_cases c1 : 0 < c
    · have := Int.mul_le_mul_of_nonneg_left (show (1 : Int) ≤ c by omega) (show 0 ≤ ord g by omega); omega
    · by_cases c2 : c < 0
      · have := Int.mul_le_mul_of_nonneg_left (show (1 : Int) ≤ -c by omega) (show 0 ≤ ord g by omega)
        rw [Int.mul_neg] at this; omega
      · have : c = 0 := by omega
        rw [this] at hc; omega
  · exact ⟨e, e'⟩
theorem ord_of {g : Int} (h0 : 0 ≤ g) (h4 : g < 4) : ∃ q : Nat, ord g = q ∧ 3 ≤ q ∧ q ≤ 23 := by
  obtain ⟨o1, o2⟩ := ord_bd h0 h4
  exact ⟨(ord g).toNat, by omega, by omega, by omega⟩

end Go.Proofs.YtacaeoalplggfacDoor
