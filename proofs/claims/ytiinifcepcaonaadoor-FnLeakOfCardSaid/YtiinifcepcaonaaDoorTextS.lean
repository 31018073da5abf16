/- The texts of numbers and talks: spec's. -/
import Derived.Test.YtiinifcepcaonaaDoorBTalk
import Derived.Test.YtiinifcepcaonaaDoorRegionG
import Derived.Lib.ItoaNum
import Derived.Laws.IdiomStrings
namespace Go.Proofs.YtiinifcepcaonaaDoor
open Go.RowKit

def numT (n : Nat) : ByteArray := ⟨(Lib.decDigits n).toArray⟩
def digT (n : Nat) : ByteArray := ⟨#[UInt8.ofNat (48 + n)]⟩
theorem numT_one {n : Nat} (h : n < 10) : numT n = digT n := by unfold numT digT; rw [Lib.decDigits_one h]
theorem conv_byte (d : Nat) (hd : d < 10) (w : World) (a : Addr) (ha : w.cell? a = some (.int .u8 (48 + (d : Int)))) :
    (convert 41 9 (.slice (some a) 1 1)).run Tryd.prog w = .ok (.string (digT d)) w := by
  obtain ⟨b, hb⟩ : ∃ b, 48 + d = b := ⟨_, rfl⟩
  have hb2 : b < 256 := by omega
  unfold digT
  rw [hb]
  rw [show 48 + (d : Int) = (b : Int) by omega] at ha
  have h := run_convert_bytes_back (P := Tryd.prog) w 41 9 5 a 1 [UInt8.ofNat b] Tryd.underlying41 Tryd.underlying5 Tryd.underlying9 (fun j hj => by
    obtain rfl : j = 0 := by simpa using hj
    have e : a.add 0 = a := by unfold Addr.add; split <;> simp_all
    rw [e, ha]
    simp [Nat.mod_eq_of_lt hb2])
  simpa using h
set_option maxRecDepth 20000 in
theorem snum_small (n : Nat) (hn : n < 10) (w : World) : Calls Tryd.prog 92 #[.int .i64 n] w fun e w' => e = .returned (.string (numT n)) ∧ Below w.heap.size w w' := by
  have HX := Lib.hid (numT_one hn)
  have hcv := conv_byte n hn (w.alloc (.cells #[.int .u8 (48 + (n : Int))] 5)) ⟨w.heap.size, 0, none⟩ (by rw [World.cell?_alloc_at _ _ _ _ rfl]; rfl)
  go_enter Tryd.func92, Tryd.ntmps92
  go_wp2
  go_ret
  exact ⟨by rw [HX.out]; rfl, below_alloc _ _⟩
/-- Later than w0; the byte's block: not yet, made. -/
def Nz (w0 : World) (x : Int) : Option Nat → World → Prop
  | none, w => Below w0.heap.size w0 w
  | some b, w => Below w0.heap.size w0 w ∧ b < w.heap.size ∧ w.cell? ⟨b, 0, none⟩ = some (.int .u8 x)
theorem Nz.later {w0 w : World} {x : Int} {z : Option Nat} (h : Nz w0 x z w) : Below w0.heap.size w0 w := by
  match z, h with
  | none, h => exact h
  | some _, h => exact h.1
theorem Nz.on {w0 w w' : World} {x : Int} {z : Option Nat} (h : Hid (Nz w0 x z w)) (hb : Below w.heap.size w w') : Hid (Nz w0 x z w') := by
  have hl := h.out.later.trans (hb.mono h.out.later.size)
  match z, h with
  | none, _ => exact Lib.hid hl
  | some b, h => exact Lib.hid ⟨hl, Nat.lt_of_lt_of_le h.out.2.1 hb.size, (hb.cell (p := ⟨b, 0, none⟩) h.out.2.1).trans h.out.2.2⟩
theorem numT_two {n : Nat} (h1 : ¬ n < 10) (h2 : n < 100) : numT n = numT (n / 10) ++ digT (n % 10) := by
  rw [numT_one (show n / 10 < 10 by omega)]
  unfold numT digT; rw [Lib.decDigits_two h1 h2]; rfl
set_option maxRecDepth 20000 in
theorem snum_any (n : Nat) (hn : n < 100) (w : World) : Calls Tryd.prog 92 #[.int .i64 n] w fun e w' => e = .returned (.string (numT n)) ∧ Below w.heap.size w w' := by
  by_cases h1 : n < 10
  · exact snum_small n h1 w
  · have HX := Lib.hid (numT_two h1 hn)
    obtain ⟨q, hq⟩ : ∃ q, n / 10 = q := ⟨_, rfl⟩
    obtain ⟨r, hr⟩ : ∃ r, n % 10 = r := ⟨_, rfl⟩
    have hq10 : q < 10 := by omega
    have hr10 : r < 10 := by omega
    have hq1 : (n : Int).tdiv 10 = (q : Int) := by rw [Int.tdiv_eq_ediv_of_nonneg (by omega)]; omega
    have hr1 : (n : Int).tmod 10 = (r : Int) := by rw [Int.tmod_eq_emod_of_nonneg (by omega)]; omega
    rw [hq, hr] at HX
    have HR := Lib.hid (show (n : Int) % 10 = (r : Int) by omega)
    have HQ := Lib.hid (show (n : Int) / 10 = (q : Int) by omega)
    clear hq hr
    have hcv := conv_byte r hr10
    have hsz := (show (numT q).size = 1 by rw [numT_one hq10]; rfl)
    have hsd := (show (digT r).size = 1 from rfl)
    go_enter Tryd.func92, Tryd.ntmps92
    go_wp2_with fail
    apply wp_region_G (n := 7) (S := fun k => k == 7 || k == 8 || k == 9) (C := fun z w' => Hid (Nz w (48 + (r : Int)) z w')) none
    · kernel_rfl
    · kernel_rfl
    · kernel_rfl
    · rfl
    · exact Lib.hid (Below.refl _ _).drew
    · intro z
      dsimp only [List.take]
      repeat (first | go_big_quiet_skip | (go_big_quiet_want; go_big_quiet_op; first | go_big_quiet_on | (refine ⟨_, fun _ _ => rfl, ?_⟩; go_big_quiet_on)))
      go_big_quiet_want
      go_big_quiet_op
      go_big_quiet_call ((intro hw; exact (snum_small q hq10 _).mono fun _ _ ⟨he, hb⟩ => ⟨he, Nz.on hw hb⟩))
      repeat (first | go_big_quiet_skip | (go_big_quiet_want; go_big_quiet_op; first | go_big_quiet_on | (refine ⟨_, fun _ _ => rfl, ?_⟩; go_big_quiet_on)))
      exact wpQuiet_nil rfl
    refine wpAnyG_special (i := 7) (d := some 17) rfl (by kernel_rfl) rfl rfl rfl fun wa ha0 => ?_
    refine ⟨.slice (some ⟨wa.heap.size, 0, none⟩) 1 1, wa.alloc (.cells #[.int .u8 (48 + (r : Int))] 5), some wa.heap.size, .inl ?_, Lib.hid ⟨ha0.out.alloc ha0.out.size _, by simp, by rw [World.cell?_alloc_at _ _ _ _ rfl]; rfl⟩, ?_⟩
    · kernel_rfl
    refine wpAnyG_special (i := 8) (d := some 18) rfl (by kernel_rfl) rfl rfl rfl fun ws hs0 => ?_
    refine ⟨.string (digT r), ws, some wa.heap.size, .inl ?_, hs0, ?_⟩
    · have k := hcv ws ⟨wa.heap.size, 0, none⟩ hs0.out.2.2
      simp [go_sem, Act.put, k]
    refine wpAnyG_special (i := 9) (d := some 19) rfl (by kernel_rfl) rfl rfl rfl fun wt ht0 => ?_
    refine ⟨.string (numT q ++ digT r), wt, some wa.heap.size, .inl ?_, ht0, ?_⟩
    · simp [go_sem, Act.put, hsz, hsd]
    refine wpAnyG_assign (i := 10) (d := some 2) (.tmp 19) rfl (by kernel_rfl) rfl rfl rfl rfl ⟨by kernel_rfl, fun wz hz => ?_⟩
    simp only [Act.put, Act.eval]
    go_wp2
    go_ret
    exact ⟨by rw [HX.out]; rfl, hz.out.1⟩
end Go.Proofs.YtiinifcepcaonaaDoor
