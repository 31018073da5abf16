/- Numbers read, texts cut at a comma: impl's. -/
import Derived.Test.YtacaeoalplggfacDoorTextT
import Derived.Lib.AtoiAll
import Derived.Lib.CutLaws
import Derived.Lib.AtoiErrMem
import Derived.Lib.IndexBytes
namespace Go.Proofs.YtacaeoalplggfacDoor
open Go.RowKit

theorem atoi_one : ∀ d ∈ List.range 10, Lib.atoiAll [UInt8.ofNat (48 + d)] = .ok (d : Int) := by decide +kernel
theorem atoi_two : ∀ q ∈ List.range 10, ∀ r ∈ List.range 10, Lib.atoiAll [UInt8.ofNat (48 + q), UInt8.ofNat (48 + r)] = .ok ((10 * q + r : Nat) : Int) := by decide +kernel
theorem digit_ne : ∀ d ∈ List.range 10, UInt8.ofNat (48 + d) ≠ 44 := by decide +kernel
theorem atoi_num {n : Nat} (h : n < 100) : Lib.atoiAll (numT n).data.toList = .ok (n : Int) := by
  unfold numT
  by_cases h1 : n < 10
  · rw [Lib.decDigits_one h1]; exact atoi_one n (List.mem_range.2 h1)
  · rw [Lib.decDigits_two h1 h]
    have := atoi_two (n / 10) (List.mem_range.2 (by omega)) (n % 10) (List.mem_range.2 (by omega))
    rwa [show 10 * (n / 10) + n % 10 = n by omega] at this
theorem num_ne {n : Nat} (h : n < 100) : ∀ c ∈ Lib.decDigits n, c ≠ 44 := by
  by_cases h1 : n < 10
  · rw [Lib.decDigits_one h1]; intro c hc
    rw [List.mem_singleton] at hc; rw [hc]; exact digit_ne n (List.mem_range.2 h1)
  · rw [Lib.decDigits_two h1 h]; intro c hc
    rcases List.mem_cons.1 hc with rfl | hc
    · exact digit_ne _ (List.mem_range.2 (by omega))
    · rw [List.mem_singleton] at hc; rw [hc]; exact digit_ne _ (List.mem_range.2 (by omega))
theorem idx_comma : ∀ (l r : List UInt8), (∀ c ∈ l, c ≠ 44) → Lib.indexByte (l ++ 44 :: r) 44 = l.length
  | [], r, _ => by simp [Lib.indexByte]
  | b :: l, r, h => by
    have hb : (b == 44) = false := by simpa using h b (by simp)
    have ih := idx_comma l r (fun c hc => h c (List.mem_cons_of_mem _ hc))
    simp only [List.cons_append, Lib.indexByte, hb, ih]
    have : ((l.length : Int) == -1) = false := by simp
    simp [this]
theorem cut_comma (l r : List UInt8) (h : ∀ c ∈ l, c ≠ 44) : Lib.cut (l ++ 44 :: r) [44] = (l, r, true) := by
  unfold Lib.cut
  rw [Lib.index_one, idx_comma l r h, if_pos (by omega)]
  simp

theorem numIn_ok (n : Nat) (h : n < 100) (w : World) : Calls Tryd.prog 29 #[.string (numT n)] w fun e w' => e = .returned (.int .i64 n) ∧ Below w.heap.size w w' := by
  have hz := numT_size h
  have hv := atoi_num h
  obtain ⟨s, hs⟩ : ∃ s, numT n = s := ⟨_, rfl⟩
  rw [hs] at hz hv ⊢
  clear hs
  go_enter Tryd.func29, Tryd.ntmps29
  go_wp2_with fail
  refine (Tryd.strconv_Atoi_ok s (by omega) _ hv _).mono ?_
  rintro e w1 ⟨rfl, hw⟩
  have hb : Below w.heap.size w w1 := by
    rcases hw with rfl | ⟨t, rfl⟩
    · exact Below.refl _ _
    · exact Lib.bytesWorld_below _ _ _
  clear hw
  go_wp2
  go_ret
  exact ⟨rfl, hb⟩

def cutA (s : ByteArray) : ByteArray := ⟨(Lib.cut s.data.toList [44]).1.toArray⟩
def cutZ (s : ByteArray) : ByteArray := ⟨(Lib.cut s.data.toList [44]).2.1.toArray⟩
def cutF (s : ByteArray) : Bool := (Lib.cut s.data.toList [44]).2.2
theorem lcut_any (s : ByteArray) (hs : s.size < 4294967281) (w : World) : Calls Tryd.prog 46 #[.string s, .string ⟨#[44]⟩] w fun e w' => e = .returned (.tuple #[.string (cutA s), .string (cutZ s), .bool (cutF s)]) ∧ ∃ n, w' = w.drewN n := by
  rcases Lib.indexB_cases s ⟨#[44]⟩ with hix | ⟨i, hix, hroom⟩
  · obtain ⟨e1, e2, e3⟩ := Lib.cutB_miss s ⟨#[44]⟩ hix
    have HX : Hid (cutA s = s ∧ cutZ s = ⟨#[]⟩ ∧ cutF s = false) := Lib.hid ⟨e1, e2, e3⟩
    have hi : Lib.indexByte s.data.toList 44 = -1 := by rw [← Lib.index_one]; exact hix
    clear e1 e2 e3 hix
    go_enter Tryd.func46, Tryd.ntmps46
    go_wp2_with fail
    refine (Tryd.stringslite_Index_one s 44 _).mono ?_
    rintro e w1 ⟨rfl, rfl⟩
    rw [hi]
    go_wp2
    go_ret3
    exact ⟨by rw [HX.out.1, HX.out.2.1, HX.out.2.2]; rfl, 0, rfl⟩
  · obtain ⟨e1, e2, e3⟩ := Lib.cutB_hit s ⟨#[44]⟩ i hix
    have hi : Lib.indexByte s.data.toList 44 = i := by rw [← Lib.index_one]; exact hix
    have c1 : (0 : Int) ≤ ↑i := by omega
    have c2 : (↑i : Int) ≤ ↑s.size := by omega
    have c3 : (0 : Int) ≤ ↑i + 1 := by omega
    have c4 : (↑i + 1 : Int) ≤ ↑s.size := by rw [show (⟨#[44]⟩ : ByteArray).size = 1 from rfl] at hroom; omega
    unfold cutA cutZ cutF
    rw [e1, e2, e3]
    clear e1 e2 e3 hix hroom
    go_enter Tryd.func46, Tryd.ntmps46
    go_wp2_with fail
    refine (Tryd.stringslite_Index_one s 44 _).mono ?_
    rintro e w1 ⟨rfl, rfl⟩
    rw [hi]
    go_wp2_with fail
    go_region
    go_wp2
    go_ret3
    exact ⟨rfl, 1, rfl⟩
theorem cut_any (s : ByteArray) (hs : s.size < 4294967281) (w : World) : Calls Tryd.prog 28 #[.string s, .string ⟨#[44]⟩] w fun e w' => e = .returned (.tuple #[.string (cutA s), .string (cutZ s), .bool (cutF s)]) ∧ ∃ n, w' = w.drewN n := by
  go_enter Tryd.func28, Tryd.ntmps28
  go_wp2_with fail
  refine (lcut_any s hs _).mono ?_
  rintro e w1 ⟨rfl, n, rfl⟩
  go_wp2
  go_ret3
  exact ⟨rfl, n, rfl⟩
theorem cut_num (n : Nat) (h : n < 100) (r : ByteArray) : cutA (numT n ++ ⟨#[44]⟩ ++ r) = numT n ∧ cutZ (numT n ++ ⟨#[44]⟩ ++ r) = r := by
  have e : (numT n ++ (⟨#[44]⟩ : ByteArray) ++ r).data.toList = Lib.decDigits n ++ 44 :: r.data.toList := by
    simp [numT, ByteArray.data_append]
  unfold cutA cutZ
  rw [e, cut_comma _ _ (num_ne h)]
  exact ⟨rfl, rfl⟩
end Go.Proofs.YtacaeoalplggfacDoor
