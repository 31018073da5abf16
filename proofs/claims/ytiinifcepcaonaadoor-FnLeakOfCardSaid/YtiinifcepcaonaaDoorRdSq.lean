/- spec.ReadTalk. -/
import Derived.Test.YtiinifcepcaonaaDoorReadJ
import Derived.Test.YtiinifcepcaonaaDoorDigS
import Derived.Test.YtiinifcepcaonaaDoorDrTq
namespace Go.Proofs.YtiinifcepcaonaaDoor
open Go.RowKit

theorem fold_size : ∀ (l : List UInt8) (o : List (List UInt8)) (c : List UInt8) (n : Nat), (∀ p ∈ o, p.length ≤ n) → c.length ≤ n → (∀ p ∈ (l.foldl stepC (o, c)).1, p.length ≤ n + l.length) ∧ (l.foldl stepC (o, c)).2.length ≤ n + l.length
  | [], _, _, _, h1, h2 => ⟨h1, h2⟩
  | b :: l, o, c, n, h1, h2 => by
    rw [List.foldl_cons, List.length_cons, show n + (l.length + 1) = (n + 1) + l.length by omega]
    by_cases hb : b = 44
    · have e : stepC (o, c) b = (o ++ [c], []) := by unfold stepC; rw [if_pos hb]
      rw [e]
      refine fold_size l _ _ (n + 1) (fun p hp => ?_) (Nat.zero_le _)
      rcases List.mem_append.1 hp with hp | hp
      · exact Nat.le_succ_of_le (h1 p hp)
      · rw [List.mem_singleton] at hp; rw [hp]; exact Nat.le_succ_of_le h2
    · have e : stepC (o, c) b = (o, c ++ [b]) := by unfold stepC; rw [if_neg hb]
      rw [e]
      refine fold_size l _ _ (n + 1) (fun p hp => Nat.le_succ_of_le (h1 p hp)) ?_
      rw [List.length_append]; exact Nat.succ_le_succ h2
theorem words_size {l p : List UInt8} (hp : p ∈ wordsC l) : p.length ≤ l.length := by
  obtain ⟨h1, h2⟩ := fold_size l [] [] 0 (fun p hp => by cases hp) (Nat.le_refl _)
  rw [Nat.zero_add] at h1 h2
  rcases List.mem_append.1 hp with hp | hp
  · exact h1 p hp
  · rw [List.mem_singleton] at hp; rw [hp]; exact h2
theorem fold_plain : ∀ (l : List UInt8) (o : List (List UInt8)) (c : List UInt8), (∀ b ∈ l, b ≠ 44) → l.foldl stepC (o, c) = (o, c ++ l)
  | [], _, _, _ => by rw [List.append_nil]; rfl
  | b :: l, o, c, h => by
    have e : stepC (o, c) b = (o, c ++ [b]) := by unfold stepC; rw [if_neg (h b (List.mem_cons_self ..))]
    rw [List.foldl_cons, e, fold_plain l _ _ (fun x hx => h x (List.mem_cons_of_mem _ hx)), List.append_assoc]; rfl
theorem words_three (a b c : List UInt8) (ha : ∀ x ∈ a, x ≠ 44) (hb : ∀ x ∈ b, x ≠ 44) (hc : ∀ x ∈ c, x ≠ 44) : wordsC (a ++ 44 :: (b ++ 44 :: c)) = [a, b, c] := by
  have s44 : ∀ o k, stepC (o, k) 44 = (o ++ [k], []) := fun o k => by unfold stepC; rw [if_pos rfl]
  unfold wordsC stC
  rw [List.foldl_append, fold_plain a _ _ ha, List.foldl_cons, s44, List.foldl_append, fold_plain b _ _ hb, List.foldl_cons, s44, fold_plain c _ _ hc]
  simp
theorem dig_one : ∀ d ∈ List.range 10, digV [UInt8.ofNat (48 + d)] = (d : Int) := by decide +kernel
theorem dig_two : ∀ q ∈ List.range 10, ∀ r ∈ List.range 10, 1 ≤ q → digV [UInt8.ofNat (48 + q), UInt8.ofNat (48 + r)] = ((10 * q + r : Nat) : Int) := by decide +kernel
theorem dig_num {n : Nat} (h : n < 100) : digV (Lib.decDigits n) = n := by
  by_cases h1 : n < 10
  · rw [Lib.decDigits_one h1]; exact dig_one n (List.mem_range.2 h1)
  · rw [Lib.decDigits_two h1 h, dig_two (n / 10) (List.mem_range.2 (by omega)) (n % 10) (List.mem_range.2 (by omega)) (by omega)]
    omega

/-- Later than w6; the box that the region makes: not yet, made, written. -/
def Gb (w6 : World) (x y v : Int) : Option (Nat × Bool) → World → Prop
  | none, w => Below w6.heap.size w6 w
  | some (b, false), w => Below w6.heap.size w6 w ∧ w6.heap.size ≤ b ∧ BoxT w b 0 0 0
  | some (b, true), w => Below w6.heap.size w6 w ∧ w6.heap.size ≤ b ∧ BoxT w b x y v
theorem Gb.later {w6 w : World} {x y v : Int} {z : Option (Nat × Bool)} (h : Gb w6 x y v z w) : Below w6.heap.size w6 w := by
  match z, h with
  | none, h => exact h
  | some (b, false), h => exact h.1
  | some (b, true), h => exact h.1
theorem Gb.on {w6 w w' : World} {x y v : Int} {z : Option (Nat × Bool)} (h : Hid (Gb w6 x y v z w)) (hb : Below w.heap.size w w') : Hid (Gb w6 x y v z w') := by
  have hl := h.out.later.trans (hb.mono h.out.later.size)
  match z, h with
  | none, _ => exact Lib.hid hl
  | some (b, false), h => exact Lib.hid ⟨hl, h.out.2.1, (hb.block b h.out.2.2.lt).trans h.out.2.2⟩
  | some (b, true), h => exact Lib.hid ⟨hl, h.out.2.1, (hb.block b h.out.2.2.lt).trans h.out.2.2⟩

/-- The three words of a text, as the walk finds them. -/
theorem words_cells {w : World} {B : Nat} {v : Value} {p0 p1 p2 : List UInt8} (h : OwnS w B v [p0, p1, p2]) :
    ∃ gb cap, v = .slice (some ⟨gb, 0, none⟩) 3 cap ∧ gb < w.heap.size ∧ w.cell? ⟨gb, 0, none⟩ = some (bytesV p0) ∧ w.cell? ⟨gb, 1, none⟩ = some (bytesV p1) ∧ w.cell? ⟨gb, 2, none⟩ = some (bytesV p2) := by
  have hc := @World.ownsRow.cells _ _ _ _ _ _ _ h
  have hlt := h.lt
  rcases h.2 with ⟨rfl, hn⟩ | ⟨g, cap, cur, rfl, _, _, _, _, _, _⟩
  · simp at hn
  · have hadd : ∀ j, (⟨g, 0, none⟩ : Addr).add j = ⟨g, j, none⟩ := fun j => by unfold Addr.add; split <;> simp_all
    refine ⟨g, cap, rfl, (hlt g rfl).2, ?_, ?_, ?_⟩
    · have := hc rfl 0 (bytesV p0) rfl; rwa [hadd] at this
    · have := hc rfl 1 (bytesV p1) rfl; rwa [hadd] at this
    · have := hc rfl 2 (bytesV p2) rfl; rwa [hadd] at this

set_option maxHeartbeats 1600000 in
theorem sread_long (g : Int) (s : ByteArray) (hs : s.size ≤ 1048576) (hw : (wordsC s.data.toList).length ≠ 3) (w : World) : Calls Tryd.prog 84 #[.int .i64 g, .string s] w fun e w' => e = .returned (.tuple #[.agg #[.int .i64 0, .int .i64 0, .int .i64 0], .bool false]) ∧ Below w.heap.size w w' := by
  have hq : (((wordsC s.data.toList).length : Int) != 3) = true := by rw [bne_iff_ne]; omega
  obtain ⟨ws, hws⟩ : ∃ ws, wordsC s.data.toList = ws := ⟨_, rfl⟩
  go_enter Tryd.func84, Tryd.ntmps84
  go_wp2_with fail
  obtain ⟨w0, hw0⟩ : ∃ wz, wz = w.alloc (.cells #[.int .i64 0, .int .i64 0, .int .i64 0] 45) := ⟨_, rfl⟩
  have HB0 : Hid (Below (w.heap.size + 1) (w.alloc (.cells #[.int .i64 0, .int .i64 0, .int .i64 0] 45)) w0) := Lib.hid (by rw [hw0]; exact Below.refl _ _)
  rw [← hw0]
  refine (scut_any s hs _).mono ?_
  rintro e w1 ⟨v, rfl, hown, hb⟩
  have HB1 := Lib.hid (box_on HB0.out hb)
  clear hb hw0
  rw [hws] at hown hq
  obtain ⟨a, c, rfl⟩ : ∃ a c, v = .slice a ws.length c := by
    rcases hown.2 with ⟨rfl, hn⟩ | ⟨g, cap, cur, rfl, _⟩
    · exact ⟨_, _, by rw [hn]⟩
    · exact ⟨_, _, rfl⟩
  clear hown
  obtain ⟨⟨c0, c1, c2⟩, k0, k1, k2, hzz⟩ := box3 HB1.out
  go_wp2
  refine bodyPost_ret (v := .tuple #[.agg #[.int .i64 0, .int .i64 0, .int .i64 0], .bool false]) ?_ rfl ⟨rfl, ?_⟩
  · simp [results, Tryd.results84, go_sem, c0, c1, c2]
  · exact (((box_end HB1.out).setCell (Nat.le_refl _) _).setCell (Nat.le_refl _) _).setCell (Nat.le_refl _) _
set_option maxRecDepth 20000 in
set_option maxHeartbeats 1600000 in
theorem sread_yes (g : Int) (s : ByteArray) (hs : s.size ≤ 1048576) (p0 p1 p2 : List UInt8) (hw : wordsC s.data.toList = [p0, p1, p2]) (ht : textOf g (digV p0) (digV p1) (digV p2) = s) (w : World) : Calls Tryd.prog 84 #[.int .i64 g, .string s] w fun e w' => e = .returned (.tuple #[.agg #[.int .i64 (digV p0), .int .i64 (digV p1), .int .i64 (digV p2)], .bool true]) ∧ Below w.heap.size w w' := by
  have e1 : ((textOf g (digV p0) (digV p1) (digV p2)).toList == s.toList) = true := by rw [ht]; exact beq_self_eq_true _
  have hlen : s.data.toList.length = s.size := by rw [Array.length_toList]; rfl
  have z0 : (⟨p0.toArray⟩ : ByteArray).size ≤ 1048576 := by have h := words_size (l := s.data.toList) (p := p0) (by rw [hw]; simp); exact Nat.le_trans h (by omega)
  have z1 : (⟨p1.toArray⟩ : ByteArray).size ≤ 1048576 := by have h := words_size (l := s.data.toList) (p := p1) (by rw [hw]; simp); exact Nat.le_trans h (by omega)
  have z2 : (⟨p2.toArray⟩ : ByteArray).size ≤ 1048576 := by have h := words_size (l := s.data.toList) (p := p2) (by rw [hw]; simp); exact Nat.le_trans h (by omega)
  clear hlen
  go_enter Tryd.func84, Tryd.ntmps84
  go_wp2_with fail
  obtain ⟨w0, hw0⟩ : ∃ wz, wz = w.alloc (.cells #[.int .i64 0, .int .i64 0, .int .i64 0] 45) := ⟨_, rfl⟩
  have HB0 : Hid (Below (w.heap.size + 1) (w.alloc (.cells #[.int .i64 0, .int .i64 0, .int .i64 0] 45)) w0) := Lib.hid (by rw [hw0]; exact Below.refl _ _)
  rw [← hw0]
  refine (scut_any s hs _).mono ?_
  rintro e w1 ⟨v, rfl, hown, hb⟩
  have HB1 := Lib.hid (box_on HB0.out hb)
  clear hb hw0
  rw [hw] at hown
  obtain ⟨gb, cap, rfl, hgb, k0, k1, k2⟩ := words_cells hown
  clear hown
  go_wp2_with fail
  apply wp_region_G (n := 13) (S := fun k => k == 13 || k == 14) (C := fun z w' => Hid (Gb w1 (digV p0) (digV p1) (digV p2) z w')) none
  · kernel_rfl
  · kernel_rfl
  · kernel_rfl
  · rfl
  · exact Lib.hid (Below.refl _ _).drew
  · intro z
    dsimp only [List.take]
    repeat (first | go_big_quiet_skip | (go_big_quiet_want; go_big_quiet_op; first | go_big_quiet_on | (refine ⟨_, fun _ _ => rfl, ?_⟩; go_big_quiet_on)))
    go_big_quiet_want
    go_big_quiet_op
    refine ⟨.string ⟨p0.toArray⟩, fun w' hw' => ?_, ?_⟩
    · have q := ((hw'.out.later.cell (p := ⟨gb, 0, none⟩) hgb).trans k0)
      unfold bytesV at q
      simp [go_sem, q]
    go_big_quiet_on
    repeat (first | go_big_quiet_skip | (go_big_quiet_want; go_big_quiet_op; first | go_big_quiet_on | (refine ⟨_, fun _ _ => rfl, ?_⟩; go_big_quiet_on)))
    go_big_quiet_want
    go_big_quiet_op
    go_big_quiet_call ((intro hw; exact (sdig_any ⟨p0.toArray⟩ z0 _).mono fun _ _ ⟨he, hb⟩ => ⟨he, by rw [← hb]; exact hw⟩))
    repeat (first | go_big_quiet_skip | (go_big_quiet_want; go_big_quiet_op; first | go_big_quiet_on | (refine ⟨_, fun _ _ => rfl, ?_⟩; go_big_quiet_on)))
    go_big_quiet_want
    go_big_quiet_op
    refine ⟨.string ⟨p1.toArray⟩, fun w' hw' => ?_, ?_⟩
    · have q := ((hw'.out.later.cell (p := ⟨gb, 1, none⟩) hgb).trans k1)
      unfold bytesV at q
      simp [go_sem, q]
    go_big_quiet_on
    repeat (first | go_big_quiet_skip | (go_big_quiet_want; go_big_quiet_op; first | go_big_quiet_on | (refine ⟨_, fun _ _ => rfl, ?_⟩; go_big_quiet_on)))
    go_big_quiet_want
    go_big_quiet_op
    go_big_quiet_call ((intro hw; exact (sdig_any ⟨p1.toArray⟩ z1 _).mono fun _ _ ⟨he, hb⟩ => ⟨he, by rw [← hb]; exact hw⟩))
    repeat (first | go_big_quiet_skip | (go_big_quiet_want; go_big_quiet_op; first | go_big_quiet_on | (refine ⟨_, fun _ _ => rfl, ?_⟩; go_big_quiet_on)))
    go_big_quiet_want
    go_big_quiet_op
    refine ⟨.string ⟨p2.toArray⟩, fun w' hw' => ?_, ?_⟩
    · have q := ((hw'.out.later.cell (p := ⟨gb, 2, none⟩) hgb).trans k2)
      unfold bytesV at q
      simp [go_sem, q]
    go_big_quiet_on
    repeat (first | go_big_quiet_skip | (go_big_quiet_want; go_big_quiet_op; first | go_big_quiet_on | (refine ⟨_, fun _ _ => rfl, ?_⟩; go_big_quiet_on)))
    go_big_quiet_want
    go_big_quiet_op
    go_big_quiet_call ((intro hw; exact (sdig_any ⟨p2.toArray⟩ z2 _).mono fun _ _ ⟨he, hb⟩ => ⟨he, by rw [← hb]; exact hw⟩))
    repeat (first | go_big_quiet_skip | (go_big_quiet_want; go_big_quiet_op; first | go_big_quiet_on | (refine ⟨_, fun _ _ => rfl, ?_⟩; go_big_quiet_on)))
    exact wpQuiet_nil rfl
  refine wpAnyG_special (i := 13) (d := some 7) rfl (by kernel_rfl) rfl rfl rfl fun wa ha0 => ?_
  refine ⟨.pointer (some ⟨wa.heap.size, 0, none⟩), wa.alloc (.cells #[.int .i64 0, .int .i64 0, .int .i64 0] 45), some (wa.heap.size, false), .inl ?_, Lib.hid ⟨ha0.out.alloc ha0.out.size _, ha0.out.size, BoxT.new _ _ _ _⟩, ?_⟩
  · kernel_rfl
  refine wpAnyG_special (i := 14) (d := none) rfl (by kernel_rfl) rfl rfl rfl fun ws hs0 => ?_
  obtain ⟨⟨q0, q1, q2⟩, f0, f1, f2⟩ := BoxT.cells hs0.out.2.2
  refine ⟨undef, ((ws.setCell ⟨wa.heap.size, 0, none⟩ (.int .i64 (digV p0))).setCell ⟨wa.heap.size, 1, none⟩ (.int .i64 (digV p1))).setCell ⟨wa.heap.size, 2, none⟩ (.int .i64 (digV p2)), some (wa.heap.size, true), .inr ⟨?_, rfl⟩,
    Lib.hid ⟨((hs0.out.1.setCell hs0.out.2.1 _).setCell hs0.out.2.1 _).setCell hs0.out.2.1 _, hs0.out.2.1, ((hs0.out.2.2.set0 _).set1 _).set2 _⟩, ?_⟩
  · simp [go_sem, Act.put, q0, q1, q2, f0, f1, f2]
  refine ⟨by kernel_rfl, fun wz hz => ?_⟩
  clear hs0 ha0 q0 q1 q2 f0 f1 f2 k0 k1 k2
  obtain ⟨hz1, hz2, hz3⟩ := hz.out
  clear hz
  have HB2 := Lib.hid (box_on HB1.out hz1)
  have X2 := Lib.hid hz3
  obtain ⟨⟨d0, d1, d2⟩, _⟩ := BoxT.cells hz3
  simp only [Act.put]
  go_wp2_with fail
  refine (stext_any _ _ _ _ _).mono ?_
  rintro e w3 ⟨rfl, hb⟩
  have HB3 := Lib.hid (box_on HB2.out hb)
  have X3 : BoxT w3 wa.heap.size (digV p0) (digV p1) (digV p2) := (hb.block _ X2.out.lt).trans X2.out
  clear hb d0 d1 d2 hz1 hz2 hz3
  obtain ⟨⟨d0, d1, d2⟩, _⟩ := BoxT.cells X3
  clear X3
  obtain ⟨⟨c0, c1, c2⟩, k0, k1, k2, hzz⟩ := box3 HB3.out
  go_wp2
  refine bodyPost_ret (v := .tuple #[.agg #[.int .i64 (digV p0), .int .i64 (digV p1), .int .i64 (digV p2)], .bool true]) ?_ rfl ⟨rfl, ?_⟩
  · simp [results, Tryd.results84, go_sem, c0, c1, c2]
  · exact (((box_end HB3.out).setCell (Nat.le_refl _) _).setCell (Nat.le_refl _) _).setCell (Nat.le_refl _) _
set_option maxRecDepth 20000 in
set_option maxHeartbeats 1600000 in
theorem sread_no (g : Int) (s : ByteArray) (hs : s.size ≤ 1048576) (p0 p1 p2 : List UInt8) (hw : wordsC s.data.toList = [p0, p1, p2]) (ht : textOf g (digV p0) (digV p1) (digV p2) ≠ s) (w : World) : Calls Tryd.prog 84 #[.int .i64 g, .string s] w fun e w' => e = .returned (.tuple #[.agg #[.int .i64 0, .int .i64 0, .int .i64 0], .bool false]) ∧ Below w.heap.size w w' := by
  have e1 : ((textOf g (digV p0) (digV p1) (digV p2)).toList == s.toList) = false := beq_eq_false_iff_ne.2 fun h => ht (bytes_inj h)
  have hlen : s.data.toList.length = s.size := by rw [Array.length_toList]; rfl
  have z0 : (⟨p0.toArray⟩ : ByteArray).size ≤ 1048576 := by have h := words_size (l := s.data.toList) (p := p0) (by rw [hw]; simp); exact Nat.le_trans h (by omega)
  have z1 : (⟨p1.toArray⟩ : ByteArray).size ≤ 1048576 := by have h := words_size (l := s.data.toList) (p := p1) (by rw [hw]; simp); exact Nat.le_trans h (by omega)
  have z2 : (⟨p2.toArray⟩ : ByteArray).size ≤ 1048576 := by have h := words_size (l := s.data.toList) (p := p2) (by rw [hw]; simp); exact Nat.le_trans h (by omega)
  clear hlen
  go_enter Tryd.func84, Tryd.ntmps84
  go_wp2_with fail
  obtain ⟨w0, hw0⟩ : ∃ wz, wz = w.alloc (.cells #[.int .i64 0, .int .i64 0, .int .i64 0] 45) := ⟨_, rfl⟩
  have HB0 : Hid (Below (w.heap.size + 1) (w.alloc (.cells #[.int .i64 0, .int .i64 0, .int .i64 0] 45)) w0) := Lib.hid (by rw [hw0]; exact Below.refl _ _)
  rw [← hw0]
  refine (scut_any s hs _).mono ?_
  rintro e w1 ⟨v, rfl, hown, hb⟩
  have HB1 := Lib.hid (box_on HB0.out hb)
  clear hb hw0
  rw [hw] at hown
  obtain ⟨gb, cap, rfl, hgb, k0, k1, k2⟩ := words_cells hown
  clear hown
  go_wp2_with fail
  apply wp_region_G (n := 13) (S := fun k => k == 13 || k == 14) (C := fun z w' => Hid (Gb w1 (digV p0) (digV p1) (digV p2) z w')) none
  · kernel_rfl
  · kernel_rfl
  · kernel_rfl
  · rfl
  · exact Lib.hid (Below.refl _ _).drew
  · intro z
    dsimp only [List.take]
    repeat (first | go_big_quiet_skip | (go_big_quiet_want; go_big_quiet_op; first | go_big_quiet_on | (refine ⟨_, fun _ _ => rfl, ?_⟩; go_big_quiet_on)))
    go_big_quiet_want
    go_big_quiet_op
    refine ⟨.string ⟨p0.toArray⟩, fun w' hw' => ?_, ?_⟩
    · have q := ((hw'.out.later.cell (p := ⟨gb, 0, none⟩) hgb).trans k0)
      unfold bytesV at q
      simp [go_sem, q]
    go_big_quiet_on
    repeat (first | go_big_quiet_skip | (go_big_quiet_want; go_big_quiet_op; first | go_big_quiet_on | (refine ⟨_, fun _ _ => rfl, ?_⟩; go_big_quiet_on)))
    go_big_quiet_want
    go_big_quiet_op
    go_big_quiet_call ((intro hw; exact (sdig_any ⟨p0.toArray⟩ z0 _).mono fun _ _ ⟨he, hb⟩ => ⟨he, by rw [← hb]; exact hw⟩))
    repeat (first | go_big_quiet_skip | (go_big_quiet_want; go_big_quiet_op; first | go_big_quiet_on | (refine ⟨_, fun _ _ => rfl, ?_⟩; go_big_quiet_on)))
    go_big_quiet_want
    go_big_quiet_op
    refine ⟨.string ⟨p1.toArray⟩, fun w' hw' => ?_, ?_⟩
    · have q := ((hw'.out.later.cell (p := ⟨gb, 1, none⟩) hgb).trans k1)
      unfold bytesV at q
      simp [go_sem, q]
    go_big_quiet_on
    repeat (first | go_big_quiet_skip | (go_big_quiet_want; go_big_quiet_op; first | go_big_quiet_on | (refine ⟨_, fun _ _ => rfl, ?_⟩; go_big_quiet_on)))
    go_big_quiet_want
    go_big_quiet_op
    go_big_quiet_call ((intro hw; exact (sdig_any ⟨p1.toArray⟩ z1 _).mono fun _ _ ⟨he, hb⟩ => ⟨he, by rw [← hb]; exact hw⟩))
    repeat (first | go_big_quiet_skip | (go_big_quiet_want; go_big_quiet_op; first | go_big_quiet_on | (refine ⟨_, fun _ _ => rfl, ?_⟩; go_big_quiet_on)))
    go_big_quiet_want
    go_big_quiet_op
    refine ⟨.string ⟨p2.toArray⟩, fun w' hw' => ?_, ?_⟩
    · have q := ((hw'.out.later.cell (p := ⟨gb, 2, none⟩) hgb).trans k2)
      unfold bytesV at q
      simp [go_sem, q]
    go_big_quiet_on
    repeat (first | go_big_quiet_skip | (go_big_quiet_want; go_big_quiet_op; first | go_big_quiet_on | (refine ⟨_, fun _ _ => rfl, ?_⟩; go_big_quiet_on)))
    go_big_quiet_want
    go_big_quiet_op
    go_big_quiet_call ((intro hw; exact (sdig_any ⟨p2.toArray⟩ z2 _).mono fun _ _ ⟨he, hb⟩ => ⟨he, by rw [← hb]; exact hw⟩))
    repeat (first | go_big_quiet_skip | (go_big_quiet_want; go_big_quiet_op; first | go_big_quiet_on | (refine ⟨_, fun _ _ => rfl, ?_⟩; go_big_quiet_on)))
    exact wpQuiet_nil rfl
  refine wpAnyG_special (i := 13) (d := some 7) rfl (by kernel_rfl) rfl rfl rfl fun wa ha0 => ?_
  refine ⟨.pointer (some ⟨wa.heap.size, 0, none⟩), wa.alloc (.cells #[.int .i64 0, .int .i64 0, .int .i64 0] 45), some (wa.heap.size, false), .inl ?_, Lib.hid ⟨ha0.out.alloc ha0.out.size _, ha0.out.size, BoxT.new _ _ _ _⟩, ?_⟩
  · kernel_rfl
  refine wpAnyG_special (i := 14) (d := none) rfl (by kernel_rfl) rfl rfl rfl fun ws hs0 => ?_
  obtain ⟨⟨q0, q1, q2⟩, f0, f1, f2⟩ := BoxT.cells hs0.out.2.2
  refine ⟨undef, ((ws.setCell ⟨wa.heap.size, 0, none⟩ (.int .i64 (digV p0))).setCell ⟨wa.heap.size, 1, none⟩ (.int .i64 (digV p1))).setCell ⟨wa.heap.size, 2, none⟩ (.int .i64 (digV p2)), some (wa.heap.size, true), .inr ⟨?_, rfl⟩,
    Lib.hid ⟨((hs0.out.1.setCell hs0.out.2.1 _).setCell hs0.out.2.1 _).setCell hs0.out.2.1 _, hs0.out.2.1, ((hs0.out.2.2.set0 _).set1 _).set2 _⟩, ?_⟩
  · simp [go_sem, Act.put, q0, q1, q2, f0, f1, f2]
  refine ⟨by kernel_rfl, fun wz hz => ?_⟩
  clear hs0 ha0 q0 q1 q2 f0 f1 f2 k0 k1 k2
  obtain ⟨hz1, hz2, hz3⟩ := hz.out
  clear hz
  have HB2 := Lib.hid (box_on HB1.out hz1)
  have X2 := Lib.hid hz3
  obtain ⟨⟨d0, d1, d2⟩, _⟩ := BoxT.cells hz3
  simp only [Act.put]
  go_wp2_with fail
  refine (stext_any _ _ _ _ _).mono ?_
  rintro e w3 ⟨rfl, hb⟩
  have HB3 := Lib.hid (box_on HB2.out hb)
  have X3 : BoxT w3 wa.heap.size (digV p0) (digV p1) (digV p2) := (hb.block _ X2.out.lt).trans X2.out
  clear hb d0 d1 d2 hz1 hz2 hz3
  obtain ⟨⟨d0, d1, d2⟩, _⟩ := BoxT.cells X3
  clear X3
  obtain ⟨⟨c0, c1, c2⟩, k0, k1, k2, hzz⟩ := box3 HB3.out
  go_wp2
  refine bodyPost_ret (v := .tuple #[.agg #[.int .i64 0, .int .i64 0, .int .i64 0], .bool false]) ?_ rfl ⟨rfl, ?_⟩
  · simp [results, Tryd.results84, go_sem, c0, c1, c2]
  · exact (((box_end HB3.out).setCell (Nat.le_refl _) _).setCell (Nat.le_refl _) _).setCell (Nat.le_refl _) _
end Go.Proofs.YtiinifcepcaonaaDoor
