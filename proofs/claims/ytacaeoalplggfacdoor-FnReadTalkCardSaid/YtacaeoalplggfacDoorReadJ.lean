/- impl.ReadTalk. -/
import Derived.Test.YtacaeoalplggfacDoorReadI
namespace Go.Proofs.YtacaeoalplggfacDoor
open Go.RowKit

/-- What is known of impl.numberIn at a text, in worlds of a class. -/
def NumC (Pw : World → Prop) (s : ByteArray) (v : Int) : Prop := ∀ w, Pw w → Calls Tryd.prog 29 #[.string s] w fun e w' => e = .returned (.int .i64 v) ∧ Below w.heap.size w w'
theorem bytes_inj {a b : ByteArray} (h : a.toList = b.toList) : a = b := by
  rw [ByteArray.toList_eq, ByteArray.toList_eq] at h
  exact ByteArray.ext (Array.toList_inj.1 h)
theorem cutZ_size (s : ByteArray) : (cutZ s).size ≤ s.size := by
  show ((Lib.cut s.data.toList [44]).2.1.toArray).size ≤ s.size
  unfold Lib.cut
  split
  · show (List.drop _ s.data.toList).toArray.size ≤ s.data.size
    rw [List.size_toArray, List.length_drop, Array.length_toList]
    exact Nat.sub_le _ _
  · exact Nat.zero_le _

set_option maxHeartbeats 1600000 in
theorem iread_yes (Pw : World → Prop) (hP : ∀ w w', Pw w → Below w.heap.size w w' → Pw w') (g a b c : Int) (s : ByteArray) (hs : s.size < 4294967281) (n1 : NumC Pw (cutA s) a) (n2 : NumC Pw (cutA (cutZ s)) b) (n3 : NumC Pw (cutZ (cutZ s)) c) (hx : l2B g a b c = true) (ht : textOf g a b c = s) (w : World) (G : Gr w) (hp : Pw w) : Calls Tryd.prog 13 #[.int .i64 g, .string s] w fun e w' => e = .returned (.tuple #[.agg #[.int .i64 a, .int .i64 b, .int .i64 c], .bool true]) ∧ Below w.heap.size w w' := by
  have e1 : ((textOf g a b c).toList == s.toList) = true := by rw [ht]; exact beq_self_eq_true _
  clear ht
  have HB0 := Lib.hid (Below.refl (w.heap.size + 1) (w.alloc (.cells #[.int .i64 0, .int .i64 0, .int .i64 0] 24)))
  have HP0 := Lib.hid (hP _ _ hp (box_end HB0.out))
  have hz := cutZ_size s
  go_enter Tryd.func13, Tryd.ntmps13
  go_wp2_with fail
  obtain ⟨w0, hw0⟩ : ∃ wz, wz = w.alloc (.cells #[.int .i64 0, .int .i64 0, .int .i64 0] 24) := ⟨_, rfl⟩
  have HB0 : Hid (Below (w.heap.size + 1) (w.alloc (.cells #[.int .i64 0, .int .i64 0, .int .i64 0] 24)) w0) := Lib.hid (by rw [hw0]; exact Below.refl _ _)
  rw [← hw0] at HP0 ⊢
  go_wp2_with fail
  refine (cut_any s hs _).mono ?_
  rintro e w1 ⟨rfl, m0, hw⟩
  have hb : Below w0.heap.size w0 w1 := by rw [hw]; exact below_drewN (Below.refl _ _) m0
  clear hw
  have HB1 := Lib.hid (box_on HB0.out hb)
  have HP1 := Lib.hid (hP _ _ HP0.out hb)
  clear hb
  go_wp2_with fail
  refine (cut_any (cutZ s) (by omega) _).mono ?_
  rintro e w2 ⟨rfl, m1, hw⟩
  have hb : Below w1.heap.size w1 w2 := by rw [hw]; exact below_drewN (Below.refl _ _) m1
  clear hw
  have HB2 := Lib.hid (box_on HB1.out hb)
  have HP2 := Lib.hid (hP _ _ HP1.out hb)
  clear hb
  go_wp2_with fail
  refine (n1 _ HP2.out).mono ?_
  rintro e w3 ⟨rfl, hb⟩
  have HB3 := Lib.hid (box_on HB2.out hb)
  have HP3 := Lib.hid (hP _ _ HP2.out hb)
  clear hb
  go_wp2_with fail
  refine (n2 _ HP3.out).mono ?_
  rintro e w4 ⟨rfl, hb⟩
  have HB4 := Lib.hid (box_on HB3.out hb)
  have HP4 := Lib.hid (hP _ _ HP3.out hb)
  clear hb
  go_wp2_with fail
  refine (n3 _ HP4.out).mono ?_
  rintro e w5 ⟨rfl, hb⟩
  have HB5 := Lib.hid (box_on HB4.out hb)
  have HP5 := Lib.hid (hP _ _ HP4.out hb)
  clear hb
  have X5 := Lib.hid (Below.refl (w5.heap.size + 1) (w5.alloc (.cells #[.int .i64 a, .int .i64 b, .int .i64 c] 24)))
  have HB6 := Lib.hid (box_on HB5.out (below_alloc w5 (.cells #[.int .i64 a, .int .i64 b, .int .i64 c] 24)))
  obtain ⟨⟨d0, d1, d2⟩, _⟩ := box3 X5.out
  go_wp2_with fail
  refine (iin_any _ _ _ _ _ (G.on (box_end HB6.out))).mono ?_
  rintro e w7 ⟨rfl, hb⟩
  have X7 := Lib.hid (box_on X5.out hb)
  have HB7 := Lib.hid (box_on HB6.out hb)
  clear hb d0 d1 d2 X5 HB6
  obtain ⟨⟨d0, d1, d2⟩, _⟩ := box3 X7.out
  go_wp2_with fail
  refine (itext_any _ _ _ _ _ (G.on (box_end HB7.out))).mono ?_
  rintro e w8 ⟨rfl, hb⟩
  have X8 := Lib.hid (box_on X7.out hb)
  have HB8 := Lib.hid (box_on HB7.out hb)
  clear hb d0 d1 d2 X7 HB7
  obtain ⟨⟨d0, d1, d2⟩, _⟩ := box3 X8.out
  obtain ⟨⟨c0, c1, c2⟩, k0, k1, k2, hzz⟩ := box3 HB8.out
  clear HP0 HP1 HP2 HP3 HP4 HP5
  go_wp2
  refine bodyPost_ret (v := .tuple #[.agg #[.int .i64 a, .int .i64 b, .int .i64 c], .bool true]) ?_ rfl ⟨rfl, ?_⟩
  · simp [results, Tryd.results13, go_sem, c0, c1, c2]
  · exact (((box_end HB8.out).setCell (Nat.le_refl _) _).setCell (Nat.le_refl _) _).setCell (Nat.le_refl _) _
set_option maxHeartbeats 1600000 in
theorem iread_no (Pw : World → Prop) (hP : ∀ w w', Pw w → Below w.heap.size w w' → Pw w') (g a b c : Int) (s : ByteArray) (hs : s.size < 4294967281) (n1 : NumC Pw (cutA s) a) (n2 : NumC Pw (cutA (cutZ s)) b) (n3 : NumC Pw (cutZ (cutZ s)) c) (hn : ¬ (l2B g a b c = true ∧ textOf g a b c = s)) (w : World) (G : Gr w) (hp : Pw w) : Calls Tryd.prog 13 #[.int .i64 g, .string s] w fun e w' => e = .returned (.tuple #[.agg #[.int .i64 0, .int .i64 0, .int .i64 0], .bool false]) ∧ Below w.heap.size w w' := by
  cases hx : l2B g a b c
  · clear hn
    have HB0 := Lib.hid (Below.refl (w.heap.size + 1) (w.alloc (.cells #[.int .i64 0, .int .i64 0, .int .i64 0] 24)))
    have HP0 := Lib.hid (hP _ _ hp (box_end HB0.out))
    have hz := cutZ_size s
    go_enter Tryd.func13, Tryd.ntmps13
    go_wp2_with fail
    obtain ⟨w0, hw0⟩ : ∃ wz, wz = w.alloc (.cells #[.int .i64 0, .int .i64 0, .int .i64 0] 24) := ⟨_, rfl⟩
    have HB0 : Hid (Below (w.heap.size + 1) (w.alloc (.cells #[.int .i64 0, .int .i64 0, .int .i64 0] 24)) w0) := Lib.hid (by rw [hw0]; exact Below.refl _ _)
    rw [← hw0] at HP0 ⊢
    go_wp2_with fail
    refine (cut_any s hs _).mono ?_
    rintro e w1 ⟨rfl, m0, hw⟩
    have hb : Below w0.heap.size w0 w1 := by rw [hw]; exact below_drewN (Below.refl _ _) m0
    clear hw
    have HB1 := Lib.hid (box_on HB0.out hb)
    have HP1 := Lib.hid (hP _ _ HP0.out hb)
    clear hb
    go_wp2_with fail
    refine (cut_any (cutZ s) (by omega) _).mono ?_
    rintro e w2 ⟨rfl, m1, hw⟩
    have hb : Below w1.heap.size w1 w2 := by rw [hw]; exact below_drewN (Below.refl _ _) m1
    clear hw
    have HB2 := Lib.hid (box_on HB1.out hb)
    have HP2 := Lib.hid (hP _ _ HP1.out hb)
    clear hb
    go_wp2_with fail
    refine (n1 _ HP2.out).mono ?_
    rintro e w3 ⟨rfl, hb⟩
    have HB3 := Lib.hid (box_on HB2.out hb)
    have HP3 := Lib.hid (hP _ _ HP2.out hb)
    clear hb
    go_wp2_with fail
    refine (n2 _ HP3.out).mono ?_
    rintro e w4 ⟨rfl, hb⟩
    have HB4 := Lib.hid (box_on HB3.out hb)
    have HP4 := Lib.hid (hP _ _ HP3.out hb)
    clear hb
    go_wp2_with fail
    refine (n3 _ HP4.out).mono ?_
    rintro e w5 ⟨rfl, hb⟩
    have HB5 := Lib.hid (box_on HB4.out hb)
    have HP5 := Lib.hid (hP _ _ HP4.out hb)
    clear hb
    have X5 := Lib.hid (Below.refl (w5.heap.size + 1) (w5.alloc (.cells #[.int .i64 a, .int .i64 b, .int .i64 c] 24)))
    have HB6 := Lib.hid (box_on HB5.out (below_alloc w5 (.cells #[.int .i64 a, .int .i64 b, .int .i64 c] 24)))
    obtain ⟨⟨d0, d1, d2⟩, _⟩ := box3 X5.out
    go_wp2_with fail
    refine (iin_any _ _ _ _ _ (G.on (box_end HB6.out))).mono ?_
    rintro e w7 ⟨rfl, hb⟩
    have X7 := Lib.hid (box_on X5.out hb)
    have HB7 := Lib.hid (box_on HB6.out hb)
    clear hb d0 d1 d2 X5 HB6
    obtain ⟨⟨d0, d1, d2⟩, _⟩ := box3 X7.out
    obtain ⟨⟨c0, c1, c2⟩, k0, k1, k2, hzz⟩ := box3 HB7.out
    clear HP0 HP1 HP2 HP3 HP4 HP5
    go_wp2
    refine bodyPost_ret (v := .tuple #[.agg #[.int .i64 0, .int .i64 0, .int .i64 0], .bool false]) ?_ rfl ⟨rfl, ?_⟩
    · simp [results, Tryd.results13, go_sem, c0, c1, c2]
    · exact (((box_end HB7.out).setCell (Nat.le_refl _) _).setCell (Nat.le_refl _) _).setCell (Nat.le_refl _) _
  · have e1 : ((textOf g a b c).toList == s.toList) = false := beq_eq_false_iff_ne.2 fun h => hn ⟨hx, bytes_inj h⟩
    clear hn
    have HB0 := Lib.hid (Below.refl (w.heap.size + 1) (w.alloc (.cells #[.int .i64 0, .int .i64 0, .int .i64 0] 24)))
    have HP0 := Lib.hid (hP _ _ hp (box_end HB0.out))
    have hz := cutZ_size s
    go_enter Tryd.func13, Tryd.ntmps13
    go_wp2_with fail
    obtain ⟨w0, hw0⟩ : ∃ wz, wz = w.alloc (.cells #[.int .i64 0, .int .i64 0, .int .i64 0] 24) := ⟨_, rfl⟩
    have HB0 : Hid (Below (w.heap.size + 1) (w.alloc (.cells #[.int .i64 0, .int .i64 0, .int .i64 0] 24)) w0) := Lib.hid (by rw [hw0]; exact Below.refl _ _)
    rw [← hw0] at HP0 ⊢
    go_wp2_with fail
    refine (cut_any s hs _).mono ?_
    rintro e w1 ⟨rfl, m0, hw⟩
    have hb : Below w0.heap.size w0 w1 := by rw [hw]; exact below_drewN (Below.refl _ _) m0
    clear hw
    have HB1 := Lib.hid (box_on HB0.out hb)
    have HP1 := Lib.hid (hP _ _ HP0.out hb)
    clear hb
    go_wp2_with fail
    refine (cut_any (cutZ s) (by omega) _).mono ?_
    rintro e w2 ⟨rfl, m1, hw⟩
    have hb : Below w1.heap.size w1 w2 := by rw [hw]; exact below_drewN (Below.refl _ _) m1
    clear hw
    have HB2 := Lib.hid (box_on HB1.out hb)
    have HP2 := Lib.hid (hP _ _ HP1.out hb)
    clear hb
    go_wp2_with fail
    refine (n1 _ HP2.out).mono ?_
    rintro e w3 ⟨rfl, hb⟩
    have HB3 := Lib.hid (box_on HB2.out hb)
    have HP3 := Lib.hid (hP _ _ HP2.out hb)
    clear hb
    go_wp2_with fail
    refine (n2 _ HP3.out).mono ?_
    rintro e w4 ⟨rfl, hb⟩
    have HB4 := Lib.hid (box_on HB3.out hb)
    have HP4 := Lib.hid (hP _ _ HP3.out hb)
    clear hb
    go_wp2_with fail
    refine (n3 _ HP4.out).mono ?_
    rintro e w5 ⟨rfl, hb⟩
    have HB5 := Lib.hid (box_on HB4.out hb)
    have HP5 := Lib.hid (hP _ _ HP4.out hb)
    clear hb
    have X5 := Lib.hid (Below.refl (w5.heap.size + 1) (w5.alloc (.cells #[.int .i64 a, .int .i64 b, .int .i64 c] 24)))
    have HB6 := Lib.hid (box_on HB5.out (below_alloc w5 (.cells #[.int .i64 a, .int .i64 b, .int .i64 c] 24)))
    obtain ⟨⟨d0, d1, d2⟩, _⟩ := box3 X5.out
    go_wp2_with fail
    refine (iin_any _ _ _ _ _ (G.on (box_end HB6.out))).mono ?_
    rintro e w7 ⟨rfl, hb⟩
    have X7 := Lib.hid (box_on X5.out hb)
    have HB7 := Lib.hid (box_on HB6.out hb)
    clear hb d0 d1 d2 X5 HB6
    obtain ⟨⟨d0, d1, d2⟩, _⟩ := box3 X7.out
    go_wp2_with fail
    refine (itext_any _ _ _ _ _ (G.on (box_end HB7.out))).mono ?_
    rintro e w8 ⟨rfl, hb⟩
    have X8 := Lib.hid (box_on X7.out hb)
    have HB8 := Lib.hid (box_on HB7.out hb)
    clear hb d0 d1 d2 X7 HB7
    obtain ⟨⟨d0, d1, d2⟩, _⟩ := box3 X8.out
    obtain ⟨⟨c0, c1, c2⟩, k0, k1, k2, hzz⟩ := box3 HB8.out
    clear HP0 HP1 HP2 HP3 HP4 HP5
    go_wp2
    refine bodyPost_ret (v := .tuple #[.agg #[.int .i64 0, .int .i64 0, .int .i64 0], .bool false]) ?_ rfl ⟨rfl, ?_⟩
    · simp [results, Tryd.results13, go_sem, c0, c1, c2]
    · exact (((box_end HB8.out).setCell (Nat.le_refl _) _).setCell (Nat.le_refl _) _).setCell (Nat.le_refl _) _
end Go.Proofs.YtacaeoalplggfacDoor
