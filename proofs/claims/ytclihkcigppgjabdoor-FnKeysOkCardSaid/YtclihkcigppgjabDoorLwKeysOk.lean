/- The law FnKeysOk, walked. -/
import Derived.Test.YtclihkcigppgjabDoorDrawKy
import Derived.Test.YtclihkcigppgjabDoorKysI
import Derived.Test.YtclihkcigppgjabDoorLawsA
namespace Go.Proofs.YtclihkcigppgjabDoor
open Go.RowKit

theorem drawKeysOk_any (s : Value) (w : World) (h : CodeIn w s) : Calls Tryd.prog 10 #[s] w fun e w' => ∃ (g : Int) (kv : Value) (keys : List Int) (need : Int), e = .returned (.tuple #[.int .i64 g, kv, .int .i64 need]) ∧ (1 ≤ need ∧ need ≤ 5) ∧ (1 ≤ keys.length ∧ keys.length ≤ 5) ∧ Ints w' kv keys ∧ Below w.heap.size w w' := by
  have H := Lib.hid h; clear h
  go_enter Tryd.func10, Tryd.ntmps10
  go_wp2_with fail
  refine (open_any _ _ H.out).mono ?_
  rintro e w1 ⟨rfl, H1, hb1⟩
  have RD := Lib.hid H1
  have B1 := Lib.hid hb1
  clear H1 hb1
  go_wp2_with fail
  refine (drawkeys_any _ _ 3 _ RD.out (by omega) (by omega) (by omega)).mono ?_
  rintro e w2 ⟨g, kv, keys, need, sv, secrets, k2, rfl, hg, hd, hl, hs, hk, hK⟩
  have hb : Below w.heap.size w w2 := below_of_grown B1.out hK.gr B1.out.size (by omega)
  have HI := Lib.hid (show Ints w2 kv keys from Ints.of_own hK.ok (by unfold maxLen; omega))
  have HB := Lib.hid hb
  clear hb hK hs hk
  go_wp2
  refine bodyPost_ret (v := .tuple #[.int .i64 g, kv, .int .i64 need]) ?_ rfl ?_
  · simp [results, Tryd.results10, go_sem]
  · exact ⟨g, kv, keys, need, rfl, hd, hl, HI.out, HB.out⟩

theorem kys_one {g : Int} {keys : List Int} {need : Int} (h : kysB g keys need = true) : kysB g keys 1 = true ∧ kysB g keys (keys.length : Int) = true ∧ kysB g keys ((keys.length : Int) + 1) = false := by
  obtain ⟨m, el⟩ := kysB_true.1 h
  have h1 := m.n1
  refine ⟨kysB_true.2 ⟨⟨m.g0, m.g4, m.n1, m.n4, m.lt, by omega, by omega⟩, el⟩, kysB_true.2 ⟨⟨m.g0, m.g4, m.n1, m.n4, m.lt, by omega, by omega⟩, el⟩, kysB_false fun k => ?_⟩
  have := k.m.dn
  omega

set_option maxHeartbeats 1600000 in
theorem lKeysOk_walk (s : Value) (w : World) (h : CodeIn w s) (G : Gr w) : Calls Tryd.prog 3 #[s] w fun e w' => e = .returned (.bool true) ∧ Below w.heap.size w w' := by
  obtain ⟨a0, len0, cap0, rfl⟩ := h.slice
  have H := Lib.hid h; clear h
  have G0 := Lib.hid G; clear G
  by_cases hl : 1048576 < len0
  · go_enter Tryd.func3, Tryd.ntmps3
    go_wp2
    go_ret
    exact ⟨rfl, Below.refl _ _⟩
  go_enter Tryd.func3, Tryd.ntmps3
  go_wp2_with fail
  refine (drawKeysOk_any _ _ H.out).mono ?_
  rintro e w1 ⟨g, kv, keys, need, rfl, hd, hlen, hI, hb⟩
  obtain ⟨ka, kc, rfl, _⟩ := hI.opened
  have FB := Lib.hid (show ∀ w', Below w1.heap.size w1 w' → (Gr w' ∧ Ints w' (.slice ka keys.length kc) keys) ∧ Below w.heap.size w w' from fun w' hb' => ⟨⟨G0.out.on (Below.on hb hb'), hI.below hb'⟩, Below.on hb hb'⟩)
  have T1 := Lib.hid (Below.refl w1.heap.size w1)
  clear hI hb
  cases hk : kysB g keys need
  · have HK := Lib.hid hk
    clear hk
    go_wp2_with fail
    refine (ikeys_any g need _ keys _ (FB.out _ T1.out).1.1 (FB.out _ T1.out).1.2).mono ?_
    rintro e w2 ⟨rfl, hb⟩
    rw [HK.out]
    have T2 := Lib.hid (Below.on T1.out hb)
    clear hb
    go_wp2_with fail
    refine (skeys_any g need _ keys _ (FB.out _ T2.out).1.2).mono ?_
    rintro e w3 ⟨rfl, hb⟩
    rw [HK.out]
    have T3 := Lib.hid (Below.on T2.out hb)
    clear hb
    go_wp2_with fail
    refine (alive_any _ (FB.out _ T3.out).1.1).mono ?_
    rintro e wz ⟨rfl, rfl⟩
    go_wp2
    go_ret
    exact ⟨rfl, (FB.out _ T3.out).2⟩
  · have HK := Lib.hid hk
    have K1 := Lib.hid (kys_one hk)
    clear hk
    go_wp2_with fail
    refine (ikeys_any g need _ keys _ (FB.out _ T1.out).1.1 (FB.out _ T1.out).1.2).mono ?_
    rintro e w2 ⟨rfl, hb⟩
    rw [HK.out]
    have T2 := Lib.hid (Below.on T1.out hb)
    clear hb
    go_wp2_with fail
    refine (skeys_any g need _ keys _ (FB.out _ T2.out).1.2).mono ?_
    rintro e w3 ⟨rfl, hb⟩
    rw [HK.out]
    have T3 := Lib.hid (Below.on T2.out hb)
    clear hb
    go_wp2_with fail
    refine (ikeys_any g 1 _ keys _ (FB.out _ T3.out).1.1 (FB.out _ T3.out).1.2).mono ?_
    rintro e w4 ⟨rfl, hb⟩
    rw [K1.out.1]
    have T4 := Lib.hid (Below.on T3.out hb)
    clear hb
    go_wp2_with fail
    refine (ikeys_any g _ _ keys _ (FB.out _ T4.out).1.1 (FB.out _ T4.out).1.2).mono ?_
    rintro e w5 ⟨rfl, hb⟩
    rw [K1.out.2.1]
    have T5 := Lib.hid (Below.on T4.out hb)
    clear hb
    go_wp2_with fail
    refine (ikeys_any g _ _ keys _ (FB.out _ T5.out).1.1 (FB.out _ T5.out).1.2).mono ?_
    rintro e w6 ⟨rfl, hb⟩
    rw [K1.out.2.2]
    have T6 := Lib.hid (Below.on T5.out hb)
    clear hb
    go_wp2_with fail
    refine (alive_any _ (FB.out _ T6.out).1.1).mono ?_
    rintro e wz ⟨rfl, rfl⟩
    go_wp2
    go_ret
    exact ⟨rfl, (FB.out _ T6.out).2⟩
end Go.Proofs.YtclihkcigppgjabDoor
