/- Laws of chapter 2, walked. -/
import Derived.Test.YtopjlbihhbjhnabDoorLawsA
import Derived.Test.YtopjlbihhbjhnabDoorImplT
import Derived.Test.YtopjlbihhbjhnabDoorDrawV
import Derived.Test.YtopjlbihhbjhnabDoorTalkEq
namespace Go.Proofs.YtopjlbihhbjhnabDoor
open Go.RowKit

theorem Box.below {w w' : World} {N : Nat} {s a t : Int} (h : Box w N s a t) (hb : Below w.heap.size w w') : Box w' N s a t := (hb.block N h.lt).trans h

/-- Later than W, a box kept. -/
structure Bt (W : World) (N : Nat) (s a t : Int) (w : World) : Prop where
  box : Box w N s a t
  gr : Gr w
  below : Below W.heap.size W w
theorem Bt.on {W w w' : World} {N : Nat} {s a t : Int} (h : Hid (Bt W N s a t w)) (hb : Below w.heap.size w w') : Hid (Bt W N s a t w') := Lib.hid ⟨h.out.box.below hb, h.out.gr.on hb, h.out.below.trans (hb.mono h.out.below.size)⟩
theorem lSecretFrom_walk (s : Value) (w : World) (h : CodeIn w s) (G : Gr w) : Calls Tryd.prog 3 #[s] w fun e w' => e = .returned (.bool true) ∧ Below w.heap.size w w' := by
  obtain ⟨a0, len0, cap0, rfl⟩ := h.slice
  have H := Lib.hid h; clear h
  have G0 := Lib.hid G; clear G
  have B0 := Lib.hid (Below.refl w.heap.size w)
  by_cases hl : 1048576 < len0
  · go_enter Tryd.func3, Tryd.ntmps3
    go_wp2
    go_ret
    exact ⟨rfl, Below.refl _ _⟩
  go_enter Tryd.func3, Tryd.ntmps3
  go_wp2_with fail
  refine (drawSecretFrom_any _ _ H.out).mono ?_
  rintro e w1 ⟨g, key, s1, a1, t1, s2, a2, t2, rfl, lg, hb⟩
  have B1 := Lib.hid hb
  have G1 := Lib.hid (G0.out.on hb)
  clear hb
  go_wp2_with fail
  obtain ⟨w2, hw⟩ : ∃ wz, wz = ((w1.alloc (.cells #[.int .i64 s1, .int .i64 a1, .int .i64 t1] 24)).alloc (.cells #[.int .i64 s2, .int .i64 a2, .int .i64 t2] 24)) := ⟨_, rfl⟩
  have hb : Below w1.heap.size w1 w2 := by rw [hw]; exact (below_alloc _ _).trans ((Below.refl w1.heap.size _).alloc (by simp) _)
  have M2 : Hid (B2x w1 s1 a1 t1 s2 a2 t2 w2) := by rw [hw]; exact B2x.start _ _ _ _ _ _ _
  have B2 := Lib.hid (B1.out.trans (hb.mono B1.out.size))
  have G2 := Lib.hid (G1.out.on hb)
  rw [← hw]
  clear hb hw
  cases hs : secB g key s1 a1 t1 s2 a2 t2
  · go_wp2_with fail
    refine (isec_no _ _ _ _ _ _ _ _ _ G2.out hs).mono ?_
    rintro e w3 ⟨rfl, hb⟩
    have M3 := B2x.on M2 hb
    have B3 := Lib.hid (B2.out.trans (hb.mono B2.out.size))
    have G3 := Lib.hid (G2.out.on hb)
    clear hb
    obtain ⟨⟨c0, c1, c2⟩, d0, d1, d2⟩ := B2x.cells M3
    go_wp2_with fail
    refine (ssec_no _ _ _ _ _ _ _ _ _ hs).mono ?_
    rintro e w4 ⟨rfl, hb⟩
    have M4 := B2x.on M3 hb
    have B4 := Lib.hid (B3.out.trans (hb.mono B3.out.size))
    have G4 := Lib.hid (G3.out.on hb)
    clear hb
    go_wp2_with fail
    refine (alive_any _ G4.out).mono ?_
    rintro e wz_ ⟨rfl, rfl⟩
    go_wp2
    go_ret
    exact ⟨rfl, B4.out⟩
  · obtain ⟨h1, h2, h3, h4⟩ := secB_true.1 hs
    have HK := Lib.hid (secret_key h1 (by rw [h3]; exact h2) h4).2
    clear h1 h2 h3 h4
    go_wp2_with fail
    refine (isec_yes _ _ _ _ _ _ _ _ _ G2.out hs).mono ?_
    rintro e w3 ⟨rfl, hb⟩
    have M3 := B2x.on M2 hb
    have B3 := Lib.hid (B2.out.trans (hb.mono B2.out.size))
    have G3 := Lib.hid (G2.out.on hb)
    clear hb
    obtain ⟨⟨c0, c1, c2⟩, d0, d1, d2⟩ := B2x.cells M3
    go_wp2_with fail
    refine (ssec_yes _ _ _ _ _ _ _ _ _ hs).mono ?_
    rintro e w4 ⟨rfl, hb⟩
    have M4 := B2x.on M3 hb
    have B4 := Lib.hid (B3.out.trans (hb.mono B3.out.size))
    have G4 := Lib.hid (G3.out.on hb)
    clear hb
    go_wp2_with fail
    refine (ikey_any _ _ _ G4.out).mono ?_
    rintro e w5 ⟨rfl, hb⟩
    have B5 := Lib.hid (B4.out.trans (hb.mono B4.out.size))
    have G5 := Lib.hid (G4.out.on hb)
    clear hb
    rw [HK.out]
    go_wp2
    go_ret
    exact ⟨rfl, B5.out⟩

end Go.Proofs.YtopjlbihhbjhnabDoor
