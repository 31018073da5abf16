/- impl: OrderFrom. -/
import Derived.Test.YtipndddmjgjgpabDoorTrnJ
import Derived.Test.YtipndddmjgjgpabDoorFrmS
namespace Go.Proofs.YtipndddmjgjgpabDoor
open Go.RowKit

set_option maxRecDepth 20000 in
set_option maxHeartbeats 3200000 in
theorem iofr_any (p q s1 a1 s2 a2 : Int) (gv hv v1 u1 v2 u2 : Value) (g h e1 t1 e2 t2 : List Int) (w : World) (hg : Ints w gv g) (hh : Ints w hv h) (h1 : Ints w v1 e1) (h2 : Ints w v2 e2) (k1 : Ints w u1 t1) (k2 : Ints w u2 t2) (c1 : capB u1) (c2 : capB u2) (hs : ∀ j, j < g.length → intIn (nth g j)) (hs' : ∀ j, j < h.length → intIn (nth h j)) :
    Calls Tryd.prog 47 #[.agg #[.int .i64 p, gv], .agg #[.int .i64 q, hv], .agg #[.int .i64 s1, v1, .int .i64 a1, u1], .agg #[.int .i64 s2, v2, .int .i64 a2, u2]] w (OfrPost w (ofrL p g q h s1 e1 a1 t1 s2 e2 a2 t2) (ofrB p g q h s1 e1 a1 t1 s2 e2 a2 t2)) := by
  have HB4 := boxes4 (w := w) [.int .i64 p, gv] [.int .i64 q, hv] [.int .i64 s1, v1, .int .i64 a1, u1] [.int .i64 s2, v2, .int .i64 a2, u2] 25 25 50 50
  obtain ⟨W, hWe, hW, b0, b1, b2, b3⟩ := HB4.out
  have B0 : Hid (Below W.heap.size W ((((w.alloc (.cells #[.int .i64 p, gv] 25)).alloc (.cells #[.int .i64 q, hv] 25)).alloc (.cells #[.int .i64 s1, v1, .int .i64 a1, u1] 50)).alloc (.cells #[.int .i64 s2, v2, .int .i64 a2, u2] 50))) := Lib.hid (by rw [hWe]; exact Below.refl _ _)
  have HW := Lib.hid hW
  have BG := Lib.hid b0
  have BH := Lib.hid b1
  have BS := Lib.hid b2
  have BR := Lib.hid b3
  have HG := Lib.hid (show ∀ w', Below W.heap.size W w' → Ints w' gv g from fun w' hb => (hg.below hW).below hb)
  have HH := Lib.hid (show ∀ w', Below W.heap.size W w' → Ints w' hv h from fun w' hb => (hh.below hW).below hb)
  have H1 := Lib.hid (show ∀ w', Below W.heap.size W w' → Ints w' v1 e1 from fun w' hb => (h1.below hW).below hb)
  have H2 := Lib.hid (show ∀ w', Below W.heap.size W w' → Ints w' v2 e2 from fun w' hb => (h2.below hW).below hb)
  have K1 := Lib.hid (show ∀ w', Below W.heap.size W w' → Ints w' u1 t1 from fun w' hb => (k1.below hW).below hb)
  have K2 := Lib.hid (show ∀ w', Below W.heap.size W w' → Ints w' u2 t2 from fun w' hb => (k2.below hW).below hb)
  have C1 := Lib.hid c1
  have C2 := Lib.hid c2
  have HSG := Lib.hid hs
  have HSH := Lib.hid hs'
  have HF2 : Hid ((bkL t2).length ≤ maxLen) := Lib.hid (by
    unfold bkL; split
    · rw [bck_len]; exact few_of k2
    · simp)
  have FIN : Hid (∀ w', Below W.heap.size W w' → Below w.heap.size w w') := Lib.hid fun w' hb => hW.trans (hb.mono hW.size)
  clear HB4 hWe hW b0 b1 b2 b3 hg hh h1 h2 k1 k2 c1 c2 hs hs'
  cases kk1 : tkT p g q h s1 e1 a1 t1
  · have HX := Lib.hid (show ofrB p g q h s1 e1 a1 t1 s2 e2 a2 t2 = false by simp [ofrB, kk1])
    have HL := Lib.hid (ofr_no HX.out)
    have cg0 := (BG.out.on B0.out).cell 0
    have cg1 := (BG.out.on B0.out).cell 1
    have ch0 := (BH.out.on B0.out).cell 0
    have ch1 := (BH.out.on B0.out).cell 1
    have cs0 := (BS.out.on B0.out).cell 0
    have cs1 := (BS.out.on B0.out).cell 1
    have cs2 := (BS.out.on B0.out).cell 2
    have cs3 := (BS.out.on B0.out).cell 3
    have cr0 := (BR.out.on B0.out).cell 0
    have cr1 := (BR.out.on B0.out).cell 1
    have cr2 := (BR.out.on B0.out).cell 2
    have cr3 := (BR.out.on B0.out).cell 3
    simp at cg0 cg1 ch0 ch1 cs0 cs1 cs2 cs3 cr0 cr1 cr2 cr3
    go_enter Tryd.func47, Tryd.ntmps47
    go_wp2_with fail
    refine (itrn_is kk1 (HG.out _ B0.out) (HH.out _ B0.out) (H1.out _ B0.out) (K1.out _ B0.out) C1.out HSG.out HSH.out).mono ?_
    rintro e w1 ⟨rfl, hb⟩
    have B1 := Lib.hid (Below.on B0.out hb)
    clear cg0 cg1 ch0 ch1 cs0 cs1 cs2 cs3 cr0 cr1 cr2 cr3
    clear hb
    have FF := Lib.hid (FIN.out _ B1.out)
    go_wp2
    go_ret2
    exact ⟨_, by rw [HX.out]; rfl, by rw [HL.out]; exact World.ownsRow_nil _ _ _ _, FF.out⟩
  cases kk2 : tkT p g q h s2 e2 a2 t2
  · have HX := Lib.hid (show ofrB p g q h s1 e1 a1 t1 s2 e2 a2 t2 = false by simp [ofrB, kk2])
    have HL := Lib.hid (ofr_no HX.out)
    have cg0 := (BG.out.on B0.out).cell 0
    have cg1 := (BG.out.on B0.out).cell 1
    have ch0 := (BH.out.on B0.out).cell 0
    have ch1 := (BH.out.on B0.out).cell 1
    have cs0 := (BS.out.on B0.out).cell 0
    have cs1 := (BS.out.on B0.out).cell 1
    have cs2 := (BS.out.on B0.out).cell 2
    have cs3 := (BS.out.on B0.out).cell 3
    have cr0 := (BR.out.on B0.out).cell 0
    have cr1 := (BR.out.on B0.out).cell 1
    have cr2 := (BR.out.on B0.out).cell 2
    have cr3 := (BR.out.on B0.out).cell 3
    simp at cg0 cg1 ch0 ch1 cs0 cs1 cs2 cs3 cr0 cr1 cr2 cr3
    go_enter Tryd.func47, Tryd.ntmps47
    go_wp2_with fail
    refine (itrn_is kk1 (HG.out _ B0.out) (HH.out _ B0.out) (H1.out _ B0.out) (K1.out _ B0.out) C1.out HSG.out HSH.out).mono ?_
    rintro e w1 ⟨rfl, hb⟩
    have B1 := Lib.hid (Below.on B0.out hb)
    clear cg0 cg1 ch0 ch1 cs0 cs1 cs2 cs3 cr0 cr1 cr2 cr3
    clear hb
    have cg0 := (BG.out.on B1.out).cell 0
    have cg1 := (BG.out.on B1.out).cell 1
    have ch0 := (BH.out.on B1.out).cell 0
    have ch1 := (BH.out.on B1.out).cell 1
    have cs0 := (BS.out.on B1.out).cell 0
    have cs1 := (BS.out.on B1.out).cell 1
    have cs2 := (BS.out.on B1.out).cell 2
    have cs3 := (BS.out.on B1.out).cell 3
    have cr0 := (BR.out.on B1.out).cell 0
    have cr1 := (BR.out.on B1.out).cell 1
    have cr2 := (BR.out.on B1.out).cell 2
    have cr3 := (BR.out.on B1.out).cell 3
    simp at cg0 cg1 ch0 ch1 cs0 cs1 cs2 cs3 cr0 cr1 cr2 cr3
    go_wp2_with fail
    refine (itrn_is kk2 (HG.out _ B1.out) (HH.out _ B1.out) (H2.out _ B1.out) (K2.out _ B1.out) C2.out HSG.out HSH.out).mono ?_
    rintro e w2 ⟨rfl, hb⟩
    have B2 := Lib.hid (Below.on B1.out hb)
    clear cg0 cg1 ch0 ch1 cs0 cs1 cs2 cs3 cr0 cr1 cr2 cr3
    clear hb
    have FF := Lib.hid (FIN.out _ B2.out)
    go_wp2
    go_ret2
    exact ⟨_, by rw [HX.out]; rfl, by rw [HL.out]; exact World.ownsRow_nil _ _ _ _, FF.out⟩
  cases kk3 : (decide (s1 = s2) && sameB e1 e2)
  · have HX := Lib.hid (show ofrB p g q h s1 e1 a1 t1 s2 e2 a2 t2 = false by simp only [ofrB, kk3]; simp)
    have HL := Lib.hid (ofr_no HX.out)
    have cg0 := (BG.out.on B0.out).cell 0
    have cg1 := (BG.out.on B0.out).cell 1
    have ch0 := (BH.out.on B0.out).cell 0
    have ch1 := (BH.out.on B0.out).cell 1
    have cs0 := (BS.out.on B0.out).cell 0
    have cs1 := (BS.out.on B0.out).cell 1
    have cs2 := (BS.out.on B0.out).cell 2
    have cs3 := (BS.out.on B0.out).cell 3
    have cr0 := (BR.out.on B0.out).cell 0
    have cr1 := (BR.out.on B0.out).cell 1
    have cr2 := (BR.out.on B0.out).cell 2
    have cr3 := (BR.out.on B0.out).cell 3
    simp at cg0 cg1 ch0 ch1 cs0 cs1 cs2 cs3 cr0 cr1 cr2 cr3
    go_enter Tryd.func47, Tryd.ntmps47
    go_wp2_with fail
    refine (itrn_is kk1 (HG.out _ B0.out) (HH.out _ B0.out) (H1.out _ B0.out) (K1.out _ B0.out) C1.out HSG.out HSH.out).mono ?_
    rintro e w1 ⟨rfl, hb⟩
    have B1 := Lib.hid (Below.on B0.out hb)
    clear cg0 cg1 ch0 ch1 cs0 cs1 cs2 cs3 cr0 cr1 cr2 cr3
    clear hb
    have cg0 := (BG.out.on B1.out).cell 0
    have cg1 := (BG.out.on B1.out).cell 1
    have ch0 := (BH.out.on B1.out).cell 0
    have ch1 := (BH.out.on B1.out).cell 1
    have cs0 := (BS.out.on B1.out).cell 0
    have cs1 := (BS.out.on B1.out).cell 1
    have cs2 := (BS.out.on B1.out).cell 2
    have cs3 := (BS.out.on B1.out).cell 3
    have cr0 := (BR.out.on B1.out).cell 0
    have cr1 := (BR.out.on B1.out).cell 1
    have cr2 := (BR.out.on B1.out).cell 2
    have cr3 := (BR.out.on B1.out).cell 3
    simp at cg0 cg1 ch0 ch1 cs0 cs1 cs2 cs3 cr0 cr1 cr2 cr3
    go_wp2_with fail
    refine (itrn_is kk2 (HG.out _ B1.out) (HH.out _ B1.out) (H2.out _ B1.out) (K2.out _ B1.out) C2.out HSG.out HSH.out).mono ?_
    rintro e w2 ⟨rfl, hb⟩
    have B2 := Lib.hid (Below.on B1.out hb)
    clear cg0 cg1 ch0 ch1 cs0 cs1 cs2 cs3 cr0 cr1 cr2 cr3
    clear hb
    have cg0 := (BG.out.on B2.out).cell 0
    have cg1 := (BG.out.on B2.out).cell 1
    have ch0 := (BH.out.on B2.out).cell 0
    have ch1 := (BH.out.on B2.out).cell 1
    have cs0 := (BS.out.on B2.out).cell 0
    have cs1 := (BS.out.on B2.out).cell 1
    have cs2 := (BS.out.on B2.out).cell 2
    have cs3 := (BS.out.on B2.out).cell 3
    have cr0 := (BR.out.on B2.out).cell 0
    have cr1 := (BR.out.on B2.out).cell 1
    have cr2 := (BR.out.on B2.out).cell 2
    have cr3 := (BR.out.on B2.out).cell 3
    simp at cg0 cg1 ch0 ch1 cs0 cs1 cs2 cs3 cr0 cr1 cr2 cr3
    go_wp2_with fail
    refine (isg_is kk3 (H1.out _ B2.out) (H2.out _ B2.out)).mono ?_
    rintro e w3 ⟨rfl, hb⟩
    have B3 := Lib.hid (Below.on B2.out hb)
    clear cg0 cg1 ch0 ch1 cs0 cs1 cs2 cs3 cr0 cr1 cr2 cr3
    clear hb
    have cg0 := (BG.out.on B3.out).cell 0
    have cg1 := (BG.out.on B3.out).cell 1
    have ch0 := (BH.out.on B3.out).cell 0
    have ch1 := (BH.out.on B3.out).cell 1
    have cs0 := (BS.out.on B3.out).cell 0
    have cs1 := (BS.out.on B3.out).cell 1
    have cs2 := (BS.out.on B3.out).cell 2
    have cs3 := (BS.out.on B3.out).cell 3
    have cr0 := (BR.out.on B3.out).cell 0
    have cr1 := (BR.out.on B3.out).cell 1
    have cr2 := (BR.out.on B3.out).cell 2
    have cr3 := (BR.out.on B3.out).cell 3
    simp at cg0 cg1 ch0 ch1 cs0 cs1 cs2 cs3 cr0 cr1 cr2 cr3
    have FF := Lib.hid (FIN.out _ B3.out)
    go_wp2
    go_ret2
    exact ⟨_, by rw [HX.out]; rfl, by rw [HL.out]; exact World.ownsRow_nil _ _ _ _, FF.out⟩
  by_cases ha1 : a1 = 0
  rotate_left
  · have HX := Lib.hid (show ofrB p g q h s1 e1 a1 t1 s2 e2 a2 t2 = false by simp [ofrB, ha1])
    have HL := Lib.hid (ofr_no HX.out)
    have hd1 : (a1 != 0) = true := by simp [ha1]
    have cg0 := (BG.out.on B0.out).cell 0
    have cg1 := (BG.out.on B0.out).cell 1
    have ch0 := (BH.out.on B0.out).cell 0
    have ch1 := (BH.out.on B0.out).cell 1
    have cs0 := (BS.out.on B0.out).cell 0
    have cs1 := (BS.out.on B0.out).cell 1
    have cs2 := (BS.out.on B0.out).cell 2
    have cs3 := (BS.out.on B0.out).cell 3
    have cr0 := (BR.out.on B0.out).cell 0
    have cr1 := (BR.out.on B0.out).cell 1
    have cr2 := (BR.out.on B0.out).cell 2
    have cr3 := (BR.out.on B0.out).cell 3
    simp at cg0 cg1 ch0 ch1 cs0 cs1 cs2 cs3 cr0 cr1 cr2 cr3
    go_enter Tryd.func47, Tryd.ntmps47
    go_wp2_with fail
    refine (itrn_is kk1 (HG.out _ B0.out) (HH.out _ B0.out) (H1.out _ B0.out) (K1.out _ B0.out) C1.out HSG.out HSH.out).mono ?_
    rintro e w1 ⟨rfl, hb⟩
    have B1 := Lib.hid (Below.on B0.out hb)
    clear cg0 cg1 ch0 ch1 cs0 cs1 cs2 cs3 cr0 cr1 cr2 cr3
    clear hb
    have cg0 := (BG.out.on B1.out).cell 0
    have cg1 := (BG.out.on B1.out).cell 1
    have ch0 := (BH.out.on B1.out).cell 0
    have ch1 := (BH.out.on B1.out).cell 1
    have cs0 := (BS.out.on B1.out).cell 0
    have cs1 := (BS.out.on B1.out).cell 1
    have cs2 := (BS.out.on B1.out).cell 2
    have cs3 := (BS.out.on B1.out).cell 3
    have cr0 := (BR.out.on B1.out).cell 0
    have cr1 := (BR.out.on B1.out).cell 1
    have cr2 := (BR.out.on B1.out).cell 2
    have cr3 := (BR.out.on B1.out).cell 3
    simp at cg0 cg1 ch0 ch1 cs0 cs1 cs2 cs3 cr0 cr1 cr2 cr3
    go_wp2_with fail
    refine (itrn_is kk2 (HG.out _ B1.out) (HH.out _ B1.out) (H2.out _ B1.out) (K2.out _ B1.out) C2.out HSG.out HSH.out).mono ?_
    rintro e w2 ⟨rfl, hb⟩
    have B2 := Lib.hid (Below.on B1.out hb)
    clear cg0 cg1 ch0 ch1 cs0 cs1 cs2 cs3 cr0 cr1 cr2 cr3
    clear hb
    have cg0 := (BG.out.on B2.out).cell 0
    have cg1 := (BG.out.on B2.out).cell 1
    have ch0 := (BH.out.on B2.out).cell 0
    have ch1 := (BH.out.on B2.out).cell 1
    have cs0 := (BS.out.on B2.out).cell 0
    have cs1 := (BS.out.on B2.out).cell 1
    have cs2 := (BS.out.on B2.out).cell 2
    have cs3 := (BS.out.on B2.out).cell 3
    have cr0 := (BR.out.on B2.out).cell 0
    have cr1 := (BR.out.on B2.out).cell 1
    have cr2 := (BR.out.on B2.out).cell 2
    have cr3 := (BR.out.on B2.out).cell 3
    simp at cg0 cg1 ch0 ch1 cs0 cs1 cs2 cs3 cr0 cr1 cr2 cr3
    go_wp2_with fail
    refine (isg_is kk3 (H1.out _ B2.out) (H2.out _ B2.out)).mono ?_
    rintro e w3 ⟨rfl, hb⟩
    have B3 := Lib.hid (Below.on B2.out hb)
    clear cg0 cg1 ch0 ch1 cs0 cs1 cs2 cs3 cr0 cr1 cr2 cr3
    clear hb
    have cg0 := (BG.out.on B3.out).cell 0
    have cg1 := (BG.out.on B3.out).cell 1
    have ch0 := (BH.out.on B3.out).cell 0
    have ch1 := (BH.out.on B3.out).cell 1
    have cs0 := (BS.out.on B3.out).cell 0
    have cs1 := (BS.out.on B3.out).cell 1
    have cs2 := (BS.out.on B3.out).cell 2
    have cs3 := (BS.out.on B3.out).cell 3
    have cr0 := (BR.out.on B3.out).cell 0
    have cr1 := (BR.out.on B3.out).cell 1
    have cr2 := (BR.out.on B3.out).cell 2
    have cr3 := (BR.out.on B3.out).cell 3
    simp at cg0 cg1 ch0 ch1 cs0 cs1 cs2 cs3 cr0 cr1 cr2 cr3
    have FF := Lib.hid (FIN.out _ B3.out)
    go_wp2
    go_ret2
    exact ⟨_, by rw [HX.out]; rfl, by rw [HL.out]; exact World.ownsRow_nil _ _ _ _, FF.out⟩
  have hd1 : (a1 != 0) = false := by simp [ha1]
  have A1 := Lib.hid ha1
  clear ha1
  by_cases ha2 : a2 = 1
  rotate_left
  · have HX := Lib.hid (show ofrB p g q h s1 e1 a1 t1 s2 e2 a2 t2 = false by simp [ofrB, ha2])
    have HL := Lib.hid (ofr_no HX.out)
    have hd2 : (a2 != 1) = true := by simp [ha2]
    have cg0 := (BG.out.on B0.out).cell 0
    have cg1 := (BG.out.on B0.out).cell 1
    have ch0 := (BH.out.on B0.out).cell 0
    have ch1 := (BH.out.on B0.out).cell 1
    have cs0 := (BS.out.on B0.out).cell 0
    have cs1 := (BS.out.on B0.out).cell 1
    have cs2 := (BS.out.on B0.out).cell 2
    have cs3 := (BS.out.on B0.out).cell 3
    have cr0 := (BR.out.on B0.out).cell 0
    have cr1 := (BR.out.on B0.out).cell 1
    have cr2 := (BR.out.on B0.out).cell 2
    have cr3 := (BR.out.on B0.out).cell 3
    simp at cg0 cg1 ch0 ch1 cs0 cs1 cs2 cs3 cr0 cr1 cr2 cr3
    go_enter Tryd.func47, Tryd.ntmps47
    go_wp2_with fail
    refine (itrn_is kk1 (HG.out _ B0.out) (HH.out _ B0.out) (H1.out _ B0.out) (K1.out _ B0.out) C1.out HSG.out HSH.out).mono ?_
    rintro e w1 ⟨rfl, hb⟩
    have B1 := Lib.hid (Below.on B0.out hb)
    clear cg0 cg1 ch0 ch1 cs0 cs1 cs2 cs3 cr0 cr1 cr2 cr3
    clear hb
    have cg0 := (BG.out.on B1.out).cell 0
    have cg1 := (BG.out.on B1.out).cell 1
    have ch0 := (BH.out.on B1.out).cell 0
    have ch1 := (BH.out.on B1.out).cell 1
    have cs0 := (BS.out.on B1.out).cell 0
    have cs1 := (BS.out.on B1.out).cell 1
    have cs2 := (BS.out.on B1.out).cell 2
    have cs3 := (BS.out.on B1.out).cell 3
    have cr0 := (BR.out.on B1.out).cell 0
    have cr1 := (BR.out.on B1.out).cell 1
    have cr2 := (BR.out.on B1.out).cell 2
    have cr3 := (BR.out.on B1.out).cell 3
    simp at cg0 cg1 ch0 ch1 cs0 cs1 cs2 cs3 cr0 cr1 cr2 cr3
    go_wp2_with fail
    refine (itrn_is kk2 (HG.out _ B1.out) (HH.out _ B1.out) (H2.out _ B1.out) (K2.out _ B1.out) C2.out HSG.out HSH.out).mono ?_
    rintro e w2 ⟨rfl, hb⟩
    have B2 := Lib.hid (Below.on B1.out hb)
    clear cg0 cg1 ch0 ch1 cs0 cs1 cs2 cs3 cr0 cr1 cr2 cr3
    clear hb
    have cg0 := (BG.out.on B2.out).cell 0
    have cg1 := (BG.out.on B2.out).cell 1
    have ch0 := (BH.out.on B2.out).cell 0
    have ch1 := (BH.out.on B2.out).cell 1
    have cs0 := (BS.out.on B2.out).cell 0
    have cs1 := (BS.out.on B2.out).cell 1
    have cs2 := (BS.out.on B2.out).cell 2
    have cs3 := (BS.out.on B2.out).cell 3
    have cr0 := (BR.out.on B2.out).cell 0
    have cr1 := (BR.out.on B2.out).cell 1
    have cr2 := (BR.out.on B2.out).cell 2
    have cr3 := (BR.out.on B2.out).cell 3
    simp at cg0 cg1 ch0 ch1 cs0 cs1 cs2 cs3 cr0 cr1 cr2 cr3
    go_wp2_with fail
    refine (isg_is kk3 (H1.out _ B2.out) (H2.out _ B2.out)).mono ?_
    rintro e w3 ⟨rfl, hb⟩
    have B3 := Lib.hid (Below.on B2.out hb)
    clear cg0 cg1 ch0 ch1 cs0 cs1 cs2 cs3 cr0 cr1 cr2 cr3
    clear hb
    have cg0 := (BG.out.on B3.out).cell 0
    have cg1 := (BG.out.on B3.out).cell 1
    have ch0 := (BH.out.on B3.out).cell 0
    have ch1 := (BH.out.on B3.out).cell 1
    have cs0 := (BS.out.on B3.out).cell 0
    have cs1 := (BS.out.on B3.out).cell 1
    have cs2 := (BS.out.on B3.out).cell 2
    have cs3 := (BS.out.on B3.out).cell 3
    have cr0 := (BR.out.on B3.out).cell 0
    have cr1 := (BR.out.on B3.out).cell 1
    have cr2 := (BR.out.on B3.out).cell 2
    have cr3 := (BR.out.on B3.out).cell 3
    simp at cg0 cg1 ch0 ch1 cs0 cs1 cs2 cs3 cr0 cr1 cr2 cr3
    have FF := Lib.hid (FIN.out _ B3.out)
    go_wp2
    go_ret2
    exact ⟨_, by rw [HX.out]; rfl, by rw [HL.out]; exact World.ownsRow_nil _ _ _ _, FF.out⟩
  have hd2 : (a2 != 1) = false := by simp [ha2]
  have A2 := Lib.hid ha2
  clear ha2
  have HX := Lib.hid (show ofrB p g q h s1 e1 a1 t1 s2 e2 a2 t2 = true by unfold ofrB; rw [kk1, kk2, kk3, A1.out, A2.out]; simp)
  have HL := Lib.hid (ofr_yes HX.out)
  have cg0 := (BG.out.on B0.out).cell 0
  have cg1 := (BG.out.on B0.out).cell 1
  have ch0 := (BH.out.on B0.out).cell 0
  have ch1 := (BH.out.on B0.out).cell 1
  have cs0 := (BS.out.on B0.out).cell 0
  have cs1 := (BS.out.on B0.out).cell 1
  have cs2 := (BS.out.on B0.out).cell 2
  have cs3 := (BS.out.on B0.out).cell 3
  have cr0 := (BR.out.on B0.out).cell 0
  have cr1 := (BR.out.on B0.out).cell 1
  have cr2 := (BR.out.on B0.out).cell 2
  have cr3 := (BR.out.on B0.out).cell 3
  simp at cg0 cg1 ch0 ch1 cs0 cs1 cs2 cs3 cr0 cr1 cr2 cr3
  go_enter Tryd.func47, Tryd.ntmps47
  go_wp2_with fail
  refine (itrn_is kk1 (HG.out _ B0.out) (HH.out _ B0.out) (H1.out _ B0.out) (K1.out _ B0.out) C1.out HSG.out HSH.out).mono ?_
  rintro e w1 ⟨rfl, hb⟩
  have B1 := Lib.hid (Below.on B0.out hb)
  clear cg0 cg1 ch0 ch1 cs0 cs1 cs2 cs3 cr0 cr1 cr2 cr3
  clear hb
  have cg0 := (BG.out.on B1.out).cell 0
  have cg1 := (BG.out.on B1.out).cell 1
  have ch0 := (BH.out.on B1.out).cell 0
  have ch1 := (BH.out.on B1.out).cell 1
  have cs0 := (BS.out.on B1.out).cell 0
  have cs1 := (BS.out.on B1.out).cell 1
  have cs2 := (BS.out.on B1.out).cell 2
  have cs3 := (BS.out.on B1.out).cell 3
  have cr0 := (BR.out.on B1.out).cell 0
  have cr1 := (BR.out.on B1.out).cell 1
  have cr2 := (BR.out.on B1.out).cell 2
  have cr3 := (BR.out.on B1.out).cell 3
  simp at cg0 cg1 ch0 ch1 cs0 cs1 cs2 cs3 cr0 cr1 cr2 cr3
  go_wp2_with fail
  refine (itrn_is kk2 (HG.out _ B1.out) (HH.out _ B1.out) (H2.out _ B1.out) (K2.out _ B1.out) C2.out HSG.out HSH.out).mono ?_
  rintro e w2 ⟨rfl, hb⟩
  have B2 := Lib.hid (Below.on B1.out hb)
  clear cg0 cg1 ch0 ch1 cs0 cs1 cs2 cs3 cr0 cr1 cr2 cr3
  clear hb
  have cg0 := (BG.out.on B2.out).cell 0
  have cg1 := (BG.out.on B2.out).cell 1
  have ch0 := (BH.out.on B2.out).cell 0
  have ch1 := (BH.out.on B2.out).cell 1
  have cs0 := (BS.out.on B2.out).cell 0
  have cs1 := (BS.out.on B2.out).cell 1
  have cs2 := (BS.out.on B2.out).cell 2
  have cs3 := (BS.out.on B2.out).cell 3
  have cr0 := (BR.out.on B2.out).cell 0
  have cr1 := (BR.out.on B2.out).cell 1
  have cr2 := (BR.out.on B2.out).cell 2
  have cr3 := (BR.out.on B2.out).cell 3
  simp at cg0 cg1 ch0 ch1 cs0 cs1 cs2 cs3 cr0 cr1 cr2 cr3
  go_wp2_with fail
  refine (isg_is kk3 (H1.out _ B2.out) (H2.out _ B2.out)).mono ?_
  rintro e w3 ⟨rfl, hb⟩
  have B3 := Lib.hid (Below.on B2.out hb)
  clear cg0 cg1 ch0 ch1 cs0 cs1 cs2 cs3 cr0 cr1 cr2 cr3
  clear hb
  have cg0 := (BG.out.on B3.out).cell 0
  have cg1 := (BG.out.on B3.out).cell 1
  have ch0 := (BH.out.on B3.out).cell 0
  have ch1 := (BH.out.on B3.out).cell 1
  have cs0 := (BS.out.on B3.out).cell 0
  have cs1 := (BS.out.on B3.out).cell 1
  have cs2 := (BS.out.on B3.out).cell 2
  have cs3 := (BS.out.on B3.out).cell 3
  have cr0 := (BR.out.on B3.out).cell 0
  have cr1 := (BR.out.on B3.out).cell 1
  have cr2 := (BR.out.on B3.out).cell 2
  have cr3 := (BR.out.on B3.out).cell 3
  simp at cg0 cg1 ch0 ch1 cs0 cs1 cs2 cs3 cr0 cr1 cr2 cr3
  have HBD : Hid (Mo2 W (bkL t2) (thL t1 (bkL t2)) none w3.drew) := Lib.hid ⟨B3.out.drew, fun v b e => by cases e⟩
  go_wp2_with fail
  clear cg0 cg1 ch0 ch1 cs0 cs1 cs2 cs3 cr0 cr1 cr2 cr3
  apply wp_region_H (Z := Option (Value × Bool)) (S := fun k => k == 4 || k == 5) (C := fun z w' => Hid (Mo2 W (bkL t2) (thL t1 (bkL t2)) z w')) [0, 1, 2, 3] none
  · kernel_rfl
  · kernel_rfl
  · kernel_rfl
  · exact ⟨rfl, rfl, rfl, rfl, trivial⟩
  · rfl
  · decide
  · exact HBD
  · intro zz
    dsimp only [pickL, nthO]
    go_big_quiet_want; go_big_quiet_op; first | go_big_quiet_on | (refine ⟨_, fun _ _ => rfl, ?_⟩; go_big_quiet_on)
    go_big_quiet_want
    go_big_quiet_op
    refine ⟨u1, fun w' hw' => ?_, ?_⟩
    · have q := BS.out.on hw'.out.1
      have q3 := q.cell 3
      simp at q3
      simp [go_sem, q3]
    go_big_quiet_on
    go_big_quiet_want; go_big_quiet_op; first | go_big_quiet_on | (refine ⟨_, fun _ _ => rfl, ?_⟩; go_big_quiet_on)
    go_big_quiet_want
    go_big_quiet_op
    refine ⟨u2, fun w' hw' => ?_, ?_⟩
    · have q := BR.out.on hw'.out.1
      have q3 := q.cell 3
      simp at q3
      simp [go_sem, q3]
    go_big_quiet_on
    exact wpQuiet_nil rfl
  · refine wpAnyH_call (i := 4) (d := some 44) 27 #[u2] rfl (by kernel_rfl) rfl rfl (by kernel_rfl) (fun _ => by kernel_rfl) fun wa hc => ?_
    refine (ibck_any u2 t2 wa (K2.out _ hc.out.1) C2.out).mono ?_
    rintro e wc ⟨mv, rfl, om, hb⟩
    have cm := om.capped
    refine ⟨_, rfl, some (mv, false), Lib.hid ⟨Below.on hc.out.1 hb, fun v b e => by cases e; exact ⟨fun _ => Ints.of_own om HF2.out, fun e => by cases e⟩⟩, ?_⟩
    clear hc om hb
    refine wpAnyH_call (i := 5) (d := some 45) 26 #[u1, mv] rfl (by kernel_rfl) rfl rfl (by kernel_rfl) (fun _ => by kernel_rfl) fun wd hc => ?_
    refine (ithn_any u1 mv t1 (bkL t2) wd (K1.out _ hc.out.1) ((hc.out.2 mv false rfl).1 rfl) C1.out cm).mono ?_
    rintro e we ⟨nv, rfl, on, hb⟩
    refine ⟨_, rfl, some (nv, true), Lib.hid ⟨Below.on hc.out.1 hb, fun v b e => by cases e; exact ⟨fun e => (by cases e), fun _ => own_mono on hc.out.1.size⟩⟩, ?_⟩
    clear hc on hb cm
    refine wpAnyH_assign (i := 6) (d := some 8) _ rfl (by kernel_rfl) rfl rfl (by kernel_rfl) rfl ?_
    refine wpAnyH_assign (i := 7) (d := some 9) _ rfl (by kernel_rfl) rfl rfl (by kernel_rfl) rfl ?_
    refine ⟨by kernel_rfl, fun w4 hw4 => ?_⟩
    simp only [Act.put, List.setIfInBounds_toArray, List.set_cons_succ, List.set_cons_zero]
    have FF : Hid (Own w4 w.heap.size nv (thL t1 (bkL t2)) ∧ Below w.heap.size w w4) := Lib.hid ⟨own_mono ((hw4.out.2 nv true rfl).2 rfl) HW.out.size, FIN.out _ hw4.out.1⟩
    clear hw4 HBD
    go_wp2
    go_ret2
    exact ⟨_, by rw [HX.out]; rfl, by rw [HL.out]; exact FF.out.1, FF.out.2⟩
end Go.Proofs.YtipndddmjgjgpabDoor
