/- impl.OrdersBetween, for any two graphs; and it is few. -/
import Derived.Test.YtimkmdedoacpfabDoorRngN
import Derived.Test.YtimkmdedoacpfabDoorStS
namespace Go.Proofs.YtimkmdedoacpfabDoor
open Go.RowKit

theorem btw_short (p : Int) (g : List Int) (q : Int) (h : List Int) : FewSS (btw p g q h) := by
  cases hb : btB p g q h
  · rw [btw_no hb]; exact ⟨by simp, fun j hj => by simp at hj⟩
  · obtain ⟨k1, _, _⟩ := btB_true.1 hb
    have h5 := k1.p5
    have h1 := k1.p1
    refine ⟨?_, fun j hj => ?_⟩
    · rw [btw_yes hb]
      have h2 := solTo_len (leads g h) (ords p.toNat) (ords p.toNat).length
      have h3 := ords_few (m := p.toNat) (by omega)
      unfold btwL
      omega
    · have := (btw_mem.1 (row_mem hj)).2.1.len
      omega
set_option maxRecDepth 20000 in
set_option maxHeartbeats 3200000 in
theorem ibt_no (p q : Int) (gv hv : Value) (g h : List Int) (w : World) (hg : Ints w gv g) (hh : Ints w hv h) (hs : ∀ j, j < g.length → intIn (nth g j)) (hs' : ∀ j, j < h.length → intIn (nth h j)) (hb : btB p g q h = false) :
    Calls Tryd.prog 46 #[.agg #[.int .i64 p, gv], .agg #[.int .i64 q, hv]] w (BtPost p g q h w) := by
  obtain ⟨p0, p1, pl⟩ := boxes2 (w := w) (P := [.int .i64 p, gv]) (R := [.int .i64 q, hv]) (T1 := 25) (T2 := 25) (Below.refl _ _)
  have a0 := p0.cell 0
  have a1 := p0.cell 1
  have b0 := p1.cell 0
  have b1 := p1.cell 1
  simp at a0 a1 b0 b1
  have HX := Lib.hid (btw_no hb)
  have PL := Lib.hid pl
  have HTW := Lib.hid (fun W (hbw : Below w.heap.size w W) => itwo_any p q gv hv g h W (hg.below hbw) (hh.below hbw) hs hs')
  have HB := Lib.hid hb
  clear hg hh hb p0 p1 pl
  go_enter Tryd.func46, Tryd.ntmps46
  go_wp2_with fail
  refine (HTW.out _ PL.out).mono ?_
  rintro e w1 ⟨rfl, hb⟩
  rw [HB.out]
  have B1 := Lib.hid (Below.on PL.out hb)
  clear hb a0 a1 b0 b1
  go_wp2
  go_ret
  exact ⟨_, [], rfl, by rw [HX.out]; exact OwnSS.nil _ _ _, B1.out⟩
theorem ibt_any (p q : Int) (gv hv : Value) (g h : List Int) (w : World) (hg : Ints w gv g) (hh : Ints w hv h) (hs : ∀ j, j < g.length → intIn (nth g j)) (hs' : ∀ j, j < h.length → intIn (nth h j)) :
    Calls Tryd.prog 46 #[.agg #[.int .i64 p, gv], .agg #[.int .i64 q, hv]] w (BtPost p g q h w) := by
  cases hb : btB p g q h
  · exact ibt_no p q gv hv g h w hg hh hs hs' hb
  · obtain ⟨ga, gc, rfl, _⟩ := hg.opened
    obtain ⟨ha, hc, rfl, _⟩ := hh.opened
    obtain ⟨k1, _, rfl⟩ := btB_true.1 hb
    obtain ⟨m, rfl⟩ := Int.eq_ofNat_of_zero_le (show 0 ≤ p by have := k1.p1; omega)
    exact callsIn_wide.1 (ibt_yes m ga ha _ gc _ hc g h w hg hh hs hs' hb)
end Go.Proofs.YtimkmdedoacpfabDoor
