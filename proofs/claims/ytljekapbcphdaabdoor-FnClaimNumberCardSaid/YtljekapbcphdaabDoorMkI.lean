/- impl.RowsMake. -/
import Derived.Test.YtljekapbcphdaabDoorClJ
namespace Go.Proofs.YtljekapbcphdaabDoor
open Go.RowKit

theorem Lot.row_len {g : Int} {rows : List (List Int)} {makes es : List Int} (h : Lot g rows makes es) {k : Nat} (hk : k < rows.length) : (row rows k).length = es.length := by rw [(h.cl.row k hk).1, h.len]

set_option maxHeartbeats 3200000 in
theorem irmk_any (g : Int) (rv mv ev : Value) (rows : List (List Int)) (makes es : List Int) (w : World) (G : Gr w) (h : Cw w rv mv rows makes) (he : Ints w ev es) :
    Calls Tryd.prog 71 #[.agg #[.int .i64 g, rv, mv], ev] w fun e w' => ∃ v, e = .returned v ∧ Own w' w.heap.size v (rmk g rows makes es) ∧ Below w.heap.size w w' := by
  obtain ⟨ea, ec, rfl, k3⟩ := he.opened
  have HH := Lib.hid h
  have HE := Lib.hid he
  have HG := Lib.hid G
  have B0 := Lib.hid (below_grow w (.cells #[.int .i64 g, rv, mv] 26))
  cases hl : lotB g rows makes es
  · have HX := Lib.hid (rmk_no hl)
    clear h he G k3
    go_enter Tryd.func71, Tryd.ntmps71
    go_wp2_with fail
    refine (ilot_any g rv mv _ rows makes es _ (HG.out.on B0.out) (HH.out.on B0.out) (HE.out.below B0.out)).mono ?_
    rintro e w1 ⟨rfl, hb1⟩
    rw [hl]
    have L1 := Lib.hid (Below.on B0.out hb1)
    go_wp2
    go_ret
    exact ⟨_, rfl, by rw [HX.out]; exact World.ownsRow_nil _ _ _ _, L1.out⟩
  · have HX := Lib.hid (rmk_yes hl)
    have hlot := lotB_true.1 hl
    obtain ⟨a, c, rfl, k1⟩ := h.rows.opened
    obtain ⟨n, hn⟩ : ∃ n, rows.length = n := ⟨_, rfl⟩
    obtain ⟨u, hu⟩ : ∃ u, es.length = u := ⟨_, rfl⟩
    have hu2 : u ≤ 2 := by rw [← hu, hlot.len]; exact hlot.cl.u2
    have hn3 : n ≤ 3 := by rw [← hn]; exact hlot.cl.r3
    have HC := Lib.hid (show ∀ w', Below w.heap.size w w' → ∀ k, k < n → ∃ G x, a = some ⟨G, 0, none⟩ ∧ w'.cell? ⟨G, k, none⟩ = some x ∧ ∃ ax cx, x = .slice ax u cx ∧ ∀ j, j < u → ∃ X, ax = some ⟨X, 0, none⟩ ∧ w'.cell? ⟨X, j, none⟩ = some (.int .i64 (nth (row rows k) j)) from fun w' hb k hk => by
      have hk' : k < rows.length := by rw [hn]; exact hk
      obtain ⟨G, x, e1, _, e2, e3⟩ := (k1.on hb).get k hk'
      obtain ⟨ax, cx, e4, e5⟩ := e3.opened
      rw [hlot.row_len hk', hu] at e4
      refine ⟨G, x, e1, e2, ax, cx, e4, fun j hj => ?_⟩
      obtain ⟨X, f1, _, f2⟩ := e5.get j (by rw [hlot.row_len hk', hu]; exact hj)
      exact ⟨X, f1, f2⟩)
    have HEC := Lib.hid (show ∀ w', Below w.heap.size w w' → ∀ j, j < u → ∃ X, ea = some ⟨X, 0, none⟩ ∧ w'.cell? ⟨X, j, none⟩ = some (.int .i64 (nth es j)) from fun w' hb j hj => by
      obtain ⟨X, f1, _, f2⟩ := (k3.on hb).get j (by rw [hu]; exact hj)
      exact ⟨X, f1, f2⟩)
    have HS := Lib.hid (show ∀ k, mkTo g rows es (k + 1) = mkTo g rows es k ++ [prodTo g (row rows k) es u] from fun k => by rw [mkTo_succ, hu])
    have HP := Lib.hid (show ∀ k j, prodTo g (row rows k) es (j + 1) = tim g (prodTo g (row rows k) es j) (gpow g (nth (row rows k) j) (nth es j)) from fun k j => prodTo_succ _ _ _ _)
    have HML := Lib.hid (show ∀ k, (mkTo g rows es k).length = k from fun k => mkTo_len _ _ _ k)
    have HA : Hid (mkAll g rows es = mkTo g rows es n) := Lib.hid (by unfold mkAll; rw [hn])
    have HN := Lib.hid hn
    have HU := Lib.hid hu
    rw [hn] at HH B0 ⊢
    rw [hu] at HE ⊢
    clear h he G k3 k1 hlot hn hu
    go_enter Tryd.func71, Tryd.ntmps71
    go_wp2_with fail
    refine (ilot_any g _ mv _ rows makes es _ (HG.out.on B0.out) (HH.out.on B0.out) (HE.out.below B0.out)).mono ?_
    rintro e w1 ⟨rfl, hb1⟩
    rw [hl]
    have I1 := Lib.hid (InB.of (P := [.int .i64 g, .slice a n c, mv]) hb1)
    have b1 := I1.out.box.cell 1
    simp at b1
    clear hb1 B0
    go_wp2
    clear b1
    go_loopw [5, 18] (fun v i wr => ∃ k : Nat, k ≤ n ∧ i = .int .i64 k ∧ Hid (Own wr (w.heap.size + 1) v (mkTo g rows es k)) ∧ Hid (InB w [.int .i64 g, .slice a n c, mv] 26 wr)) (fun _ i _ => n - (intOf i).toNat)
    case atStart => exact ⟨0, by omega, rfl, Lib.hid (World.ownsRow_nil _ _ _ _), I1⟩
    case round =>
      obtain ⟨k, hk, rfl, ho, hI⟩ := hrel
      obtain ⟨wo, rfl⟩ : ∃ wo : World, wo = wr := ⟨_, rfl⟩
      clear I1
      by_cases hlt : k < n
      · obtain ⟨G0, x, rfl, hc, ax, cx, rfl, hrow⟩ := HC.out _ hI.out.fin k hlt
        have HROW := Lib.hid hrow
        clear hrow
        go_wp2
        clear hc
        go_loopw [8, 24] (fun x i wi => ∃ j : Nat, j ≤ u ∧ i = .int .i64 j ∧ x = .int .i64 (prodTo g (row rows k) es j) ∧ ∃ m, wi = wo.drewN m) (fun _ i _ => u - (intOf i).toNat)
        case atStart => exact ⟨0, by omega, rfl, rfl, 0, rfl⟩
        case round =>
          obtain ⟨j, hj, rfl, rfl, m, hwi⟩ := hrel
          have HW := Lib.hid hwi
          have GW : Hid (Gr wr) := Lib.hid (by rw [hwi]; exact (HG.out.on hI.out.fin).drewN m)
          by_cases hjl : j < u
          · obtain ⟨X, rfl, hcx0⟩ := HROW.out j hjl
            obtain ⟨Y, rfl, hce0⟩ := HEC.out _ hI.out.fin j hjl
            have hcx : wr.cell? ⟨X, j, none⟩ = some (.int .i64 (nth (row rows k) j)) := by rw [hwi]; exact hcx0
            have hce : wr.cell? ⟨Y, j, none⟩ = some (.int .i64 (nth es j)) := by rw [hwi]; exact hce0
            have hbb : wr.cell? ⟨w.heap.size, 0, none⟩ = some (.int .i64 g) := by rw [hwi]; exact hI.out.box.cell 0
            have hjl1 : (j : Int) < (u : Int) := by omega
            clear hcx0 hce0 hwi
            go_wp2_with fail
            go_quiet (first | (go_at_call 64; exact Calls.quiet_of (ipow_any _ _ _ _ (Gr.drewN GW.out _))) | (go_at_call 63; exact Calls.quiet_of (itim_any _ _ _ _ (Gr.drewN GW.out _))))
            go_wp2
            go_roundw
            case rel => exact ⟨j + 1, by omega, by go_num, by rw [HP.out], _, by rw [HW.out]; exact World.drewN_drewN _ _ _⟩
            case measure => simp [intOf]; omega
          · obtain rfl : j = u := by omega
            have O1 : Own wr (w.heap.size + 1) u5 (mkTo g rows es k) := by rw [hwi]; exact ho.out
            have I1 : InB w [.int .i64 g, .slice (some ⟨G0, 0, none⟩) n c, mv] 26 wr := hI.out.on (below_of_drew hwi)
            have hll := HML.out k
            clear hwi ho hI
            go_wp2_with (at_builtin; refine wpAppInt rfl _ _ rfl rfl O1 (by omega) I1.size rfl ?_)
            intro v' w4 o4 g4 _
            have O4 : Hid (Own w4 (w.heap.size + 1) v' (mkTo g rows es (k + 1))) := Lib.hid (by rw [HS.out]; exact o4)
            have I4 := Lib.hid (I1.grown g4 fun q hq => (O1.lt q hq).1)
            clear o4 g4 O1 I1
            go_wp2
            go_roundw
            case rel => exact ⟨k + 1, by omega, by go_num, O4, I4⟩
            case measure => simp [intOf]; omega
      · obtain rfl : k = n := by omega
        have O1 : Hid (Own wo w.heap.size u5 (mkAll g rows es)) := Lib.hid (by rw [HA.out]; exact own_mono ho.out (Nat.le_succ _))
        clear ho
        go_wp2
        go_ret
        exact ⟨_, rfl, by rw [HX.out]; exact O1.out, hI.out.fin⟩
end Go.Proofs.YtljekapbcphdaabDoor
