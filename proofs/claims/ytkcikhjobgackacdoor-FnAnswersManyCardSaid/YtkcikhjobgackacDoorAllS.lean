/- spec.l3All. -/
import Derived.Test.YtkcikhjobgackacDoorSlnI
import Derived.Test.YtkcikhjobgackacDoorMkS
namespace Go.Proofs.YtkcikhjobgackacDoor
open Go.RowKit

def Full (us : List Value) : Prop := ∀ j, j < us.length → ∃ g n c, val us j = .slice (some ⟨g, 0, none⟩) n c
theorem Full.nil : Full [] := fun j hj => by simp at hj
theorem Full.app {us : List Value} {g n c : Nat} (h : Full us) : Full (us ++ [.slice (some ⟨g, 0, none⟩) n c]) := fun j hj => by
  by_cases e : j < us.length
  · rw [val_app e]; exact h j e
  · obtain rfl : j = us.length := by simp at hj; omega
    exact ⟨g, n, c, val_last⟩
theorem own_slice {w : World} {B : Nat} {v : Value} {xs : List Int} (h : Own w B v xs) (hx : 0 < xs.length) : ∃ g c, v = .slice (some ⟨g, 0, none⟩) xs.length c := by
  rcases id h.2 with ⟨rfl, hn⟩ | ⟨g, cap, cur, rfl, _⟩
  · omega
  · exact ⟨_, _, rfl⟩
theorem own_cell {w : World} {B g n c : Nat} {xs : List Int} (h : Own w B (.slice (some ⟨g, 0, none⟩) n c) xs) (hm : xs.length ≤ maxLen) {j : Nat} (hj : j < xs.length) : g < w.heap.size ∧ w.cell? ⟨g, j, none⟩ = some (.int .i64 (nth xs j)) := by
  obtain ⟨a, c', e, h1⟩ := (Ints.of_own h hm).opened
  obtain ⟨g', e', h2, h3⟩ := h1.get j hj
  subst e'
  cases e
  exact ⟨h2, h3⟩

theorem ownSS_one' (w : World) : OwnSS ((w.alloc (.cells #[] 3)).alloc (.cells #[.slice (some ⟨w.heap.size, 0, none⟩) 0 0] 24)) w.heap.size ((w.alloc (.cells #[] 3)).alloc (.cells #[.slice (some ⟨w.heap.size, 0, none⟩) 0 0] 24)).heap.size (.slice (some ⟨w.heap.size + 1, 0, none⟩) 1 1) [.slice (some ⟨w.heap.size, 0, none⟩) 0 0] [[]] := by
  have h := World.ownsRow_lit (base := w.heap.size) (e := 24) (size := 1) (w.alloc (.cells #[] 3)) #[.slice (some ⟨w.heap.size, 0, none⟩) 0 0] 1 (by simp) (by decide) rfl
  have hs : (w.alloc (.cells #[] 3)).heap.size = w.heap.size + 1 := by simp
  rw [hs] at h
  have e0 : ∀ j, j < [Value.slice (some ⟨w.heap.size, 0, none⟩) 0 0].length → j = 0 := fun j hj => by simpa using hj
  refine ⟨h, rfl, fun k hk => (h.lt k hk).2, fun j hj => ?_, fun j hj k hk => ?_, fun i j hij hj k hk _ => ?_, fun j hj k hk hk' => ?_⟩
  · rw [e0 j hj]; exact own_below (own_made' w) (below_grow _ _)
  · rw [e0 j hj] at hk
    have : k = w.heap.size := by simpa [val, Value.ownBlock] using hk.symm
    subst this; simp; omega
  · have := e0 j hj; omega
  · rw [e0 j hj] at hk
    have h1 : k = w.heap.size := by simpa [val, Value.ownBlock] using hk.symm
    have h2 : k = w.heap.size + 1 := by simpa [Value.ownBlock] using hk'.symm
    omega
theorem ownSS_none (w : World) : OwnSS (w.alloc (.cells #[] 24)) w.heap.size (w.alloc (.cells #[] 24)).heap.size (.slice (some ⟨w.heap.size, 0, none⟩) 0 0) [] [] := by
  have h := World.ownsRow_lit (base := w.heap.size) (e := 24) (size := 1) w #[] 0 (Nat.le_refl _) (by decide) rfl
  exact ⟨h, rfl, fun k hk => (h.lt k hk).2, fun j hj => by simp at hj, fun j hj => by simp at hj, fun i j _ hj => by simp at hj, fun j hj => by simp at hj⟩

set_option maxHeartbeats 6400000 in
theorem sall_any (g : Int) (rv mv : Value) (rows : List (List Int)) (makes : List Int) (w : World) (h : Cw w rv mv rows makes) (hcl : Cl g rows makes) :
    Calls Tryd.prog 59 #[.agg #[.int .i64 g, rv, mv]] w fun e w' => ∃ v us, e = .returned v ∧ OwnSS w' w.heap.size w'.heap.size v us (lots (ord g).toNat (unk rows)) ∧ Below w.heap.size w w' := by
  obtain ⟨m, hm⟩ : ∃ m, unk rows = m := ⟨_, rfl⟩
  have hm2 : m ≤ 2 := by rw [← hm]; exact hcl.u2
  obtain ⟨o1, o2⟩ := ord_bd hcl.g0 hcl.g4
  obtain ⟨q, hq⟩ : ∃ q : Nat, (ord g).toNat = q := ⟨_, rfl⟩
  have hqo : ord g = (q : Int) := by omega
  have hq40 : q ≤ 40 := by omega
  have hr1 := hcl.r1
  obtain ⟨a, c, hrv, hA⟩ := h.rows.opened
  obtain ⟨nr, hnr⟩ : ∃ nr, rows.length = nr := ⟨_, rfl⟩
  obtain ⟨R0, x, rfl, hG0, hx0, hxi⟩ := hA.get 0 (by omega)
  obtain ⟨ax, cx, hxe, _⟩ := hxi.opened
  rw [show (row rows 0).length = m from hm] at hxe
  rw [hnr] at hrv hr1
  subst hrv hxe
  have HR0 : Hid (∀ w', Below w.heap.size w w' → w'.cell? ⟨R0, 0, none⟩ = some (.slice ax m cx)) := Lib.hid fun w' hb => (hb.cell (p := ⟨R0, 0, none⟩) hG0).trans hx0
  have HOR := Lib.hid (show ∀ w', Calls Tryd.prog 16 #[.int .i64 g] w' fun e w'' => e = .returned (.int .i64 (q : Int)) ∧ Below w'.heap.size w' w'' from fun w' => by rw [← hqo]; exact sord_any g w')
  rw [hm, hq]
  have hnr1 : (0 : Int) < (nr : Int) := by omega
  clear h hcl hA hx0 hxi hG0 hnr hm o1 o2 hq hqo
  obtain ⟨wb, hwb⟩ : ∃ wb, wb = w.alloc (.cells #[.int .i64 g, .slice (some ⟨R0, 0, none⟩) nr c, mv] 26) := ⟨_, rfl⟩
  have I0 : Hid (InB w [.int .i64 g, .slice (some ⟨R0, 0, none⟩) nr c, mv] 26 wb) := Lib.hid (by rw [hwb]; exact InB.start w _ _)
  have hsz : wb.heap.size = w.heap.size + 1 := by rw [hwb]; simp
  have O1 : Hid (∃ us, Full us ∧ OwnSS ((wb.alloc (.cells #[] 3)).alloc (.cells #[.slice (some ⟨wb.heap.size, 0, none⟩) 0 0] 24)) (w.heap.size + 1) ((wb.alloc (.cells #[] 3)).alloc (.cells #[.slice (some ⟨wb.heap.size, 0, none⟩) 0 0] 24)).heap.size (.slice (some ⟨wb.heap.size + 1, 0, none⟩) 1 1) us (lots q 0)) := Lib.hid ⟨_, Full.nil.app, by rw [← hsz]; exact ownSS_one' wb⟩
  have I1 := Lib.hid (I0.out.on ((below_grow wb (.cells #[] 3)).trans ((below_grow (wb.alloc (.cells #[] 3)) (.cells #[.slice (some ⟨wb.heap.size, 0, none⟩) 0 0] 24)).mono (by simp))))
  have HL := Lib.hid (show ∀ k, k < m → (lots q k).length ≤ 40 from fun k hk => by
    rw [lots_len]
    have : k = 0 ∨ k = 1 := by omega
    rcases this with rfl | rfl <;> simp <;> omega)
  have HS := Lib.hid (show ∀ k, lots q (k + 1) = longTo q (lots q k) (lots q k).length from fun _ => rfl)
  rw [hwb] at O1 I1
  simp only [World.size_alloc] at O1 I1
  clear hwb hsz I0
  go_enter Tryd.func59, Tryd.ntmps59
  go_wp2
  go_loopw [3, 4] (fun v i wr => ∃ k : Nat, k ≤ m ∧ i = .int .i64 k ∧ Hid (∃ us, Full us ∧ OwnSS wr (w.heap.size + 1) wr.heap.size v us (lots q k)) ∧ Hid (InB w [.int .i64 g, .slice (some ⟨R0, 0, none⟩) nr c, mv] 26 wr)) (fun _ i _ => m - (intOf i).toNat)
  case atStart => exact ⟨0, by omega, rfl, Lib.hid (by have := O1.out; simpa using this), I1⟩
  case round =>
    obtain ⟨k, hk, rfl, hO, hI⟩ := hrel
    obtain ⟨wo, rfl⟩ : ∃ wo : World, wo = wr := ⟨_, rfl⟩
    clear O1 I1
    have p1 := hI.out.box.cell 1
    simp at p1
    have r0 := HR0.out _ hI.out.fin
    by_cases hlt : k < m
    · have hlt1 : (k : Int) < (m : Int) := by omega
      obtain ⟨us, hf, ho⟩ := hO.out
      obtain ⟨xss, hxs⟩ : ∃ xss, lots q k = xss := ⟨_, rfl⟩
      have hl40 : xss.length ≤ 40 := by rw [← hxs]; exact HL.out k hlt
      have hrl : ∀ j, j < xss.length → (row xss j).length = k := fun j hj => by rw [← hxs] at hj ⊢; exact lots_row hj
      rw [hxs] at ho
      obtain ⟨a, c', rfl, hcell⟩ := outer_cell ho.outer
      obtain ⟨n, hn⟩ : ∃ n, xss.length = n := ⟨_, rfl⟩
      have hul : us.length = n := by rw [ho.len]; exact hn
      have HRL := Lib.hid (show ∀ j, j < n → (row xss j).length = k from fun j hj => hrl j (by rw [hn]; exact hj))
      have HR := Lib.hid (show ∀ j, j < n → ∃ G X cx, a = some ⟨G, 0, none⟩ ∧ ∀ w', Below wo.heap.size wo w' → w'.cell? ⟨G, j, none⟩ = some (.slice (some ⟨X, 0, none⟩) k cx) ∧ ∀ i, i < k → w'.cell? ⟨X, i, none⟩ = some (.int .i64 (nth (row xss j) i)) from fun j hj => by
        have hj' : j < us.length := by rw [hul]; exact hj
        obtain ⟨G, e1, h1, e2⟩ := hcell j hj'
        obtain ⟨X, n', cx, e3⟩ := hf j hj'
        have hr := ho.rows j hj'
        have hrk := HRL.out j hj
        obtain ⟨_, _, e4⟩ := Own.form hr
        rw [hrk] at e4
        rw [e3] at e4
        cases e4
        rw [e3] at e2 hr
        refine ⟨G, X, cx, e1, fun w' hb => ⟨(hb.cell (p := ⟨G, j, none⟩) h1).trans e2, fun i hi => ?_⟩⟩
        obtain ⟨h5, h6⟩ := own_cell hr (by rw [hrk]; unfold maxLen; omega) (j := i) (by rw [hrk]; exact hi)
        exact (hb.cell (p := ⟨X, i, none⟩) h5).trans h6)
      have HX : Hid (lots q (k + 1) = longTo q xss n) := Lib.hid (by rw [HS.out, hxs, hn])
      have hn40 : n ≤ 40 := by rw [← hn]; exact hl40
      have ON : Hid (∃ us, Full us ∧ OwnSS (wo.alloc (.cells #[] 24)) wo.heap.size (wo.alloc (.cells #[] 24)).heap.size (.slice (some ⟨wo.heap.size, 0, none⟩) 0 0) us (longTo q xss 0)) := Lib.hid ⟨[], Full.nil, ownSS_none wo⟩
      have BN := Lib.hid (below_grow wo (.cells #[] 24))
      rw [hul]
      clear ho hl40 hrl hxs hn hul hO us hf hcell
      go_wp2
      clear p1 r0
      go_loopw [5, 6] (fun v i wr => ∃ j : Nat, j ≤ n ∧ i = .int .i64 j ∧ Hid (∃ us, Full us ∧ OwnSS wr wo.heap.size wr.heap.size v us (longTo q xss j)) ∧ Hid (Below wo.heap.size wo wr)) (fun _ i _ => n - (intOf i).toNat)
      case atStart => exact ⟨0, by omega, rfl, ON, BN⟩
      case round =>
        obtain ⟨j, hj, rfl, hO, hB2⟩ := hrel
        obtain ⟨wj, rfl⟩ : ∃ wj : World, wj = wr := ⟨_, rfl⟩
        clear ON BN
        by_cases hjl : j < n
        · obtain ⟨G, X, cx, rfl, hcu⟩ := HR.out j hjl
          have HI := Lib.hid hcu
          have HRK := Lib.hid (HRL.out j hjl)
          have HLJ := Lib.hid (show (longTo q xss j).length ≤ 1600 from by
            rw [longTo_len]
            exact Nat.le_trans (Nat.mul_le_mul (show j ≤ 40 by omega) hq40) (by decide))
          have HXJ := Lib.hid (show longTo q xss (j + 1) = longTo q xss j ++ extTo (row xss j) q from rfl)
          have HXE := Lib.hid (show ∀ i, longTo q xss j ++ extTo (row xss j) (i + 1) = (longTo q xss j ++ extTo (row xss j) i) ++ [row xss j ++ [(i : Int)]] from fun i => by rw [List.append_assoc]; rfl)
          have HEL := Lib.hid (show ∀ i, (longTo q xss j ++ extTo (row xss j) i).length = (longTo q xss j).length + i from fun i => by rw [List.length_append, extTo_len])
          have hjl1 : (j : Int) < (n : Int) := by omega
          clear hcu
          go_wp2
          go_loopw [5, 7] (fun v i wr => ∃ p : Nat, p ≤ q ∧ i = .int .i64 p ∧ Hid (∃ us, Full us ∧ OwnSS wr wo.heap.size wr.heap.size v us (longTo q xss j ++ extTo (row xss j) p)) ∧ Hid (Below wo.heap.size wo wr)) (fun _ i _ => q - (intOf i).toNat)
          case atStart => exact ⟨0, by omega, rfl, Lib.hid (by have := hO.out; simpa [extTo] using this), hB2⟩
          case round =>
            obtain ⟨p, hp, rfl, hO3, hB3⟩ := hrel
            obtain ⟨wp, rfl⟩ : ∃ wp : World, wp = wr := ⟨_, rfl⟩
            clear hO hB2
            have IP := Lib.hid (hI.out.on hB3.out)
            have p0 := IP.out.box.cell 0
            simp at p0
            by_cases hpl : p < q
            · have hpl1 : (p : Int) < (q : Int) := by omega
              obtain ⟨us, hf, ho⟩ := hO3.out
              go_wp2_with fail
              refine (HOR.out _).mono ?_
              rintro e w0 ⟨rfl, hb0⟩
              have B0 := Lib.hid (Below.on hB3.out hb0)
              have HO := Lib.hid (ho.onAll hb0)
              have HF := Lib.hid hf
              have hul : us.length ≤ 1640 := by have h1 := ho.len; have h2 := HEL.out p; have h3 := HLJ.out; omega
              have hBA := Below.on B0.out (below_grow w0 (.cells #[] 3))
              have hcell := (HI.out _ hBA).1
              have HCI := Lib.hid (HI.out _ hBA).2
              have hrk := HRK.out
              clear hO3 hB3 hb0 p0 ho hf hBA
              go_wp2_with (at_builtin; refine wpAppInts (xs := []) (ys := row xss j) rfl _ _ rfl rfl (own_made' w0) HRK.out (by simp; omega) (by simp) rfl HCI.out ?_)
              intro v1 w1 o1 g1
              have b1 : Below w0.heap.size w0 w1 := (below_grow w0 _).grown g1 (by simp) (fun k hk => ((own_made' w0).lt k hk).1)
              have o1' : Own w1 w0.heap.size v1 (row xss j) := o1
              clear hcell o1 g1
              go_wp2_with (at_builtin; refine wpAppInt rfl _ _ rfl rfl o1' (by omega) b1.size rfl ?_)
              intro v2 w2 o2 g2 _
              obtain ⟨X2, c2, rfl⟩ := own_slice o2 (by simp)
              have b2 := b1.grown g2 b1.size (fun k hk => (o1'.lt k hk).1)
              have O2 := Lib.hid o2
              have B2 := Lib.hid b2
              have hou : w2.ownsRow wo.heap.size 24 1 u5 us.length us := (HO.out.onAll b2).outer
              clear o1' b1 o2 g2 b2 HCI hrk
              go_wp2_with (at_builtin; refine wpAppRow rfl _ _ rfl rfl hou (by omega) (Nat.le_trans B0.out.size B2.out.size) rfl rfl ?_)
              intro v4 w4 o4 g4 k4
              have O4 : Hid (∃ us, Full us ∧ OwnSS w4 wo.heap.size w4.heap.size v4 us (longTo q xss j ++ extTo (row xss j) (p + 1))) := Lib.hid ⟨_, HF.out.app, by rw [HXE.out]; exact HO.out.next B0.out.size B2.out O2.out (by simpa using o4) g4 k4⟩
              have B4 := Lib.hid ((Below.on B0.out B2.out).grown g4 (Nat.le_trans B0.out.size B2.out.size) (fun k hk => (HO.out.outer.lt k hk).1))
              clear o4 g4 k4 hou HO B2 O2
              go_wp2
              go_roundw
              case rel => exact ⟨p + 1, by omega, by go_num, O4, B4⟩
              case measure => simp [intOf]; omega
            · obtain rfl : p = q := by omega
              go_wp2_with fail
              refine (HOR.out _).mono ?_
              rintro e w0 ⟨rfl, hb0⟩
              have O4 : Hid (∃ us, Full us ∧ OwnSS w0 wo.heap.size w0.heap.size u5 us (longTo p xss (j + 1))) := Lib.hid (by
                obtain ⟨us, hf, ho⟩ := hO3.out
                exact ⟨us, hf, by rw [HXJ.out]; exact ho.onAll hb0⟩)
              have B4 := Lib.hid (Below.on hB3.out hb0)
              clear hb0 p0 hO3 hB3
              go_wp2
              go_roundw
              case rel => exact ⟨j + 1, by omega, by go_num, O4, B4⟩
              case measure => simp [intOf]; omega
        · obtain rfl : j = n := by omega
          have O5 : Hid (∃ us, Full us ∧ OwnSS wj (w.heap.size + 1) wj.heap.size u5 us (lots q (k + 1))) := Lib.hid (by
            obtain ⟨us, hf, ho⟩ := hO.out
            exact ⟨us, hf, by rw [HX.out]; exact ho.lower hI.out.size⟩)
          have I5 := Lib.hid (hI.out.on hB2.out)
          clear hO hB2
          go_wp2
          go_roundw
          case rel => exact ⟨k + 1, by omega, by go_num, O5, I5⟩
          case measure => simp [intOf]; omega
    · obtain rfl : k = m := by omega
      obtain ⟨us, _, ho⟩ := hO.out
      go_wp2
      go_ret
      exact ⟨_, _, rfl, ho.lower (Nat.le_succ _), hI.out.fin⟩
end Go.Proofs.YtkcikhjobgackacDoor
