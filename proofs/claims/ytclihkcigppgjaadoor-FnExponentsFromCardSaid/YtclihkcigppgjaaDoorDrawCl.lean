/- l20Claim: a relation drawn, and exponents. -/
import Derived.Test.YtclihkcigppgjaaDoorDrawSt
import Derived.Test.YtclihkcigppgjaaDoorRegionJ
namespace Go.Proofs.YtclihkcigppgjaaDoor
open Go.RowKit

theorem takeH {P : Program} {md : Region.Mode} {Z : Type} {C : Z → World → Prop} {S : Nat → Bool} {L : List Oper} {Q : Z → Act → Prop} {fuel i : Nat} {listed : Array Bool} {z : Z} {a : Act} {oi : Oper} {d : Option Tmp} (v : Value) (hd : oi.dst = d) (hsel : Region.noSelect L.toArray = true) (hS : S i = false) (hi : L.toArray[i]? = some oi) (hw : Region.wanted oi (yielded L.toArray a.tmps) = true)
    (hr : (Region.ready md L.toArray listed).contains i = true) (hf : Region.free md L.toArray listed i = true) (hrun : ∀ w, (execOp a.eval oi).run P w = .ok (.value v) w)
    (h : wpAnyH P md L.toArray C S Q fuel (listed.setIfInBounds i true) z (a.put d v)) : wpAnyH P md L.toArray C S Q (fuel + 1) listed z a := by
  subst hd
  exact wpAnyH_first hi hS (Region.noSelect_spec hsel) fuel listed z a (Region.free_spec hi hf) (by simpa using hr)
    (fun z => .inl ⟨hw, fun w _ => by unfold Oper.quietAt; rw [hrun w]; exact ⟨rfl, rfl⟩⟩) h
theorem own_slice' {w : World} {B : Nat} {v : Value} {xs : List Int} (h : Own w B v xs) (hx : 0 < xs.length) : ∃ g c, v = .slice (some ⟨g, 0, none⟩) xs.length c := by
  rcases id h.2 with ⟨rfl, hn⟩ | ⟨g, cap, cur, rfl, _⟩
  · omega
  · exact ⟨_, _, rfl⟩

set_option maxHeartbeats 6400000 in
theorem drawclaim_any (R k : Nat) (n : Int) (w : World) (h : Rd w R k) (hk : k ≤ 80000) (hn : 1 ≤ n) (hn2 : n ≤ 1000) : Calls Tryd.prog 86 #[.pointer (some ⟨R, 0, none⟩), .int .i64 n] w (ClaimPost R k 60 w) := by
  have H0 := Lib.hid h
  have hltR := h.lt
  clear h
  obtain ⟨w0, hw0⟩ : ∃ w0, w0 = w.alloc (.cells #[.int .i64 0, .slice none 0 0, .slice none 0 0] 26) := ⟨_, rfl⟩
  have hs0 : w0.heap.size = w.heap.size + 1 := by rw [hw0]; simp
  have B0 : Hid (Below w.heap.size w w0) := Lib.hid (by rw [hw0]; exact below_grow _ _)
  have X4 : Hid (Box w0 w.heap.size [.int .i64 0, .slice none 0 0, .slice none 0 0]) := Lib.hid (by rw [hw0]; exact Box.made w _ _)
  have R0 := Lib.hid (H0.out.below B0.out)
  rw [hw0] at R0 X4 B0
  go_enter Tryd.func86, Tryd.ntmps86
  go_wp2_with fail
  refine (drawgr0_any R k _ R0.out (by omega)).mono ?_
  rintro e w1 ⟨g, rfl, hg, g1, k1, hk1, hr1⟩
  obtain ⟨h0, h4⟩ := hg
  have hs1 : w.heap.size + 1 ≤ w1.heap.size := by have := g1.size; simpa using this
  have S1 : Hid (St w R w.heap.size w1.heap.size (w1.heap.size + 1) (w1.heap.size + 1) [.int .i64 g, .slice none 0 0, .slice none 0 0] (w1.alloc (.cells #[.int .i64 g, .slice none 0 0, .slice none 0 0] 26)) k1 (.slice none 0 0) [] []) := Lib.hid
    ⟨hr1.below (below_grow _ _), grown_trans (grown_trans (grown_below R B0.out) g1) (grown_below R (below_grow _ _)), (X4.out.kept (g1.block _ (by simp) (fun e => by cases e; omega))).alloc _, Box.made w1 _ _, OwnSS.nil _ _ _, by omega, by omega, by omega, Nat.le_refl _, by simp, Nat.le_refl _⟩
  clear hr1 g1 X4 R0 B0
  go_wp2_with fail
  refine (pick_any R k1 _ _ S1.out.rd (by omega)).mono ?_
  rintro e w2 ⟨m, rfl, m0, m1, mm, hw2⟩
  have m2 := m1 (by omega)
  have S2 : Hid (St w R w.heap.size w1.heap.size (w1.heap.size + 1) (w1.heap.size + 1) [.int .i64 g, .slice none 0 0, .slice none 0 0] w2 (k1 + 1) (.slice none 0 0) [] []) := Lib.hid (by rw [hw2]; exact S1.out.draw (grown_pick _ R k1 mm) (S1.out.rd.next mm))
  clear hw2 m1 S1
  obtain ⟨u, hu⟩ : ∃ u : Nat, 1 + m = u := ⟨(1 + m).toNat, by omega⟩
  go_wp2_with fail
  refine (pick_any R (k1 + 1) _ _ S2.out.rd (by omega)).mono ?_
  rintro e w3 ⟨r, rfl, r0, r1, mm, hw3⟩
  have r2 := r1 (by omega)
  have S3 : Hid (St w R w.heap.size w1.heap.size (w1.heap.size + 1) (w1.heap.size + 1) [.int .i64 g, .slice none 0 0, .slice none 0 0] w3 (k1 + 1 + 1) (.slice none 0 0) [] []) := Lib.hid (by rw [hw3]; exact S2.out.draw (grown_pick _ R (k1 + 1) mm) (S2.out.rd.next mm))
  clear hw3 r1 S2
  obtain ⟨c, hc⟩ : ∃ c : Nat, 1 + r = c := ⟨(1 + r).toNat, by omega⟩
  go_wp2
  have hu1 : 1 ≤ u := by omega
  have hu2 : u ≤ 2 := by omega
  have hc3 : c ≤ 3 := by omega
  have hc1 : 1 ≤ c := by omega
  obtain ⟨K, hK⟩ : ∃ K, k1 + 1 + 1 = K := ⟨_, rfl⟩
  have hKk : K ≤ k + 4 := by omega
  rw [hK] at S3
  clear hK hk1 hu hc m0 m2 r0 r2
  go_loopw [9] (fun i wr => ∃ (q : Nat) (v : Value) (us : List Value) (xss : List (List Int)) (k' : Nat), i = .int .i64 q ∧ q + xss.length = c ∧ k' ≤ K + 6 * xss.length ∧ Hid (∀ j, j < xss.length → (row xss j).length = u ∧ allEl g (row xss j) = true) ∧ Hid (St w R w.heap.size w1.heap.size (w1.heap.size + 1) wr.heap.size [.int .i64 g, v, .slice none 0 0] wr k' v us xss)) (fun i _ => (intOf i).toNat)
  case atStart => exact ⟨c, _, _, [], K, rfl, by simp, by simp, Lib.hid (fun j hj => by simp at hj), Lib.hid S3.out.wide⟩
  case round =>
    obtain ⟨q, v, us, xss, k', rfl, hqc, hk', hX, hS⟩ := hrel
    obtain ⟨wo, rfl⟩ : ∃ wo : World, wo = wr := ⟨_, rfl⟩
    clear S3
    by_cases hlt : 0 < q
    · have hq1 : (q : Int) > 0 := by omega
      have O0 := Lib.hid (own_made wo 3 rfl)
      have S4 := Lib.hid (hS.out.on (below_grow wo (.cells #[] 3)))
      have B0 := Lib.hid (below_grow wo (.cells #[] 3))
      clear hS
      go_wp2
      go_loopw [10, 11] (fun rv i wr => ∃ (j : Nat) (xs : List Int) (k2 : Nat), j ≤ u ∧ i = .int .i64 j ∧ xs.length = j ∧ k2 ≤ k' + 2 * j ∧ Hid (allEl g xs = true) ∧ Hid (Own wr wo.heap.size rv xs) ∧ Hid (St w R w.heap.size w1.heap.size (w1.heap.size + 1) wo.heap.size [.int .i64 g, v, .slice none 0 0] wr k2 v us xss) ∧ Hid (wo.heap.size ≤ wr.heap.size)) (fun _ i _ => u - (intOf i).toNat)
      case atStart => exact ⟨0, [], k', by omega, rfl, rfl, by omega, Lib.hid rfl, O0, S4, Lib.hid B0.out.size⟩
      case round =>
        obtain ⟨j, xs, k2, hj, rfl, hxl, hk2, hE, hO, hS, hZ⟩ := hrel
        obtain ⟨wi, rfl⟩ : ∃ wi : World, wi = wr := ⟨_, rfl⟩
        clear O0 S4 B0
        by_cases hjl : j < u
        · have hjl1 : (j : Int) < (u : Int) := by omega
          go_wp2_with fail
          refine (drawel0_any R k2 g _ h0 h4 hS.out.rd (by omega)).mono ?_
          rintro e w4 ⟨x, rfl, hx, g4, k3, hk3, hr4⟩
          have S5 := Lib.hid (hS.out.draw g4 hr4)
          have o4 : Own w4 wo.heap.size u10 xs := hO.out.kept g4 (by
            cases hv : u10.ownBlock with
            | none => exact .inl rfl
            | some b => exact .inr fun e => by cases e; have := (hO.out.lt _ hv).1; have := hS.out.r4; have := hS.out.n47; have := hS.out.n7; have := hS.out.lo0; omega)
          have Z4 := Lib.hid (Nat.le_trans hZ.out g4.size)
          have E5 : Hid (allEl g (xs ++ [x]) = true) := Lib.hid (by unfold allEl; rw [List.all_append, show xs.all (elB g) = true from hE.out]; simp [hx])
          clear hS hO g4 hr4 hx hE hZ
          go_wp2_with (at_builtin; refine wpAppInt rfl _ _ rfl rfl o4 (by omega) Z4.out rfl ?_)
          intro v5 w5 o5 g5 _
          have B5 : Below wo.heap.size w4 w5 := (Below.refl _ _).grown g5 Z4.out (fun b hb => (o4.lt b hb).1)
          have S6 := Lib.hid (S5.out.far B5)
          have O5 := Lib.hid o5
          have Z5 := Lib.hid (Nat.le_trans Z4.out g5.size)
          clear o4 o5 g5 B5 S5 Z4
          go_wp2
          go_roundw
          case rel => exact ⟨j + 1, xs ++ [x], k3, by omega, by go_num, by rw [List.length_append, hxl]; rfl, by omega, E5, O5, S6, Z5⟩
          case measure => simp [intOf]; omega
        · obtain rfl : u = j := by omega
          obtain ⟨va, vc, hva⟩ := Own.form hO.out
          rw [hxl] at hva
          subst hva
          have b1 := hS.out.b7.cell 1
          simp at b1
          have hou := hS.out.own.outer
          have hul := hS.out.own.len
          have hlo := Nat.le_trans hS.out.lo0 hS.out.hi0
          go_wp2_with (at_builtin; refine wpAppRow rfl _ _ rfl rfl hou (by omega) hlo rfl rfl ?_)
          intro v5 w5 o5 g5 k5
          obtain ⟨a5, c5, e5, _⟩ := outer_cell o5
          subst e5
          have X7 : Box w5 w1.heap.size [.int .i64 g, v, .slice none 0 0] := hS.out.b7.kept (g5.block _ hS.out.b7.lt (fun e => by have := (hS.out.own.outer.lt _ e.symm).1; omega))
          have c1 := X7.cell 1
          have f1 := X7.frozen 1
          simp at c1
          have S6 := Lib.hid (hS.out.row hO.out (by simpa [hul] using o5) g5 k5)
          have X6 : Hid (∀ j, j < (xss ++ [xs]).length → (row (xss ++ [xs]) j).length = u ∧ allEl g (row (xss ++ [xs]) j) = true) := Lib.hid fun j hj => by
            by_cases e : j < xss.length
            · rw [row_app e]; exact hX.out j e
            · obtain rfl : j = xss.length := by simp at hj; omega
              rw [row_last]; exact ⟨hxl, hE.out⟩
          have hk6 : k2 ≤ K + 6 * (xss.length + 1) := by omega
          clear o5 g5 k5 X7 hou hul hlo b1
          go_wp2
          go_roundw
          case rel => exact ⟨q - 1, _, _, xss ++ [xs], k2, by go_num, by simp; omega, by simpa using hk6, X6, S6⟩
          case measure => simp [intOf]; omega
    · have hq1 : ¬ (q : Int) > 0 := by omega
      have hxc : xss.length = c := by omega
      have O0 := Lib.hid (own_made wo 3 rfl)
      have S4 := Lib.hid (hS.out.on (below_grow wo (.cells #[] 3)))
      have B0 := Lib.hid (below_grow wo (.cells #[] 3))
      have hkc : k' ≤ K + 18 := by omega
      have hlo := Nat.le_trans hS.out.lo0 hS.out.hi0
      clear hS hk'
      go_wp2
      go_loopw [12, 13] (fun rv i wr => ∃ (j : Nat) (xs : List Int) (k2 : Nat), j ≤ u ∧ i = .int .i64 j ∧ xs.length = j ∧ k2 ≤ k' + 2 * j ∧ Hid (allEx g xs = true) ∧ Hid (Own wr wo.heap.size rv xs) ∧ Hid (St w R w.heap.size w1.heap.size (w1.heap.size + 1) wo.heap.size [.int .i64 g, v, .slice none 0 0] wr k2 v us xss) ∧ Hid (wo.heap.size ≤ wr.heap.size)) (fun _ i _ => u - (intOf i).toNat)
      case atStart => exact ⟨0, [], k', by omega, rfl, rfl, by omega, Lib.hid rfl, O0, S4, Lib.hid B0.out.size⟩
      case round =>
        obtain ⟨j, xs, k2, hj, rfl, hxl, hk2, hE, hO, hS, hZ⟩ := hrel
        obtain ⟨wi, rfl⟩ : ∃ wi : World, wi = wr := ⟨_, rfl⟩
        clear O0 S4 B0
        by_cases hjl : j < u
        · have hjl1 : (j : Int) < (u : Int) := by omega
          go_wp2_with fail
          refine (drawex0_any R k2 g _ h0 h4 hS.out.rd (by omega)).mono ?_
          rintro e w4 ⟨x, rfl, hx, g4, k3, hk3, hr4⟩
          have S5 := Lib.hid (hS.out.draw g4 hr4)
          have o4 : Own w4 wo.heap.size u12 xs := hO.out.kept g4 (by
            cases hv : u12.ownBlock with
            | none => exact .inl rfl
            | some b => exact .inr fun e => by cases e; have := (hO.out.lt _ hv).1; have := hS.out.r4; have := hS.out.n47; have := hS.out.n7; have := hS.out.lo0; omega)
          have Z4 := Lib.hid (Nat.le_trans hZ.out g4.size)
          have E5 : Hid (allEx g (xs ++ [x]) = true) := Lib.hid (by unfold allEx; rw [List.all_append, show xs.all (exB g) = true from hE.out]; simp [hx])
          clear hS hO g4 hr4 hx hE hZ
          go_wp2_with (at_builtin; refine wpAppInt rfl _ _ rfl rfl o4 (by omega) Z4.out rfl ?_)
          intro v5 w5 o5 g5 _
          have B5 : Below wo.heap.size w4 w5 := (Below.refl _ _).grown g5 Z4.out (fun b hb => (o4.lt b hb).1)
          have S6 := Lib.hid (S5.out.far B5)
          have O5 := Lib.hid o5
          have Z5 := Lib.hid (Nat.le_trans Z4.out g5.size)
          clear o4 o5 g5 B5 S5 Z4
          go_wp2
          go_roundw
          case rel => exact ⟨j + 1, xs ++ [x], k3, by omega, by go_num, by rw [List.length_append, hxl]; rfl, by omega, E5, O5, S6, Z5⟩
          case measure => simp [intOf]; omega
        · obtain rfl : u = j := by omega
          have HM : Hid (Mk g xss xs) := Lib.hid ⟨h0, h4, by omega, by omega, fun j hj => by rw [hxl]; exact hX.out j hj, hE.out⟩
          have HI := Lib.hid (hS.out.own.ints (by unfold maxLen; omega) (fun j hj => by rw [(hX.out j hj).1]; unfold maxLen; omega))
          have HO := Lib.hid (Ints.of_own hO.out (by rw [hxl]; unfold maxLen; omega))
          have hO' := hO
          have p0 := hS.out.b7.cell 0
          have p1 := hS.out.b7.cell 1
          have p2 := hS.out.b7.cell 2
          simp at p0 p1 p2
          go_wp2_with fail
          refine (smake_any g v (.slice none 0 0) u12 xss xs _ HI.out HO.out HM.out).mono ?_
          rintro e w4 ⟨mv, rfl, o4, hb4⟩
          obtain ⟨M, cm, hmv⟩ := own_slice' o4 (show 0 < (mkAll g xss xs).length by rw [mkAll_len, hxc]; omega)
          rw [mkAll_len, hxc] at hmv
          subst hmv
          have S4 := Lib.hid (hS.out.on hb4)
          have hap : ∀ b, (Value.slice (some ⟨M, 0, none⟩) c cm).ownBlock = some b → u12.ownBlock = some b → False := fun b b1 b2 => by have := (o4.lt b b1).1; have := (hO'.out.lt b b2).2; omega
          have V5 := Lib.hid (Sv.start S4.out (own_mono o4 hZ.out) (own_below hO'.out hb4) hap)
          have c2 := S4.out.b7.cell 2
          have f2 := S4.out.b7.frozen 2
          simp at c2
          have hml : Hid ((mkAll g xss xs).length = c) := Lib.hid (by rw [mkAll_len, hxc])
          have HEL : Hid (allEl g (mkAll g xss xs) = true → True) := Lib.hid fun _ => trivial
          clear hb4 o4 p0 p1 p2 hap S4 hS hO' hZ HI HO HM hE
          go_wp2_with fail
          obtain ⟨w5, hw5⟩ : ∃ w5, w5 = w4.setCell ⟨w1.heap.size, 2, none⟩ (.slice (some ⟨M, 0, none⟩) c cm) := ⟨_, rfl⟩
          rw [← hw5] at V5 ⊢
          clear c2 f2 hw5
          refine (odd_any _ _ _ _ V5.out.st.rd (by omega) (by omega) (by omega)).mono ?_
          rintro e w6 ⟨b, rfl, mm, hw6⟩
          have V6 : Hid (Sv w R w.heap.size w1.heap.size (w1.heap.size + 1) wo.heap.size g w6 (k2 + 1) v us xss (.slice (some ⟨M, 0, none⟩) c cm) (mkAll g xss xs) u12 xs) := Lib.hid (by rw [hw6]; exact V5.out.draw (grown_pick _ R k2 mm) (V5.out.st.rd.next mm))
          clear hw6 V5
          have hml6 := hml.out
          cases b
          · obtain ⟨ms, hms⟩ : ∃ ms, mkAll g xss xs = ms := ⟨_, rfl⟩
            obtain ⟨k7, hk7e⟩ : ∃ k7, k2 + 1 = k7 := ⟨_, rfl⟩
            rw [hms, hk7e] at V6
            rw [hms] at hml6
            have hk7 : k7 ≤ k2 + 7 := by omega
            clear hms hk7e hml HEL
            go_wp2_with fail
            refine (odd_any R k7 n _ V6.out.st.rd (by omega) hn (by omega)).mono ?_
            rintro e w8 ⟨b8, rfl, mm, hw8⟩
            have V8 : Hid (Sv w R w.heap.size w1.heap.size (w1.heap.size + 1) wo.heap.size g w8 (k7 + 1) v us xss (.slice (some ⟨M, 0, none⟩) c cm) ms u12 xs) := Lib.hid (by rw [hw8]; exact V6.out.draw (grown_pick _ R _ mm) (V6.out.st.rd.next mm))
            clear hw8 V6
            have p0 := V8.out.st.b7.cell 0
            have p1 := V8.out.st.b7.cell 1
            have p2 := V8.out.st.b7.cell 2
            have r0 := V8.out.st.b4.cell 0
            have r1 := V8.out.st.b4.cell 1
            have r2 := V8.out.st.b4.cell 2
            have f0 := V8.out.st.b4.frozen 0
            have f1 := V8.out.st.b4.frozen 1
            have f2 := V8.out.st.b4.frozen 2
            simp at p0 p1 p2 r0 r1 r2
            cases b8
            · obtain ⟨a5, c5, e5, _⟩ := outer_cell V8.out.st.own.outer
              subst e5
              go_wp2
              refine bodyPost_ret (v := .tuple #[.agg #[.int .i64 g, .slice a5 us.length c5, (.slice (some ⟨M, 0, none⟩) c cm)], u12]) ?_ rfl ?_
              · simp [results, Tryd.results86, go_sem, r0, r1, r2]
              · exact V8.out.fin _ _ _ (by omega) (fun j hj => by rw [(hX.out j hj).1]; omega) (by omega) (by omega) h0 h4 (by omega)
            · go_wp2_with fail
              refine (pick_any R _ _ _ V8.out.st.rd (by omega)).mono ?_
              rintro e w9 ⟨z, rfl, z0, z1, mm, hw9⟩
              have z2 := z1 (by omega)
              have V9 : Hid (Sv w R w.heap.size w1.heap.size (w1.heap.size + 1) wo.heap.size g w9 (k7 + 1 + 1) v us xss (.slice (some ⟨M, 0, none⟩) c cm) ms u12 xs) := Lib.hid (by rw [hw9]; exact V8.out.draw (grown_pick _ R _ mm) (V8.out.st.rd.next mm))
              clear hw9 V8 z1 p0 p1 p2 r0 r1 r2 f0 f1 f2
              obtain ⟨a5, c5, e5, _⟩ := outer_cell V9.out.st.own.outer
              subst e5
              have p0 := V9.out.st.b7.cell 0
              have p1 := V9.out.st.b7.cell 1
              have p2 := V9.out.st.b7.cell 2
              have c0 := V9.out.st.b7.frozen 0
              have c1 := V9.out.st.b7.frozen 1
              have c2 := V9.out.st.b7.frozen 2
              have r0 := V9.out.st.b4.cell 0
              have r1 := V9.out.st.b4.cell 1
              have r2 := V9.out.st.b4.cell 2
              have f0 := V9.out.st.b4.frozen 0
              have f1 := V9.out.st.b4.frozen 1
              have f2 := V9.out.st.b4.frozen 2
              simp at p0 p1 p2 r0 r1 r2
              obtain rfl | rfl | rfl | rfl : z = 0 ∨ z = 1 ∨ z = 2 ∨ z = 3 := by omega
              · clear z0 z2
                go_wp2
                refine bodyPost_ret (v := .tuple #[.agg #[.int .i64 0, .slice none 0 0, .slice none 0 0], u12]) ?_ rfl ?_
                · simp [results, Tryd.results86, go_sem, r0, r1, r2]
                · exact V9.out.fin0 _ _ _ (by omega) (by omega)
              · clear z0 z2 c0 c1 c2 f0 f1 f2 r0 r1 p0 p1
                have hmk := V9.out.mks
                have hhi := V9.out.st.hi0
                have hmk' : Own w9 wo.heap.size (.slice (some ⟨M, 0, none⟩) c cm) ms := hmk
                go_wp2_with (at_builtin; refine wpAppInt rfl _ _ rfl rfl hmk' (by omega) hhi rfl ?_)
                intro v6 w10 o6 g6 k6
                obtain ⟨a6, c6, e6⟩ := Own.form o6
                subst e6
                obtain ⟨n6, hn6⟩ : ∃ n6, (ms ++ [1]).length = n6 := ⟨_, rfl⟩
                have V10 := Lib.hid (V9.out.app o6 g6 k6)
                rw [hn6] at V10
                have X7 : Box w10 w1.heap.size [.int .i64 g, .slice a5 us.length c5, .slice (some ⟨M, 0, none⟩) c cm] := V9.out.st.b7.kept (g6.block _ V9.out.st.b7.lt (fun e => by have := (V9.out.mks.lt _ e.symm).1; have := V9.out.st.n7; have := V9.out.st.lo0; omega))
                clear hmk hmk' hhi o6 g6 k6 r2 p2
                have p0 := V10.out.st.b7.cell 0
                have p1 := V10.out.st.b7.cell 1
                have p2 := V10.out.st.b7.cell 2
                have r0 := V10.out.st.b4.cell 0
                have r1 := V10.out.st.b4.cell 1
                have r2 := V10.out.st.b4.cell 2
                have f0 := V10.out.st.b4.frozen 0
                have f1 := V10.out.st.b4.frozen 1
                have f2 := V10.out.st.b4.frozen 2
                have d2 := X7.cell 2
                have e2 := X7.frozen 2
                simp at p0 p1 p2 r0 r1 r2 d2
                clear X7
                go_wp2
                refine bodyPost_ret (v := .tuple #[.agg #[.int .i64 g, .slice a5 us.length c5, .slice a6 n6 c6], u12]) ?_ rfl ?_
                · simp [results, Tryd.results86, go_sem, r0, r1, r2]
                · exact V10.out.fin _ _ _ (by omega) (fun j hj => by rw [(hX.out j hj).1]; omega) (by simp; omega) (by omega) h0 h4 (by omega)
              · clear z0 z2 c0 c1 c2 r0 r1 r2 f0 f1 f2 p0 p1 p2
                have hrow0 := V9.out.st.own.rows 0 (by rw [V9.out.st.own.len, hxc]; omega)
                have hr0l : (row xss 0).length = u := (hX.out 0 (by omega)).1
                obtain ⟨X, cx, hx0⟩ := own_slice' hrow0 (by rw [hr0l]; omega)
                obtain ⟨a6, c6, e6, hcell⟩ := outer_cell V9.out.st.own.outer
                cases e6
                obtain ⟨Y, rfl, hYl, hY⟩ := hcell 0 (by rw [V9.out.st.own.len, hxc]; omega)
                have hul : us.length = c := by rw [V9.out.st.own.len]; exact hxc
                have hu0 : 0 < us.length := by omega
                rw [hul] at V9 ⊢
                rw [hr0l] at hx0
                have HX0 := Lib.hid hx0
                have HR0 := Lib.hid hr0l
                have hc1' : (0 : Int) < (c : Int) := by omega
                clear hcell hYl hY hrow0 hx0 hr0l
                have HD : Hid (Kz w R w1.heap.size (w1.heap.size + 1) wo.heap.size g (k7 + 1 + 1) Y c c5 us xss (.slice (some ⟨M, 0, none⟩) c cm) ms u12 xs none w9.drew) := Lib.hid (by
                  show Sv _ _ _ _ _ _ _ _ _ _ _ _ _ _ _ _
                  exact V9.out.draw (grown_below R (Below.refl _ _).drew) (V9.out.st.rd.below (Below.refl _ _).drew))
                go_wp2_with fail
                apply wp_region_H (Z := Option (Nat ⊕ (Value ⊕ Value))) (S := fun k => k == 5 || k == 6 || k == 7 || k == 9) (C := fun z w' => Hid (Kz w R w1.heap.size (w1.heap.size + 1) wo.heap.size g (k7 + 1 + 1) Y c c5 us xss (.slice (some ⟨M, 0, none⟩) c cm) ms u12 xs z w')) [0, 1, 2, 3, 4] none
                · kernel_rfl
                · kernel_rfl
                · kernel_rfl
                · exact ⟨rfl, rfl, rfl, rfl, rfl, trivial⟩
                · rfl
                · decide
                · exact HD
                · intro z
                  dsimp only [pickL, nthO]
                  repeat (first | go_big_quiet_skip | (go_big_quiet_want; go_big_quiet_op; first | go_big_quiet_on | (refine ⟨_, fun _ _ => rfl, ?_⟩; go_big_quiet_on)))
                  go_big_quiet_want
                  go_big_quiet_op
                  refine ⟨.slice (some ⟨Y, 0, none⟩) c c5, fun w' hw' => ?_, ?_⟩
                  · have q := (Kz.box7 hw'.out hu0).cell 1
                    simp at q
                    simp [go_sem, q]
                  go_big_quiet_on
                  repeat (first | go_big_quiet_skip | (go_big_quiet_want; go_big_quiet_op; first | go_big_quiet_on | (refine ⟨_, fun _ _ => rfl, ?_⟩; go_big_quiet_on)))
                  go_big_quiet_want
                  go_big_quiet_op
                  refine ⟨.slice (some ⟨Y, 0, none⟩) c c5, fun w' hw' => ?_, ?_⟩
                  · have q := (Kz.box7 hw'.out hu0).cell 1
                    simp at q
                    simp [go_sem, q]
                  go_big_quiet_on
                  go_big_quiet_want
                  go_big_quiet_op
                  refine ⟨.pointer (some ⟨Y, 0, none⟩), fun w' hw' => ?_, ?_⟩
                  · simp [go_sem]
                  go_big_quiet_on
                  exact wpQuiet_nil rfl
                · refine wpAnyH_two 5 6 (by kernel_rfl) ?_ ?_
                  · refine hOp_special (d := some 103) rfl rfl rfl (by kernel_rfl) fun wl hl => ⟨.slice (some ⟨X, 0, none⟩) u cx, wl, none, by have q := Kz.row (show Sv _ _ _ _ _ _ _ _ _ _ _ _ _ _ _ _ from hl.out) hu0; rw [HX0.out] at q; simp [go_sem, q], hl, ?_⟩
                    clear hl
                    refine wpAnyH_special (i := 6) (d := some 104) rfl (by kernel_rfl) rfl rfl (by kernel_rfl) fun wa hc => ⟨.slice (some ⟨wa.heap.size, 0, none⟩) 1 1, wa.alloc (.cells #[.int .i64 1] 3), some (.inl wa.heap.size), .inl (by kernel_rfl), Lib.hid (Kz.build hc.out), ?_⟩
                    clear hc
                    refine wpAnyH_app2 (i := 7) (d := some 105) (v := .slice (some ⟨X, 0, none⟩) u cx) (xs := row xss 0) (y := 1) (B := w1.heap.size + 1) (N := wa.heap.size) (.tmp 103) (.tmp 104) rfl (by kernel_rfl) rfl rfl (by kernel_rfl) rfl rfl rfl fun wb hc => ⟨by have q := hc.out.1.st.own.rows 0 hu0; rw [HX0.out] at q; exact q, by rw [HR0.out]; omega, by have := hc.out.1.st.lo0; have := hc.out.1.st.hi0; omega, hc.out.2, fun v' wc o4 g4 k4 => ⟨some (.inr (.inl v')), Lib.hid ⟨wb, hc.out.1, o4, by rw [HX0.out]; exact g4, by rw [HX0.out]; exact k4⟩, ?_⟩⟩
                    clear hc g4 k4
                    obtain ⟨va, vc, hv'⟩ := Own.form o4
                    subst hv'
                    clear o4
                    refine takeH (i := 8) (d := some 106) (.pointer (some ⟨Y, 0, none⟩)) rfl (by kernel_rfl) rfl rfl (by kernel_rfl) (by kernel_rfl) (by kernel_rfl) (fun w => by simp [go_sem]; intro h; omega) ?_
                    refine wpAnyH_special (i := 9) (d := none) rfl (by kernel_rfl) rfl rfl (by kernel_rfl) fun we he => ?_
                    obtain ⟨⟨y0, d0⟩, d1⟩ := Kz.slot he.out hu0
                    refine ⟨undef, we.setCell ⟨Y, 0, none⟩ (.slice va (row xss 0 ++ [1]).length vc), some (.inr (.inr (.slice va (row xss 0 ++ [1]).length vc))), .inr ⟨by simp [go_sem, Act.put, d0, d1], rfl⟩, Lib.hid (by obtain ⟨wq, s1, s2, s3, s4⟩ := he.out; exact ⟨wq, we, rfl, s1, s2, s3, s4⟩), ?_⟩
                    clear he d0 d1
                    refine ⟨by kernel_rfl, fun wz hz => ?_⟩
                    simp only [Act.put]
                    obtain ⟨wq, wr, hwz, s1, s2, s3, s4⟩ := hz.out
                    have hrl : ∀ j, j < xss.length → (row xss j).length ≤ 3 := fun j hj => by rw [(hX.out j hj).1]; omega
                    have hyl : (row xss 0 ++ [1]).length ≤ 3 := by rw [List.length_append, HR0.out]; simp; omega
                    obtain ⟨t1, t2, t3, t4, _⟩ := Sv.swap s1 hu0 hxc.symm (by omega) hrl hyl s2 s3 s4
                    rw [← hwz] at t3 t4
                    have HS := Lib.hid s1
                    have HO := Lib.hid s2
                    have HGR := Lib.hid s3
                    have HK := Lib.hid s4
                    have HWZ := Lib.hid hwz
                    have p0 := t4.cell 0
                    have p1 := t4.cell 1
                    have p2 := t4.cell 2
                    have r0 := t3.cell 0
                    have r1 := t3.cell 1
                    have r2 := t3.cell 2
                    have f0 := t3.frozen 0
                    have f1 := t3.frozen 1
                    have f2 := t3.frozen 2
                    simp at p0 p1 p2 r0 r1 r2
                    clear hz t1 t2 t3 t4 s1 s2 s3 s4 hwz HD V9 hrl hyl
                    go_wp2
                    refine bodyPost_ret (v := .tuple #[.agg #[.int .i64 g, .slice (some ⟨Y, 0, none⟩) c c5, .slice (some ⟨M, 0, none⟩) c cm], u12]) ?_ rfl ?_
                    · simp [results, Tryd.results86, go_sem, r0, r1, r2]
                    · rw [HWZ.out]
                      exact Sv.swapfin HS.out hu0 hxc.symm (by omega) (fun j hj => by rw [(hX.out j hj).1]; omega) (by rw [List.length_append, HR0.out]; simp; omega) HO.out HGR.out HK.out (by omega) (by omega) h0 h4 (by omega) _ _ _
                  · refine hOp_special (d := some 104) rfl rfl rfl (by kernel_rfl) fun wa hc => ⟨.slice (some ⟨wa.heap.size, 0, none⟩) 1 1, wa.alloc (.cells #[.int .i64 1] 3), some (.inl wa.heap.size), by kernel_rfl, Lib.hid (Kz.build hc.out), ?_⟩
                    clear hc
                    refine wpAnyH_special (i := 5) (d := some 103) rfl (by kernel_rfl) rfl rfl (by kernel_rfl) fun wl hl => ⟨.slice (some ⟨X, 0, none⟩) u cx, wl, some (.inl wa.heap.size), .inl (by have q := Kz.row hl.out.1 hu0; rw [HX0.out] at q; simp [go_sem, q]), hl, ?_⟩
                    clear hl
                    refine wpAnyH_app2 (i := 7) (d := some 105) (v := .slice (some ⟨X, 0, none⟩) u cx) (xs := row xss 0) (y := 1) (B := w1.heap.size + 1) (N := wa.heap.size) (.tmp 103) (.tmp 104) rfl (by kernel_rfl) rfl rfl (by kernel_rfl) rfl rfl rfl fun wb hc => ⟨by have q := hc.out.1.st.own.rows 0 hu0; rw [HX0.out] at q; exact q, by rw [HR0.out]; omega, by have := hc.out.1.st.lo0; have := hc.out.1.st.hi0; omega, hc.out.2, fun v' wc o4 g4 k4 => ⟨some (.inr (.inl v')), Lib.hid ⟨wb, hc.out.1, o4, by rw [HX0.out]; exact g4, by rw [HX0.out]; exact k4⟩, ?_⟩⟩
                    clear hc g4 k4
                    obtain ⟨va, vc, hv'⟩ := Own.form o4
                    subst hv'
                    clear o4
                    refine takeH (i := 8) (d := some 106) (.pointer (some ⟨Y, 0, none⟩)) rfl (by kernel_rfl) rfl rfl (by kernel_rfl) (by kernel_rfl) (by kernel_rfl) (fun w => by simp [go_sem]; intro h; omega) ?_
                    refine wpAnyH_special (i := 9) (d := none) rfl (by kernel_rfl) rfl rfl (by kernel_rfl) fun we he => ?_
                    obtain ⟨⟨y0, d0⟩, d1⟩ := Kz.slot he.out hu0
                    refine ⟨undef, we.setCell ⟨Y, 0, none⟩ (.slice va (row xss 0 ++ [1]).length vc), some (.inr (.inr (.slice va (row xss 0 ++ [1]).length vc))), .inr ⟨by simp [go_sem, Act.put, d0, d1], rfl⟩, Lib.hid (by obtain ⟨wq, s1, s2, s3, s4⟩ := he.out; exact ⟨wq, we, rfl, s1, s2, s3, s4⟩), ?_⟩
                    clear he d0 d1
                    refine ⟨by kernel_rfl, fun wz hz => ?_⟩
                    simp only [Act.put]
                    obtain ⟨wq, wr, hwz, s1, s2, s3, s4⟩ := hz.out
                    have hrl : ∀ j, j < xss.length → (row xss j).length ≤ 3 := fun j hj => by rw [(hX.out j hj).1]; omega
                    have hyl : (row xss 0 ++ [1]).length ≤ 3 := by rw [List.length_append, HR0.out]; simp; omega
                    obtain ⟨t1, t2, t3, t4, _⟩ := Sv.swap s1 hu0 hxc.symm (by omega) hrl hyl s2 s3 s4
                    rw [← hwz] at t3 t4
                    have HS := Lib.hid s1
                    have HO := Lib.hid s2
                    have HGR := Lib.hid s3
                    have HK := Lib.hid s4
                    have HWZ := Lib.hid hwz
                    have p0 := t4.cell 0
                    have p1 := t4.cell 1
                    have p2 := t4.cell 2
                    have r0 := t3.cell 0
                    have r1 := t3.cell 1
                    have r2 := t3.cell 2
                    have f0 := t3.frozen 0
                    have f1 := t3.frozen 1
                    have f2 := t3.frozen 2
                    simp at p0 p1 p2 r0 r1 r2
                    clear hz t1 t2 t3 t4 s1 s2 s3 s4 hwz HD V9 hrl hyl
                    go_wp2
                    refine bodyPost_ret (v := .tuple #[.agg #[.int .i64 g, .slice (some ⟨Y, 0, none⟩) c c5, .slice (some ⟨M, 0, none⟩) c cm], u12]) ?_ rfl ?_
                    · simp [results, Tryd.results86, go_sem, r0, r1, r2]
                    · rw [HWZ.out]
                      exact Sv.swapfin HS.out hu0 hxc.symm (by omega) (fun j hj => by rw [(hX.out j hj).1]; omega) (by rw [List.length_append, HR0.out]; simp; omega) HO.out HGR.out HK.out (by omega) (by omega) h0 h4 (by omega) _ _ _
              · clear z0 z2 c0 c1 c2 r0 r1 r2 f0 f1 f2 p0 p2
                have hrow0 := V9.out.st.own.rows 0 (by rw [V9.out.st.own.len, hxc]; omega)
                have hr0l : (row xss 0).length = u := (hX.out 0 (by omega)).1
                obtain ⟨X, cx, hx0⟩ := own_slice' hrow0 (by rw [hr0l]; omega)
                obtain ⟨a6, c6, e6, hcell⟩ := outer_cell V9.out.st.own.outer
                cases e6
                obtain ⟨Y, rfl, hYl, hY⟩ := hcell 0 (by rw [V9.out.st.own.len, hxc]; omega)
                rw [hx0] at hY hrow0
                have hs1 := hrow0.cellAt 0 (by rw [hr0l]; omega)
                have hs2 := hrow0.frozenAt 0
                rw [hr0l] at hY
                have V10 := Lib.hid (V9.out.zero 0 (by rw [V9.out.st.own.len, hxc]; omega) hx0)
                have hul : us.length = c := by rw [V9.out.st.own.len]; exact hxc
                rw [hul] at p1 V10 ⊢
                obtain ⟨y0, hy0⟩ : ∃ y0, List.map (Value.int .i64) (row xss 0) = y0 := ⟨_, rfl⟩
                have hs3 : ∃ y, w9.cell? ⟨X, 0, none⟩ = some y := ⟨_, hs1.trans (List.getElem?_eq_getElem (by simp [hr0l]; omega))⟩
                obtain ⟨y, hs4⟩ := hs3
                clear hs1 hy0 hrow0
                have p0 := V10.out.st.b7.cell 0
                have p3 := V10.out.st.b7.cell 1
                have p2 := V10.out.st.b7.cell 2
                have r0 := V10.out.st.b4.cell 0
                have r1 := V10.out.st.b4.cell 1
                have r2 := V10.out.st.b4.cell 2
                have f0 := V10.out.st.b4.frozen 0
                have f1 := V10.out.st.b4.frozen 1
                have f2 := V10.out.st.b4.frozen 2
                simp at p0 p2 p3 r0 r1 r2
                have hu1' : (0 : Int) < (u : Int) := by omega
                have hc1' : (0 : Int) < (c : Int) := by omega
                go_wp2
                refine bodyPost_ret (v := .tuple #[.agg #[.int .i64 g, .slice (some ⟨Y, 0, none⟩) c c5, .slice (some ⟨M, 0, none⟩) c cm], u12]) ?_ rfl ?_
                · simp [results, Tryd.results86, go_sem, r0, r1, r2]
                · refine V10.out.fin _ _ _ (by simp; omega) (fun j hj => ?_) (by omega) (by omega) h0 h4 (by omega)
                  rw [List.length_set] at hj
                  by_cases e : 0 = j
                  · subst e; rw [row_set hj, List.length_set, hr0l]; omega
                  · rw [row_set_ne e, (hX.out j hj).1]; omega
          · obtain ⟨ms, hms⟩ : ∃ ms, mkAll g xss xs = ms := ⟨_, rfl⟩
            rw [hms] at V6 hml6
            have HD : Hid ((∃ k7, k7 ≤ k2 + 1 + 0 * 3 ∧ Sv w R w.heap.size w1.heap.size (w1.heap.size + 1) wo.heap.size g w6.drew k7 v us xss (.slice (some ⟨M, 0, none⟩) c cm) ms u12 xs) ∧ ms.length = c) := Lib.hid ⟨⟨_, Nat.le_refl _, V6.out.draw (grown_below R (Below.refl _ _).drew) (V6.out.st.rd.below (Below.refl _ _).drew)⟩, hml6⟩
            go_wp2_with fail
            apply wp_region_H (Z := Nat × List Int) (S := fun k => k == 6 || k == 9 || k == 11) (C := fun z w' => Hid ((∃ k7, k7 ≤ k2 + 1 + z.1 * 3 ∧ Sv w R w.heap.size w1.heap.size (w1.heap.size + 1) wo.heap.size g w' k7 v us xss (.slice (some ⟨M, 0, none⟩) c cm) z.2 u12 xs) ∧ z.2.length = c)) [0, 1, 2, 3, 4, 5, 7, 8] (0, ms)
            · kernel_rfl
            · kernel_rfl
            · kernel_rfl
            · exact ⟨rfl, rfl, rfl, rfl, rfl, rfl, rfl, rfl, trivial⟩
            · rfl
            · decide
            · exact HD
            · intro z
              dsimp only [pickL, nthO]
              repeat (first | go_big_quiet_skip | (go_big_quiet_want; go_big_quiet_op; first | go_big_quiet_on | (refine ⟨_, fun _ _ => rfl, ?_⟩; go_big_quiet_on)))
              go_big_quiet_want
              go_big_quiet_op
              refine ⟨(.slice (some ⟨M, 0, none⟩) c cm), fun w' hw' => ?_, ?_⟩
              · obtain ⟨k7, _, h7⟩ := hw'.out.1
                have q := h7.st.b7.cell 2
                simp at q
                simp [go_sem, q]
              go_big_quiet_on
              repeat (first | go_big_quiet_skip | (go_big_quiet_want; go_big_quiet_op; first | go_big_quiet_on | (refine ⟨_, fun _ _ => rfl, ?_⟩; go_big_quiet_on)))
              go_big_quiet_want
              go_big_quiet_op
              refine ⟨(.slice (some ⟨M, 0, none⟩) c cm), fun w' hw' => ?_, ?_⟩
              · obtain ⟨k7, _, h7⟩ := hw'.out.1
                have q := h7.st.b7.cell 2
                simp at q
                simp [go_sem, q]
              go_big_quiet_on
              repeat (first | go_big_quiet_skip | (go_big_quiet_want; go_big_quiet_op; first | go_big_quiet_on | (refine ⟨_, fun _ _ => rfl, ?_⟩; go_big_quiet_on)))
              exact wpQuiet_nil rfl
            · refine wpAnyH_call (i := 6) (d := some 70) 108 #[.pointer (some ⟨R, 0, none⟩), .int .i64 c] rfl (by kernel_rfl) rfl rfl (by kernel_rfl) (fun _ => by kernel_rfl) fun wa hc => ?_
              obtain ⟨⟨k7, hk7, h7⟩, hl7⟩ := hc.out
              refine (pick_any R k7 _ _ h7.st.rd (by omega)).mono ?_
              rintro e wb ⟨z, rfl, z0, z1, mm, hwb⟩
              have z2 := z1 (by omega)
              refine ⟨_, rfl, (1, ms), Lib.hid ⟨⟨k7 + 1, by simp at hk7 ⊢; omega, by rw [hwb]; exact h7.draw (grown_pick _ R _ mm) (h7.st.rd.next mm)⟩, hl7⟩, ?_⟩
              clear hwb h7 hc z1
              obtain ⟨zn, rfl⟩ : ∃ zn : Nat, z = zn := ⟨z.toNat, by omega⟩
              have zc : zn < c := by omega
              refine wpAnyH_call (i := 9) (d := some 73) 109 #[.pointer (some ⟨R, 0, none⟩), .int .i64 g, .int .i64 0] rfl (by kernel_rfl) rfl rfl (by kernel_rfl) (fun _ => by kernel_rfl) fun wc hc => ?_
              obtain ⟨⟨k8, hk8, h8⟩, hl8⟩ := hc.out
              refine (drawel0_any R k8 g _ h0 h4 h8.st.rd (by simp at hk8; omega)).mono ?_
              rintro e wd ⟨x, rfl, hx, gd, k9, hk9, hr9⟩
              refine ⟨_, rfl, (2, ms), Lib.hid ⟨⟨k9, by simp at hk8 ⊢; omega, h8.draw gd hr9⟩, hl8⟩, ?_⟩
              clear h8 hc gd hr9 hx hk8 hk9
              refine takeH (i := 10) (d := some 74) (.pointer (some ⟨M, zn, none⟩)) rfl (by kernel_rfl) rfl rfl (by kernel_rfl) (by kernel_rfl) (by kernel_rfl) (fun w => by simp [go_sem, zc]) ?_
              refine wpAnyH_special (i := 11) (d := none) rfl (by kernel_rfl) rfl rfl (by kernel_rfl) fun we he => ?_
              obtain ⟨⟨k10, hk10, h10⟩, hl10⟩ := he.out
              have d0 := (show Own we wo.heap.size (.slice (some ⟨M, 0, none⟩) ms.length cm) ms by rw [hl10]; exact h10.mks).cellAt zn (by simp at hl10; omega)
              have d1 := (show Own we wo.heap.size (.slice (some ⟨M, 0, none⟩) ms.length cm) ms by rw [hl10]; exact h10.mks).frozenAt zn
              rw [List.getElem?_eq_getElem (by simp at hl10 ⊢; omega)] at d0
              refine ⟨undef, we.setCell ⟨M, zn, none⟩ (.int .i64 x), (2, ms.set zn x), .inr ⟨by simp [go_sem, d0, d1], rfl⟩, Lib.hid ⟨⟨k10, hk10, h10.put hl10.symm⟩, by simp at hl10 ⊢; exact hl10⟩, ?_⟩
              clear h10 he d0 d1
              refine ⟨by kernel_rfl, fun wz hz => ?_⟩
              simp only [Act.put]
              obtain ⟨⟨k7, hk7', V6⟩, hml6⟩ := hz.out
              have V6 := Lib.hid V6
              have hk7 : k7 ≤ k2 + 7 := by simp at hk7'; omega
              obtain ⟨ms, hms⟩ : ∃ m, ms.set zn x = m := ⟨_, rfl⟩
              simp only [hms] at V6 hml6
              clear hz hms hk7' HD
              go_wp2_with fail
              refine (odd_any R k7 n _ V6.out.st.rd (by omega) hn (by omega)).mono ?_
              rintro e w8 ⟨b8, rfl, mm, hw8⟩
              have V8 : Hid (Sv w R w.heap.size w1.heap.size (w1.heap.size + 1) wo.heap.size g w8 (k7 + 1) v us xss (.slice (some ⟨M, 0, none⟩) c cm) ms u12 xs) := Lib.hid (by rw [hw8]; exact V6.out.draw (grown_pick _ R _ mm) (V6.out.st.rd.next mm))
              clear hw8 V6
              have p0 := V8.out.st.b7.cell 0
              have p1 := V8.out.st.b7.cell 1
              have p2 := V8.out.st.b7.cell 2
              have r0 := V8.out.st.b4.cell 0
              have r1 := V8.out.st.b4.cell 1
              have r2 := V8.out.st.b4.cell 2
              have f0 := V8.out.st.b4.frozen 0
              have f1 := V8.out.st.b4.frozen 1
              have f2 := V8.out.st.b4.frozen 2
              simp at p0 p1 p2 r0 r1 r2
              cases b8
              · obtain ⟨a5, c5, e5, _⟩ := outer_cell V8.out.st.own.outer
                subst e5
                go_wp2
                refine bodyPost_ret (v := .tuple #[.agg #[.int .i64 g, .slice a5 us.length c5, (.slice (some ⟨M, 0, none⟩) c cm)], u12]) ?_ rfl ?_
                · simp [results, Tryd.results86, go_sem, r0, r1, r2]
                · exact V8.out.fin _ _ _ (by omega) (fun j hj => by rw [(hX.out j hj).1]; omega) (by omega) (by omega) h0 h4 (by omega)
              · go_wp2_with fail
                refine (pick_any R _ _ _ V8.out.st.rd (by omega)).mono ?_
                rintro e w9 ⟨z, rfl, z0, z1, mm, hw9⟩
                have z2 := z1 (by omega)
                have V9 : Hid (Sv w R w.heap.size w1.heap.size (w1.heap.size + 1) wo.heap.size g w9 (k7 + 1 + 1) v us xss (.slice (some ⟨M, 0, none⟩) c cm) ms u12 xs) := Lib.hid (by rw [hw9]; exact V8.out.draw (grown_pick _ R _ mm) (V8.out.st.rd.next mm))
                clear hw9 V8 z1 p0 p1 p2 r0 r1 r2 f0 f1 f2
                obtain ⟨a5, c5, e5, _⟩ := outer_cell V9.out.st.own.outer
                subst e5
                have p0 := V9.out.st.b7.cell 0
                have p1 := V9.out.st.b7.cell 1
                have p2 := V9.out.st.b7.cell 2
                have c0 := V9.out.st.b7.frozen 0
                have c1 := V9.out.st.b7.frozen 1
                have c2 := V9.out.st.b7.frozen 2
                have r0 := V9.out.st.b4.cell 0
                have r1 := V9.out.st.b4.cell 1
                have r2 := V9.out.st.b4.cell 2
                have f0 := V9.out.st.b4.frozen 0
                have f1 := V9.out.st.b4.frozen 1
                have f2 := V9.out.st.b4.frozen 2
                simp at p0 p1 p2 r0 r1 r2
                obtain rfl | rfl | rfl | rfl : z = 0 ∨ z = 1 ∨ z = 2 ∨ z = 3 := by omega
                · clear z0 z2
                  go_wp2
                  refine bodyPost_ret (v := .tuple #[.agg #[.int .i64 0, .slice none 0 0, .slice none 0 0], u12]) ?_ rfl ?_
                  · simp [results, Tryd.results86, go_sem, r0, r1, r2]
                  · exact V9.out.fin0 _ _ _ (by omega) (by omega)
                · clear z0 z2 c0 c1 c2 f0 f1 f2 r0 r1 p0 p1
                  have hmk := V9.out.mks
                  have hhi := V9.out.st.hi0
                  have hmk' : Own w9 wo.heap.size (.slice (some ⟨M, 0, none⟩) c cm) ms := hmk
                  go_wp2_with (at_builtin; refine wpAppInt rfl _ _ rfl rfl hmk' (by omega) hhi rfl ?_)
                  intro v6 w10 o6 g6 k6
                  obtain ⟨a6, c6, e6⟩ := Own.form o6
                  subst e6
                  obtain ⟨n6, hn6⟩ : ∃ n6, (ms ++ [1]).length = n6 := ⟨_, rfl⟩
                  have V10 := Lib.hid (V9.out.app o6 g6 k6)
                  rw [hn6] at V10
                  have X7 : Box w10 w1.heap.size [.int .i64 g, .slice a5 us.length c5, .slice (some ⟨M, 0, none⟩) c cm] := V9.out.st.b7.kept (g6.block _ V9.out.st.b7.lt (fun e => by have := (V9.out.mks.lt _ e.symm).1; have := V9.out.st.n7; have := V9.out.st.lo0; omega))
                  clear hmk hmk' hhi o6 g6 k6 r2 p2
                  have p0 := V10.out.st.b7.cell 0
                  have p1 := V10.out.st.b7.cell 1
                  have p2 := V10.out.st.b7.cell 2
                  have r0 := V10.out.st.b4.cell 0
                  have r1 := V10.out.st.b4.cell 1
                  have r2 := V10.out.st.b4.cell 2
                  have f0 := V10.out.st.b4.frozen 0
                  have f1 := V10.out.st.b4.frozen 1
                  have f2 := V10.out.st.b4.frozen 2
                  have d2 := X7.cell 2
                  have e2 := X7.frozen 2
                  simp at p0 p1 p2 r0 r1 r2 d2
                  clear X7
                  go_wp2
                  refine bodyPost_ret (v := .tuple #[.agg #[.int .i64 g, .slice a5 us.length c5, .slice a6 n6 c6], u12]) ?_ rfl ?_
                  · simp [results, Tryd.results86, go_sem, r0, r1, r2]
                  · exact V10.out.fin _ _ _ (by omega) (fun j hj => by rw [(hX.out j hj).1]; omega) (by simp; omega) (by omega) h0 h4 (by omega)
                · clear z0 z2 c0 c1 c2 r0 r1 r2 f0 f1 f2 p0 p1 p2
                  have hrow0 := V9.out.st.own.rows 0 (by rw [V9.out.st.own.len, hxc]; omega)
                  have hr0l : (row xss 0).length = u := (hX.out 0 (by omega)).1
                  obtain ⟨X, cx, hx0⟩ := own_slice' hrow0 (by rw [hr0l]; omega)
                  obtain ⟨a6, c6, e6, hcell⟩ := outer_cell V9.out.st.own.outer
                  cases e6
                  obtain ⟨Y, rfl, hYl, hY⟩ := hcell 0 (by rw [V9.out.st.own.len, hxc]; omega)
                  have hul : us.length = c := by rw [V9.out.st.own.len]; exact hxc
                  have hu0 : 0 < us.length := by omega
                  rw [hul] at V9 ⊢
                  rw [hr0l] at hx0
                  have HX0 := Lib.hid hx0
                  have HR0 := Lib.hid hr0l
                  have hc1' : (0 : Int) < (c : Int) := by omega
                  clear hcell hYl hY hrow0 hx0 hr0l
                  have HD : Hid (Kz w R w1.heap.size (w1.heap.size + 1) wo.heap.size g (k7 + 1 + 1) Y c c5 us xss (.slice (some ⟨M, 0, none⟩) c cm) ms u12 xs none w9.drew) := Lib.hid (by
                    show Sv _ _ _ _ _ _ _ _ _ _ _ _ _ _ _ _
                    exact V9.out.draw (grown_below R (Below.refl _ _).drew) (V9.out.st.rd.below (Below.refl _ _).drew))
                  go_wp2_with fail
                  apply wp_region_H (Z := Option (Nat ⊕ (Value ⊕ Value))) (S := fun k => k == 5 || k == 6 || k == 7 || k == 9) (C := fun z w' => Hid (Kz w R w1.heap.size (w1.heap.size + 1) wo.heap.size g (k7 + 1 + 1) Y c c5 us xss (.slice (some ⟨M, 0, none⟩) c cm) ms u12 xs z w')) [0, 1, 2, 3, 4] none
                  · kernel_rfl
                  · kernel_rfl
                  · kernel_rfl
                  · exact ⟨rfl, rfl, rfl, rfl, rfl, trivial⟩
                  · rfl
                  · decide
                  · exact HD
                  · intro z
                    dsimp only [pickL, nthO]
                    repeat (first | go_big_quiet_skip | (go_big_quiet_want; go_big_quiet_op; first | go_big_quiet_on | (refine ⟨_, fun _ _ => rfl, ?_⟩; go_big_quiet_on)))
                    go_big_quiet_want
                    go_big_quiet_op
                    refine ⟨.slice (some ⟨Y, 0, none⟩) c c5, fun w' hw' => ?_, ?_⟩
                    · have q := (Kz.box7 hw'.out hu0).cell 1
                      simp at q
                      simp [go_sem, q]
                    go_big_quiet_on
                    repeat (first | go_big_quiet_skip | (go_big_quiet_want; go_big_quiet_op; first | go_big_quiet_on | (refine ⟨_, fun _ _ => rfl, ?_⟩; go_big_quiet_on)))
                    go_big_quiet_want
                    go_big_quiet_op
                    refine ⟨.slice (some ⟨Y, 0, none⟩) c c5, fun w' hw' => ?_, ?_⟩
                    · have q := (Kz.box7 hw'.out hu0).cell 1
                      simp at q
                      simp [go_sem, q]
                    go_big_quiet_on
                    go_big_quiet_want
                    go_big_quiet_op
                    refine ⟨.pointer (some ⟨Y, 0, none⟩), fun w' hw' => ?_, ?_⟩
                    · simp [go_sem]
                    go_big_quiet_on
                    exact wpQuiet_nil rfl
                  · refine wpAnyH_two 5 6 (by kernel_rfl) ?_ ?_
                    · refine hOp_special (d := some 103) rfl rfl rfl (by kernel_rfl) fun wl hl => ⟨.slice (some ⟨X, 0, none⟩) u cx, wl, none, by have q := Kz.row (show Sv _ _ _ _ _ _ _ _ _ _ _ _ _ _ _ _ from hl.out) hu0; rw [HX0.out] at q; simp [go_sem, q], hl, ?_⟩
                      clear hl
                      refine wpAnyH_special (i := 6) (d := some 104) rfl (by kernel_rfl) rfl rfl (by kernel_rfl) fun wa hc => ⟨.slice (some ⟨wa.heap.size, 0, none⟩) 1 1, wa.alloc (.cells #[.int .i64 1] 3), some (.inl wa.heap.size), .inl (by kernel_rfl), Lib.hid (Kz.build hc.out), ?_⟩
                      clear hc
                      refine wpAnyH_app2 (i := 7) (d := some 105) (v := .slice (some ⟨X, 0, none⟩) u cx) (xs := row xss 0) (y := 1) (B := w1.heap.size + 1) (N := wa.heap.size) (.tmp 103) (.tmp 104) rfl (by kernel_rfl) rfl rfl (by kernel_rfl) rfl rfl rfl fun wb hc => ⟨by have q := hc.out.1.st.own.rows 0 hu0; rw [HX0.out] at q; exact q, by rw [HR0.out]; omega, by have := hc.out.1.st.lo0; have := hc.out.1.st.hi0; omega, hc.out.2, fun v' wc o4 g4 k4 => ⟨some (.inr (.inl v')), Lib.hid ⟨wb, hc.out.1, o4, by rw [HX0.out]; exact g4, by rw [HX0.out]; exact k4⟩, ?_⟩⟩
                      clear hc g4 k4
                      obtain ⟨va, vc, hv'⟩ := Own.form o4
                      subst hv'
                      clear o4
                      refine takeH (i := 8) (d := some 106) (.pointer (some ⟨Y, 0, none⟩)) rfl (by kernel_rfl) rfl rfl (by kernel_rfl) (by kernel_rfl) (by kernel_rfl) (fun w => by simp [go_sem]; intro h; omega) ?_
                      refine wpAnyH_special (i := 9) (d := none) rfl (by kernel_rfl) rfl rfl (by kernel_rfl) fun we he => ?_
                      obtain ⟨⟨y0, d0⟩, d1⟩ := Kz.slot he.out hu0
                      refine ⟨undef, we.setCell ⟨Y, 0, none⟩ (.slice va (row xss 0 ++ [1]).length vc), some (.inr (.inr (.slice va (row xss 0 ++ [1]).length vc))), .inr ⟨by simp [go_sem, Act.put, d0, d1], rfl⟩, Lib.hid (by obtain ⟨wq, s1, s2, s3, s4⟩ := he.out; exact ⟨wq, we, rfl, s1, s2, s3, s4⟩), ?_⟩
                      clear he d0 d1
                      refine ⟨by kernel_rfl, fun wz hz => ?_⟩
                      simp only [Act.put]
                      obtain ⟨wq, wr, hwz, s1, s2, s3, s4⟩ := hz.out
                      have hrl : ∀ j, j < xss.length → (row xss j).length ≤ 3 := fun j hj => by rw [(hX.out j hj).1]; omega
                      have hyl : (row xss 0 ++ [1]).length ≤ 3 := by rw [List.length_append, HR0.out]; simp; omega
                      obtain ⟨t1, t2, t3, t4, _⟩ := Sv.swap s1 hu0 hxc.symm (by omega) hrl hyl s2 s3 s4
                      rw [← hwz] at t3 t4
                      have HS := Lib.hid s1
                      have HO := Lib.hid s2
                      have HGR := Lib.hid s3
                      have HK := Lib.hid s4
                      have HWZ := Lib.hid hwz
                      have p0 := t4.cell 0
                      have p1 := t4.cell 1
                      have p2 := t4.cell 2
                      have r0 := t3.cell 0
                      have r1 := t3.cell 1
                      have r2 := t3.cell 2
                      have f0 := t3.frozen 0
                      have f1 := t3.frozen 1
                      have f2 := t3.frozen 2
                      simp at p0 p1 p2 r0 r1 r2
                      clear hz t1 t2 t3 t4 s1 s2 s3 s4 hwz HD V9 hrl hyl
                      go_wp2
                      refine bodyPost_ret (v := .tuple #[.agg #[.int .i64 g, .slice (some ⟨Y, 0, none⟩) c c5, .slice (some ⟨M, 0, none⟩) c cm], u12]) ?_ rfl ?_
                      · simp [results, Tryd.results86, go_sem, r0, r1, r2]
                      · rw [HWZ.out]
                        exact Sv.swapfin HS.out hu0 hxc.symm (by omega) (fun j hj => by rw [(hX.out j hj).1]; omega) (by rw [List.length_append, HR0.out]; simp; omega) HO.out HGR.out HK.out (by omega) (by omega) h0 h4 (by omega) _ _ _
                    · refine hOp_special (d := some 104) rfl rfl rfl (by kernel_rfl) fun wa hc => ⟨.slice (some ⟨wa.heap.size, 0, none⟩) 1 1, wa.alloc (.cells #[.int .i64 1] 3), some (.inl wa.heap.size), by kernel_rfl, Lib.hid (Kz.build hc.out), ?_⟩
                      clear hc
                      refine wpAnyH_special (i := 5) (d := some 103) rfl (by kernel_rfl) rfl rfl (by kernel_rfl) fun wl hl => ⟨.slice (some ⟨X, 0, none⟩) u cx, wl, some (.inl wa.heap.size), .inl (by have q := Kz.row hl.out.1 hu0; rw [HX0.out] at q; simp [go_sem, q]), hl, ?_⟩
                      clear hl
                      refine wpAnyH_app2 (i := 7) (d := some 105) (v := .slice (some ⟨X, 0, none⟩) u cx) (xs := row xss 0) (y := 1) (B := w1.heap.size + 1) (N := wa.heap.size) (.tmp 103) (.tmp 104) rfl (by kernel_rfl) rfl rfl (by kernel_rfl) rfl rfl rfl fun wb hc => ⟨by have q := hc.out.1.st.own.rows 0 hu0; rw [HX0.out] at q; exact q, by rw [HR0.out]; omega, by have := hc.out.1.st.lo0; have := hc.out.1.st.hi0; omega, hc.out.2, fun v' wc o4 g4 k4 => ⟨some (.inr (.inl v')), Lib.hid ⟨wb, hc.out.1, o4, by rw [HX0.out]; exact g4, by rw [HX0.out]; exact k4⟩, ?_⟩⟩
                      clear hc g4 k4
                      obtain ⟨va, vc, hv'⟩ := Own.form o4
                      subst hv'
                      clear o4
                      refine takeH (i := 8) (d := some 106) (.pointer (some ⟨Y, 0, none⟩)) rfl (by kernel_rfl) rfl rfl (by kernel_rfl) (by kernel_rfl) (by kernel_rfl) (fun w => by simp [go_sem]; intro h; omega) ?_
                      refine wpAnyH_special (i := 9) (d := none) rfl (by kernel_rfl) rfl rfl (by kernel_rfl) fun we he => ?_
                      obtain ⟨⟨y0, d0⟩, d1⟩ := Kz.slot he.out hu0
                      refine ⟨undef, we.setCell ⟨Y, 0, none⟩ (.slice va (row xss 0 ++ [1]).length vc), some (.inr (.inr (.slice va (row xss 0 ++ [1]).length vc))), .inr ⟨by simp [go_sem, Act.put, d0, d1], rfl⟩, Lib.hid (by obtain ⟨wq, s1, s2, s3, s4⟩ := he.out; exact ⟨wq, we, rfl, s1, s2, s3, s4⟩), ?_⟩
                      clear he d0 d1
                      refine ⟨by kernel_rfl, fun wz hz => ?_⟩
                      simp only [Act.put]
                      obtain ⟨wq, wr, hwz, s1, s2, s3, s4⟩ := hz.out
                      have hrl : ∀ j, j < xss.length → (row xss j).length ≤ 3 := fun j hj => by rw [(hX.out j hj).1]; omega
                      have hyl : (row xss 0 ++ [1]).length ≤ 3 := by rw [List.length_append, HR0.out]; simp; omega
                      obtain ⟨t1, t2, t3, t4, _⟩ := Sv.swap s1 hu0 hxc.symm (by omega) hrl hyl s2 s3 s4
                      rw [← hwz] at t3 t4
                      have HS := Lib.hid s1
                      have HO := Lib.hid s2
                      have HGR := Lib.hid s3
                      have HK := Lib.hid s4
                      have HWZ := Lib.hid hwz
                      have p0 := t4.cell 0
                      have p1 := t4.cell 1
                      have p2 := t4.cell 2
                      have r0 := t3.cell 0
                      have r1 := t3.cell 1
                      have r2 := t3.cell 2
                      have f0 := t3.frozen 0
                      have f1 := t3.frozen 1
                      have f2 := t3.frozen 2
                      simp at p0 p1 p2 r0 r1 r2
                      clear hz t1 t2 t3 t4 s1 s2 s3 s4 hwz HD V9 hrl hyl
                      go_wp2
                      refine bodyPost_ret (v := .tuple #[.agg #[.int .i64 g, .slice (some ⟨Y, 0, none⟩) c c5, .slice (some ⟨M, 0, none⟩) c cm], u12]) ?_ rfl ?_
                      · simp [results, Tryd.results86, go_sem, r0, r1, r2]
                      · rw [HWZ.out]
                        exact Sv.swapfin HS.out hu0 hxc.symm (by omega) (fun j hj => by rw [(hX.out j hj).1]; omega) (by rw [List.length_append, HR0.out]; simp; omega) HO.out HGR.out HK.out (by omega) (by omega) h0 h4 (by omega) _ _ _
                · clear z0 z2 c0 c1 c2 r0 r1 r2 f0 f1 f2 p0 p2
                  have hrow0 := V9.out.st.own.rows 0 (by rw [V9.out.st.own.len, hxc]; omega)
                  have hr0l : (row xss 0).length = u := (hX.out 0 (by omega)).1
                  obtain ⟨X, cx, hx0⟩ := own_slice' hrow0 (by rw [hr0l]; omega)
                  obtain ⟨a6, c6, e6, hcell⟩ := outer_cell V9.out.st.own.outer
                  cases e6
                  obtain ⟨Y, rfl, hYl, hY⟩ := hcell 0 (by rw [V9.out.st.own.len, hxc]; omega)
                  rw [hx0] at hY hrow0
                  have hs1 := hrow0.cellAt 0 (by rw [hr0l]; omega)
                  have hs2 := hrow0.frozenAt 0
                  rw [hr0l] at hY
                  have V10 := Lib.hid (V9.out.zero 0 (by rw [V9.out.st.own.len, hxc]; omega) hx0)
                  have hul : us.length = c := by rw [V9.out.st.own.len]; exact hxc
                  rw [hul] at p1 V10 ⊢
                  obtain ⟨y0, hy0⟩ : ∃ y0, List.map (Value.int .i64) (row xss 0) = y0 := ⟨_, rfl⟩
                  have hs3 : ∃ y, w9.cell? ⟨X, 0, none⟩ = some y := ⟨_, hs1.trans (List.getElem?_eq_getElem (by simp [hr0l]; omega))⟩
                  obtain ⟨y, hs4⟩ := hs3
                  clear hs1 hy0 hrow0
                  have p0 := V10.out.st.b7.cell 0
                  have p3 := V10.out.st.b7.cell 1
                  have p2 := V10.out.st.b7.cell 2
                  have r0 := V10.out.st.b4.cell 0
                  have r1 := V10.out.st.b4.cell 1
                  have r2 := V10.out.st.b4.cell 2
                  have f0 := V10.out.st.b4.frozen 0
                  have f1 := V10.out.st.b4.frozen 1
                  have f2 := V10.out.st.b4.frozen 2
                  simp at p0 p2 p3 r0 r1 r2
                  have hu1' : (0 : Int) < (u : Int) := by omega
                  have hc1' : (0 : Int) < (c : Int) := by omega
                  go_wp2
                  refine bodyPost_ret (v := .tuple #[.agg #[.int .i64 g, .slice (some ⟨Y, 0, none⟩) c c5, .slice (some ⟨M, 0, none⟩) c cm], u12]) ?_ rfl ?_
                  · simp [results, Tryd.results86, go_sem, r0, r1, r2]
                  · refine V10.out.fin _ _ _ (by simp; omega) (fun j hj => ?_) (by omega) (by omega) h0 h4 (by omega)
                    rw [List.length_set] at hj
                    by_cases e : 0 = j
                    · subst e; rw [row_set hj, List.length_set, hr0l]; omega
                    · rw [row_set_ne e, (hX.out j hj).1]; omega
end Go.Proofs.YtclihkcigppgjaaDoor
