/- spec.WordsOk. -/
import Derived.Test.YtclihkcigppgjaaDoorWokI
import Derived.Test.YtclihkcigppgjaaDoorMkS
namespace Go.Proofs.YtclihkcigppgjaaDoor
open Go.RowKit

theorem Own.at {w : World} {B g n cap k : Nat} {xs : List Int} (h : Own w B (.slice (some ⟨g, 0, none⟩) n cap) xs) (hn : xs.length = n) (hk : k < n) : w.cell? ⟨g, k, none⟩ = some (.int .i64 (nth xs k)) := (Own.set h hn hk 0).1.2
theorem own_addr {w : World} {B n cap k : Nat} {a : Option Addr} {xs : List Int} (h : Own w B (.slice a n cap) xs) (hk : k < n) : ∃ g, a = some ⟨g, 0, none⟩ := by
  rcases id h.2 with ⟨h0, h1⟩ | ⟨g, cap', cur, e, _⟩
  · cases h0; omega
  · cases e; exact ⟨g, rfl⟩
/-- What the first k rounds of spec.WordsOk have shown. -/
structure WkTo (g : Int) (mk says makes : List Int) (q : Int) (k : Nat) : Prop where
  el : ∀ j, j < k → elB g (nth says j) = true
  eq : ∀ j, j < k → nth mk j = tim g (nth says j) (gpow g (nth makes j) q)

set_option maxHeartbeats 3200000 in
theorem swok_any (g : Int) (rv mv sv : Value) (q : Int) (tv : Value) (rows : List (List Int)) (makes says tells : List Int) (w : World) (h : Cw w rv mv rows makes) (hs : Ints w sv says) (ht : Ints w tv tells) :
    Calls Tryd.prog 12 #[.agg #[.int .i64 g, rv, mv], .agg #[sv, .int .i64 q, tv]] w fun e w' => e = .returned (.bool (wokB g rows makes says q tells)) ∧ Below w.heap.size w w' := by
  have HH := Lib.hid h
  have HT := Lib.hid ht
  obtain ⟨ra, rc, rfl, k1⟩ := h.rows.opened
  obtain ⟨ma, mc, rfl, k2⟩ := h.makes.opened
  obtain ⟨sa, sc, rfl, k3⟩ := hs.opened
  have hm1 := k1.max
  have hm2 := k2.max
  have hm3 := k3.max
  obtain ⟨n, hn⟩ : ∃ n, rows.length = n := ⟨_, rfl⟩
  obtain ⟨m, hm⟩ : ∃ m, makes.length = m := ⟨_, rfl⟩
  obtain ⟨l, hl⟩ : ∃ l, says.length = l := ⟨_, rfl⟩
  have HM := Lib.hid (show ∀ k, k < m → ∃ M, ma = some ⟨M, 0, none⟩ ∧ ∀ w', Below w.heap.size w w' → w'.cell? ⟨M, k, none⟩ = some (.int .i64 (nth makes k)) from fun k hk => by
    obtain ⟨M, e1, hl, e2⟩ := k2.get k (by rw [hm]; exact hk)
    exact ⟨M, e1, fun w' hb => (hb.cell (p := ⟨M, k, none⟩) hl).trans e2⟩)
  have HSY := Lib.hid (show ∀ k, k < l → ∃ M, sa = some ⟨M, 0, none⟩ ∧ ∀ w', Below w.heap.size w w' → w'.cell? ⟨M, k, none⟩ = some (.int .i64 (nth says k)) from fun k hk => by
    obtain ⟨M, e1, h2, e2⟩ := k3.get k (by rw [hl]; exact hk)
    exact ⟨M, e1, fun w' hb => (hb.cell (p := ⟨M, k, none⟩) h2).trans e2⟩)
  have HN := Lib.hid (show ∀ p : Prop, (Wok g rows makes says q tells → p) → ¬ p → wokB g rows makes says q tells = false from fun p h1 h2 => wok_false fun hc => h2 (h1 hc))
  have HLEN := Lib.hid (show Wok g rows makes says q tells → l = n from fun hw => by rw [← hl, ← hn]; exact hw.len)
  have HNEL := Lib.hid (show Wok g rows makes says q tells → ∀ j, j < l → elB g (nth says j) = true from fun hw j hj => allEl_at hw.el (by rw [hl]; exact hj))
  have HNEQ := Lib.hid (show l = n → Wok g rows makes says q tells → ∀ j, j < n → nth (mkAll g rows tells) j = tim g (nth says j) (gpow g (nth makes j) q) from fun e hw j hj => by
    rw [hw.same]; exact timesTo_nth g says makes q _ j (by rw [hl, e]; exact hj))
  have HYES := Lib.hid (show l = n → Lot g rows makes tells → exB g q = true → WkTo g (mkAll g rows tells) says makes q n → wokB g rows makes says q tells = true from fun e hl' hq hw => by
    refine wok_true.2 ⟨hl', by rw [hl, hn, e], allEl_yes fun j hj => hw.el j (by rw [← e, ← hl]; exact hj), hq, list_eq (by rw [mkAll_len, timesAll_len, hl, hn, e]) fun j hj => ?_⟩
    rw [mkAll_len, hn] at hj
    rw [hw.eq j hj]
    exact (timesTo_nth g says makes q _ j (by rw [hl, e]; exact hj)).symm)
  have HMN := Lib.hid (show Lot g rows makes tells → m = n from fun h => by rw [← hm, ← hn]; exact h.cl.m)
  have HML : Hid ((mkAll g rows tells).length = n) := Lib.hid (by rw [mkAll_len, hn])
  rw [hn] at hm1 HH ⊢
  rw [hm] at hm2 HH ⊢
  rw [hl] at hm3 ⊢
  unfold maxLen at hm1 hm2 hm3
  clear h hs ht k1 k2 k3 hn hm hl
  have HBX := Lib.hid (head2 w [.int .i64 g, .slice ra n rc, .slice ma m mc] [.slice sa l sc, .int .i64 q, tv] 26 28)
  have I0 : Hid (InW ((w.alloc (.cells #[.int .i64 g, .slice ra n rc, .slice ma m mc] 26)).alloc (.cells #[.slice sa l sc, .int .i64 q, tv] 28)) (w.heap.size + 2) ((w.alloc (.cells #[.int .i64 g, .slice ra n rc, .slice ma m mc] 26)).alloc (.cells #[.slice sa l sc, .int .i64 q, tv] 28))) := Lib.hid (InW.start (by simp) (Below.refl _ _))
  cases h2 : lotB g rows makes tells
  · have HX := Lib.hid (HN.out _ (fun hw => hw.lot) (fun hl => by rw [lotB_true.2 hl] at h2; cases h2))
    go_enter Tryd.func12, Tryd.ntmps12
    go_wp2_with fail
    refine (sexps_any g _ _ tv rows makes tells _ (HH.out.on (HBX.out _ I0.out).2.2) (HT.out.below (HBX.out _ I0.out).2.2)).mono ?_
    rintro e w1 ⟨rfl, hb1⟩
    rw [h2]
    have I1 := Lib.hid (I0.out.on hb1)
    clear hb1
    go_wp2
    go_ret
    exact ⟨by rw [HX.out]; rfl, (HBX.out _ I1.out).2.2⟩
  have hlot := lotB_true.1 h2
  have HLOT := Lib.hid hlot
  cases h3 : exB g q
  · have HX := Lib.hid (HN.out _ (fun hw => hw.ex) (fun hl => by rw [h3] at hl; cases hl))
    clear hlot
    go_enter Tryd.func12, Tryd.ntmps12
    go_wp2_with fail
    refine (sexps_any g _ _ tv rows makes tells _ (HH.out.on (HBX.out _ I0.out).2.2) (HT.out.below (HBX.out _ I0.out).2.2)).mono ?_
    rintro e w1 ⟨rfl, hb1⟩
    rw [h2]
    have I1 := Lib.hid (I0.out.on hb1)
    clear hb1
    have p0 := (HBX.out _ I1.out).1.cell 0
    have p1 := (HBX.out _ I1.out).1.cell 1
    have p2 := (HBX.out _ I1.out).1.cell 2
    have r0 := (HBX.out _ I1.out).2.1.cell 0
    have r1 := (HBX.out _ I1.out).2.1.cell 1
    have r2 := (HBX.out _ I1.out).2.1.cell 2
    simp at p0 p1 p2 r0 r1 r2
    go_wp2_with fail
    refine (sex_is h3 _).mono ?_
    rintro e w2 ⟨rfl, hb2⟩
    have I2 := Lib.hid (I1.out.on hb2)
    clear hb2 p0 p1 p2 r0 r1 r2
    go_wp2
    go_ret
    exact ⟨by rw [HX.out]; rfl, (HBX.out _ I2.out).2.2⟩
  by_cases hln : l = n
  case neg =>
    have HX := Lib.hid (HN.out _ HLEN.out hln)
    have hd : ((l : Int) != (n : Int)) = true := by rw [bne_iff_ne]; omega
    clear hlot
    go_enter Tryd.func12, Tryd.ntmps12
    go_wp2_with fail
    refine (sexps_any g _ _ tv rows makes tells _ (HH.out.on (HBX.out _ I0.out).2.2) (HT.out.below (HBX.out _ I0.out).2.2)).mono ?_
    rintro e w1 ⟨rfl, hb1⟩
    rw [h2]
    have I1 := Lib.hid (I0.out.on hb1)
    clear hb1
    have p0 := (HBX.out _ I1.out).1.cell 0
    have p1 := (HBX.out _ I1.out).1.cell 1
    have p2 := (HBX.out _ I1.out).1.cell 2
    have r0 := (HBX.out _ I1.out).2.1.cell 0
    have r1 := (HBX.out _ I1.out).2.1.cell 1
    have r2 := (HBX.out _ I1.out).2.1.cell 2
    simp at p0 p1 p2 r0 r1 r2
    go_wp2_with fail
    refine (sex_is h3 _).mono ?_
    rintro e w2 ⟨rfl, hb2⟩
    have I2 := Lib.hid (I1.out.on hb2)
    clear hb2 p0 p1 p2 r0 r1 r2
    have p0 := (HBX.out _ I2.out).1.cell 0
    have p1 := (HBX.out _ I2.out).1.cell 1
    have p2 := (HBX.out _ I2.out).1.cell 2
    have r0 := (HBX.out _ I2.out).2.1.cell 0
    have r1 := (HBX.out _ I2.out).2.1.cell 1
    have r2 := (HBX.out _ I2.out).2.1.cell 2
    simp at p0 p1 p2 r0 r1 r2
    go_wp2
    go_ret
    exact ⟨by rw [HX.out]; rfl, (HBX.out _ I2.out).2.2⟩
  have hmn := HMN.out hlot
  subst hln
  have hmn2 := hmn.symm
  clear hmn
  subst hmn2
  have hd : ((l : Int) != (l : Int)) = false := by simp
  have HMK := Lib.hid hlot.mkd
  have hl3 := hlot.cl.r3
  have HCM := Lib.hid hlot.cl.makes
  have HCL := Lib.hid hlot.cl.m
  have h0 := hlot.cl.g0
  have h4 := hlot.cl.g4
  have HQ := Lib.hid (ex_pow h3)
  have H3 := Lib.hid h3
  obtain ⟨mk, hmk⟩ : ∃ mk, mkAll g rows tells = mk := ⟨_, rfl⟩
  have HMKS := Lib.hid hmk
  rw [hmk] at HML HNEQ HYES
  have HMEL := Lib.hid (show ∀ j, j < l → elB g (nth makes j) = true from fun j hj => allEl_at HCM.out (by have e : rows.length = l := (by rw [← HML.out, ← HMKS.out, mkAll_len]); rw [HCL.out, e]; exact hj))
  clear hlot hmk
  go_enter Tryd.func12, Tryd.ntmps12
  go_wp2_with fail
  refine (sexps_any g _ _ tv rows makes tells _ (HH.out.on (HBX.out _ I0.out).2.2) (HT.out.below (HBX.out _ I0.out).2.2)).mono ?_
  rintro e w1 ⟨rfl, hb1⟩
  rw [h2]
  have I1 := Lib.hid (I0.out.on hb1)
  clear hb1
  have p0 := (HBX.out _ I1.out).1.cell 0
  have p1 := (HBX.out _ I1.out).1.cell 1
  have p2 := (HBX.out _ I1.out).1.cell 2
  have r0 := (HBX.out _ I1.out).2.1.cell 0
  have r1 := (HBX.out _ I1.out).2.1.cell 1
  have r2 := (HBX.out _ I1.out).2.1.cell 2
  simp at p0 p1 p2 r0 r1 r2
  go_wp2_with fail
  refine (sex_is h3 _).mono ?_
  rintro e w2 ⟨rfl, hb2⟩
  have I2 := Lib.hid (I1.out.on hb2)
  clear hb2 p0 p1 p2 r0 r1 r2
  have p0 := (HBX.out _ I2.out).1.cell 0
  have p1 := (HBX.out _ I2.out).1.cell 1
  have p2 := (HBX.out _ I2.out).1.cell 2
  have r0 := (HBX.out _ I2.out).2.1.cell 0
  have r1 := (HBX.out _ I2.out).2.1.cell 1
  have r2 := (HBX.out _ I2.out).2.1.cell 2
  simp at p0 p1 p2 r0 r1 r2
  go_wp2_with fail
  refine (smake_any g _ _ tv rows tells _ (HH.out.on (HBX.out _ I2.out).2.2).rows (HT.out.below (HBX.out _ I2.out).2.2) HMK.out).mono ?_
  rintro e w3 ⟨v, rfl, ho, hb3⟩
  rw [HMKS.out] at ho
  obtain ⟨va, vc, hv⟩ := Own.form ho
  rw [HML.out] at hv
  have K3 : Hid (K2 ((w.alloc (.cells #[.int .i64 g, .slice ra l rc, .slice ma l mc] 26)).alloc (.cells #[.slice sa l sc, .int .i64 q, tv] 28)) (w.heap.size + 2) mk [] (some (v, none)) w3) := Lib.hid ⟨I2.out.on hb3, own_mono ho I2.out.2⟩
  subst hv
  clear ho hb3 p0 p1 p2 r0 r1 r2 hd
  go_wp2
  go_loopw [6] (fun i wr => ∃ k : Nat, k ≤ l ∧ i = .int .i64 k ∧ Hid (WkTo g mk says makes q k) ∧ Hid (K2 ((w.alloc (.cells #[.int .i64 g, .slice ra l rc, .slice ma l mc] 26)).alloc (.cells #[.slice sa l sc, .int .i64 q, tv] 28)) (w.heap.size + 2) mk [] (some (.slice va l vc, none)) wr)) (fun i _ => l - (intOf i).toNat)
  case atStart => exact ⟨0, by omega, rfl, Lib.hid ⟨fun j hj => by omega, fun j hj => by omega⟩, K3⟩
  case round =>
    obtain ⟨k, hk, rfl, hj, hI⟩ := hrel
    obtain ⟨wo, rfl⟩ : ∃ wo : World, wo = wr := ⟨_, rfl⟩
    clear K3
    by_cases hlt : k < l
    · obtain ⟨V, rfl⟩ := own_addr hI.out.2 hlt
      obtain ⟨M, rfl, hmk⟩ := HM.out k hlt
      obtain ⟨Y, rfl, hsy⟩ := HSY.out k hlt
      have HMC := Lib.hid hmk
      have HSC := Lib.hid hsy
      have HVC := Lib.hid (show ∀ w', K2 ((w.alloc (.cells #[.int .i64 g, .slice ra l rc, .slice (some ⟨M, 0, none⟩) l mc] 26)).alloc (.cells #[.slice (some ⟨Y, 0, none⟩) l sc, .int .i64 q, tv] 28)) (w.heap.size + 2) mk [] (some (.slice (some ⟨V, 0, none⟩) l vc, none)) w' → w'.cell? ⟨V, k, none⟩ = some (.int .i64 (nth mk k)) from fun w' h => Own.at h.2 HML.out hlt)
      have HBY := Lib.hid (head2 w [.int .i64 g, .slice ra l rc, .slice (some ⟨M, 0, none⟩) l mc] [.slice (some ⟨Y, 0, none⟩) l sc, .int .i64 q, tv] 26 28)
      have HD : Hid (K2 ((w.alloc (.cells #[.int .i64 g, .slice ra l rc, .slice (some ⟨M, 0, none⟩) l mc] 26)).alloc (.cells #[.slice (some ⟨Y, 0, none⟩) l sc, .int .i64 q, tv] 28)) (w.heap.size + 2) mk [] (some (.slice (some ⟨V, 0, none⟩) l vc, none)) wo.drew) := Lib.hid (hI.out.on (Below.refl _ _).drew)
      have hlt1 : (k : Int) < (l : Int) := by omega
      clear hmk hsy
      cases he1 : elB g (nth says k)
      · have HX := Lib.hid (HN.out _ HNEL.out (fun h => by have := h k hlt; rw [he1] at this; cases this))
        go_wp2_with fail
        refine wp_region_class (C := fun w' => Hid (K2 ((w.alloc (.cells #[.int .i64 g, .slice ra l rc, .slice (some ⟨M, 0, none⟩) l mc] 26)).alloc (.cells #[.slice (some ⟨Y, 0, none⟩) l sc, .int .i64 q, tv] 28)) (w.heap.size + 2) mk [] (some (.slice (some ⟨V, 0, none⟩) l vc, none)) w')) (by kernel_rfl) (by kernel_rfl) HD ?_
        repeat (first | go_big_quiet_skip | (go_big_quiet_want; go_big_quiet_op; first | go_big_quiet_on | (refine ⟨_, fun _ _ => rfl, ?_⟩; go_big_quiet_on)))
        go_big_quiet_want
        go_big_quiet_op
        refine ⟨.int .i64 g, fun w' hw' => ?_, ?_⟩
        · have q := (HBY.out _ hw'.out.inw).1.cell 0
          try simp at q
          simp [go_sem, q]
        go_big_quiet_on
        repeat (first | go_big_quiet_skip | (go_big_quiet_want; go_big_quiet_op; first | go_big_quiet_on | (refine ⟨_, fun _ _ => rfl, ?_⟩; go_big_quiet_on)))
        go_big_quiet_want
        go_big_quiet_op
        refine ⟨.slice (some ⟨Y, 0, none⟩) l sc, fun w' hw' => ?_, ?_⟩
        · have q := (HBY.out _ hw'.out.inw).2.1.cell 0
          try simp at q
          simp [go_sem, q]
        go_big_quiet_on
        repeat (first | go_big_quiet_skip | (go_big_quiet_want; go_big_quiet_op; first | go_big_quiet_on | (refine ⟨_, fun _ _ => rfl, ?_⟩; go_big_quiet_on)))
        go_big_quiet_want
        go_big_quiet_op
        refine ⟨.int .i64 (nth says k), fun w' hw' => ?_, ?_⟩
        · have q := HSC.out w' (HBY.out _ hw'.out.inw).2.2
          try simp at q
          simp [go_sem, q]
        go_big_quiet_on
        repeat (first | go_big_quiet_skip | (go_big_quiet_want; go_big_quiet_op; first | go_big_quiet_on | (refine ⟨_, fun _ _ => rfl, ?_⟩; go_big_quiet_on)))
        go_big_quiet_want
        go_big_quiet_op
        go_big_quiet_call ((intro hw; exact (sel_is he1 _).mono fun _ _ ⟨he, hb⟩ => ⟨he, Lib.hid (K2.on hw.out hb)⟩))
        repeat (first | go_big_quiet_skip | (go_big_quiet_want; go_big_quiet_op; first | go_big_quiet_on | (refine ⟨_, fun _ _ => rfl, ?_⟩; go_big_quiet_on)))
        refine wpQuiet_nil ?_
        intro w2 hw2
        clear HD hI
        go_wp2
        go_ret
        exact ⟨by rw [HX.out]; rfl, (HBY.out _ hw2.out.inw).2.2⟩
      · have hme := HMEL.out k hlt
        have bd1 := elB_bound hme
        have bd2 := elB_bound he1
        have bd3 := elB_bound (gp_el hme q)
        have HPW := Lib.hid (show ∀ w', Calls Tryd.prog 53 #[.int .i64 g, .int .i64 (nth makes k), .int .i64 q] w' fun e w'' => e = .returned (.int .i64 (gp g (nth makes k) q)) ∧ Below w'.heap.size w' w'' from fun w' => spow_any g _ _ w' h0 h4 (by omega) (by omega) HQ.out.1 HQ.out.2)
        obtain ⟨y, hy⟩ : ∃ y, tim g (nth says k) (gpow g (nth makes k) q) = y := ⟨_, rfl⟩
        have HTM := Lib.hid (show ∀ w', Calls Tryd.prog 52 #[.int .i64 g, .int .i64 (nth says k), .int .i64 (gp g (nth makes k) q)] w' fun e w'' => e = .returned (.int .i64 y) ∧ Below w'.heap.size w' w'' from fun w' => by
          rw [← hy, gpow_ex hme H3.out, tim_yes he1 (gp_el hme q)]
          exact stms_any g _ _ w' h0 h4 (by omega) (by omega) (by omega) (by omega))
        have HY := Lib.hid hy
        clear bd1 bd2 bd3 hme hy
        by_cases hxy : nth mk k = y
        · have hq : (nth mk k != y) = false := by simpa using hxy
          have HJ : Hid (WkTo g mk says makes q (k + 1)) := Lib.hid ⟨fun j hj' => by
            by_cases e : j < k
            · exact hj.out.el j e
            · obtain rfl : j = k := by omega
              exact he1, fun j hj' => by
            by_cases e : j < k
            · exact hj.out.eq j e
            · obtain rfl : j = k := by omega
              rw [HY.out]; exact hxy⟩
          clear hxy
          go_wp2_with fail
          refine wp_region_class (C := fun w' => Hid (K2 ((w.alloc (.cells #[.int .i64 g, .slice ra l rc, .slice (some ⟨M, 0, none⟩) l mc] 26)).alloc (.cells #[.slice (some ⟨Y, 0, none⟩) l sc, .int .i64 q, tv] 28)) (w.heap.size + 2) mk [] (some (.slice (some ⟨V, 0, none⟩) l vc, none)) w')) (by kernel_rfl) (by kernel_rfl) HD ?_
          repeat (first | go_big_quiet_skip | (go_big_quiet_want; go_big_quiet_op; first | go_big_quiet_on | (refine ⟨_, fun _ _ => rfl, ?_⟩; go_big_quiet_on)))
          go_big_quiet_want
          go_big_quiet_op
          refine ⟨.int .i64 g, fun w' hw' => ?_, ?_⟩
          · have q := (HBY.out _ hw'.out.inw).1.cell 0
            try simp at q
            simp [go_sem, q]
          go_big_quiet_on
          repeat (first | go_big_quiet_skip | (go_big_quiet_want; go_big_quiet_op; first | go_big_quiet_on | (refine ⟨_, fun _ _ => rfl, ?_⟩; go_big_quiet_on)))
          go_big_quiet_want
          go_big_quiet_op
          refine ⟨.slice (some ⟨Y, 0, none⟩) l sc, fun w' hw' => ?_, ?_⟩
          · have q := (HBY.out _ hw'.out.inw).2.1.cell 0
            try simp at q
            simp [go_sem, q]
          go_big_quiet_on
          repeat (first | go_big_quiet_skip | (go_big_quiet_want; go_big_quiet_op; first | go_big_quiet_on | (refine ⟨_, fun _ _ => rfl, ?_⟩; go_big_quiet_on)))
          go_big_quiet_want
          go_big_quiet_op
          refine ⟨.int .i64 (nth says k), fun w' hw' => ?_, ?_⟩
          · have q := HSC.out w' (HBY.out _ hw'.out.inw).2.2
            try simp at q
            simp [go_sem, q]
          go_big_quiet_on
          repeat (first | go_big_quiet_skip | (go_big_quiet_want; go_big_quiet_op; first | go_big_quiet_on | (refine ⟨_, fun _ _ => rfl, ?_⟩; go_big_quiet_on)))
          go_big_quiet_want
          go_big_quiet_op
          go_big_quiet_call ((intro hw; exact (sel_is he1 _).mono fun _ _ ⟨he, hb⟩ => ⟨he, Lib.hid (K2.on hw.out hb)⟩))
          repeat (first | go_big_quiet_skip | (go_big_quiet_want; go_big_quiet_op; first | go_big_quiet_on | (refine ⟨_, fun _ _ => rfl, ?_⟩; go_big_quiet_on)))
          go_big_quiet_want
          go_big_quiet_op
          refine ⟨.int .i64 (nth mk k), fun w' hw' => ?_, ?_⟩
          · have q := HVC.out w' hw'.out
            try simp at q
            simp [go_sem, q]
          go_big_quiet_on
          repeat (first | go_big_quiet_skip | (go_big_quiet_want; go_big_quiet_op; first | go_big_quiet_on | (refine ⟨_, fun _ _ => rfl, ?_⟩; go_big_quiet_on)))
          go_big_quiet_want
          go_big_quiet_op
          refine ⟨.int .i64 g, fun w' hw' => ?_, ?_⟩
          · have q := (HBY.out _ hw'.out.inw).1.cell 0
            try simp at q
            simp [go_sem, q]
          go_big_quiet_on
          repeat (first | go_big_quiet_skip | (go_big_quiet_want; go_big_quiet_op; first | go_big_quiet_on | (refine ⟨_, fun _ _ => rfl, ?_⟩; go_big_quiet_on)))
          go_big_quiet_want
          go_big_quiet_op
          refine ⟨.slice (some ⟨Y, 0, none⟩) l sc, fun w' hw' => ?_, ?_⟩
          · have q := (HBY.out _ hw'.out.inw).2.1.cell 0
            try simp at q
            simp [go_sem, q]
          go_big_quiet_on
          repeat (first | go_big_quiet_skip | (go_big_quiet_want; go_big_quiet_op; first | go_big_quiet_on | (refine ⟨_, fun _ _ => rfl, ?_⟩; go_big_quiet_on)))
          go_big_quiet_want
          go_big_quiet_op
          refine ⟨.int .i64 (nth says k), fun w' hw' => ?_, ?_⟩
          · have q := HSC.out w' (HBY.out _ hw'.out.inw).2.2
            try simp at q
            simp [go_sem, q]
          go_big_quiet_on
          repeat (first | go_big_quiet_skip | (go_big_quiet_want; go_big_quiet_op; first | go_big_quiet_on | (refine ⟨_, fun _ _ => rfl, ?_⟩; go_big_quiet_on)))
          go_big_quiet_want
          go_big_quiet_op
          refine ⟨.int .i64 g, fun w' hw' => ?_, ?_⟩
          · have q := (HBY.out _ hw'.out.inw).1.cell 0
            try simp at q
            simp [go_sem, q]
          go_big_quiet_on
          repeat (first | go_big_quiet_skip | (go_big_quiet_want; go_big_quiet_op; first | go_big_quiet_on | (refine ⟨_, fun _ _ => rfl, ?_⟩; go_big_quiet_on)))
          go_big_quiet_want
          go_big_quiet_op
          refine ⟨.slice (some ⟨M, 0, none⟩) l mc, fun w' hw' => ?_, ?_⟩
          · have q := (HBY.out _ hw'.out.inw).1.cell 2
            try simp at q
            simp [go_sem, q]
          go_big_quiet_on
          repeat (first | go_big_quiet_skip | (go_big_quiet_want; go_big_quiet_op; first | go_big_quiet_on | (refine ⟨_, fun _ _ => rfl, ?_⟩; go_big_quiet_on)))
          go_big_quiet_want
          go_big_quiet_op
          refine ⟨.int .i64 (nth makes k), fun w' hw' => ?_, ?_⟩
          · have q := HMC.out w' (HBY.out _ hw'.out.inw).2.2
            try simp at q
            simp [go_sem, q]
          go_big_quiet_on
          repeat (first | go_big_quiet_skip | (go_big_quiet_want; go_big_quiet_op; first | go_big_quiet_on | (refine ⟨_, fun _ _ => rfl, ?_⟩; go_big_quiet_on)))
          go_big_quiet_want
          go_big_quiet_op
          refine ⟨.int .i64 q, fun w' hw' => ?_, ?_⟩
          · have q := (HBY.out _ hw'.out.inw).2.1.cell 1
            try simp at q
            simp [go_sem, q]
          go_big_quiet_on
          repeat (first | go_big_quiet_skip | (go_big_quiet_want; go_big_quiet_op; first | go_big_quiet_on | (refine ⟨_, fun _ _ => rfl, ?_⟩; go_big_quiet_on)))
          go_big_quiet_want
          go_big_quiet_op
          go_big_quiet_call ((intro hw; exact (HPW.out _).mono fun _ _ ⟨he, hb⟩ => ⟨he, Lib.hid (K2.on hw.out hb)⟩))
          repeat (first | go_big_quiet_skip | (go_big_quiet_want; go_big_quiet_op; first | go_big_quiet_on | (refine ⟨_, fun _ _ => rfl, ?_⟩; go_big_quiet_on)))
          go_big_quiet_want
          go_big_quiet_op
          go_big_quiet_call ((intro hw; exact (HTM.out _).mono fun _ _ ⟨he, hb⟩ => ⟨he, Lib.hid (K2.on hw.out hb)⟩))
          repeat (first | go_big_quiet_skip | (go_big_quiet_want; go_big_quiet_op; first | go_big_quiet_on | (refine ⟨_, fun _ _ => rfl, ?_⟩; go_big_quiet_on)))
          refine wpQuiet_nil ?_
          intro w2 HW2
          clear HD hI hj he1
          go_wp2
          go_roundw
          case rel => exact ⟨k + 1, by omega, by go_num, HJ, HW2⟩
          case measure => simp [intOf]; omega
        · have hq : (nth mk k != y) = true := by simpa using hxy
          have HX := Lib.hid (HN.out _ (HNEQ.out (by simp)) (fun h => hxy (by rw [h k hlt]; exact HY.out)))
          clear hxy
          go_wp2_with fail
          refine wp_region_class (C := fun w' => Hid (K2 ((w.alloc (.cells #[.int .i64 g, .slice ra l rc, .slice (some ⟨M, 0, none⟩) l mc] 26)).alloc (.cells #[.slice (some ⟨Y, 0, none⟩) l sc, .int .i64 q, tv] 28)) (w.heap.size + 2) mk [] (some (.slice (some ⟨V, 0, none⟩) l vc, none)) w')) (by kernel_rfl) (by kernel_rfl) HD ?_
          repeat (first | go_big_quiet_skip | (go_big_quiet_want; go_big_quiet_op; first | go_big_quiet_on | (refine ⟨_, fun _ _ => rfl, ?_⟩; go_big_quiet_on)))
          go_big_quiet_want
          go_big_quiet_op
          refine ⟨.int .i64 g, fun w' hw' => ?_, ?_⟩
          · have q := (HBY.out _ hw'.out.inw).1.cell 0
            try simp at q
            simp [go_sem, q]
          go_big_quiet_on
          repeat (first | go_big_quiet_skip | (go_big_quiet_want; go_big_quiet_op; first | go_big_quiet_on | (refine ⟨_, fun _ _ => rfl, ?_⟩; go_big_quiet_on)))
          go_big_quiet_want
          go_big_quiet_op
          refine ⟨.slice (some ⟨Y, 0, none⟩) l sc, fun w' hw' => ?_, ?_⟩
          · have q := (HBY.out _ hw'.out.inw).2.1.cell 0
            try simp at q
            simp [go_sem, q]
          go_big_quiet_on
          repeat (first | go_big_quiet_skip | (go_big_quiet_want; go_big_quiet_op; first | go_big_quiet_on | (refine ⟨_, fun _ _ => rfl, ?_⟩; go_big_quiet_on)))
          go_big_quiet_want
          go_big_quiet_op
          refine ⟨.int .i64 (nth says k), fun w' hw' => ?_, ?_⟩
          · have q := HSC.out w' (HBY.out _ hw'.out.inw).2.2
            try simp at q
            simp [go_sem, q]
          go_big_quiet_on
          repeat (first | go_big_quiet_skip | (go_big_quiet_want; go_big_quiet_op; first | go_big_quiet_on | (refine ⟨_, fun _ _ => rfl, ?_⟩; go_big_quiet_on)))
          go_big_quiet_want
          go_big_quiet_op
          go_big_quiet_call ((intro hw; exact (sel_is he1 _).mono fun _ _ ⟨he, hb⟩ => ⟨he, Lib.hid (K2.on hw.out hb)⟩))
          repeat (first | go_big_quiet_skip | (go_big_quiet_want; go_big_quiet_op; first | go_big_quiet_on | (refine ⟨_, fun _ _ => rfl, ?_⟩; go_big_quiet_on)))
          go_big_quiet_want
          go_big_quiet_op
          refine ⟨.int .i64 (nth mk k), fun w' hw' => ?_, ?_⟩
          · have q := HVC.out w' hw'.out
            try simp at q
            simp [go_sem, q]
          go_big_quiet_on
          repeat (first | go_big_quiet_skip | (go_big_quiet_want; go_big_quiet_op; first | go_big_quiet_on | (refine ⟨_, fun _ _ => rfl, ?_⟩; go_big_quiet_on)))
          go_big_quiet_want
          go_big_quiet_op
          refine ⟨.int .i64 g, fun w' hw' => ?_, ?_⟩
          · have q := (HBY.out _ hw'.out.inw).1.cell 0
            try simp at q
            simp [go_sem, q]
          go_big_quiet_on
          repeat (first | go_big_quiet_skip | (go_big_quiet_want; go_big_quiet_op; first | go_big_quiet_on | (refine ⟨_, fun _ _ => rfl, ?_⟩; go_big_quiet_on)))
          go_big_quiet_want
          go_big_quiet_op
          refine ⟨.slice (some ⟨Y, 0, none⟩) l sc, fun w' hw' => ?_, ?_⟩
          · have q := (HBY.out _ hw'.out.inw).2.1.cell 0
            try simp at q
            simp [go_sem, q]
          go_big_quiet_on
          repeat (first | go_big_quiet_skip | (go_big_quiet_want; go_big_quiet_op; first | go_big_quiet_on | (refine ⟨_, fun _ _ => rfl, ?_⟩; go_big_quiet_on)))
          go_big_quiet_want
          go_big_quiet_op
          refine ⟨.int .i64 (nth says k), fun w' hw' => ?_, ?_⟩
          · have q := HSC.out w' (HBY.out _ hw'.out.inw).2.2
            try simp at q
            simp [go_sem, q]
          go_big_quiet_on
          repeat (first | go_big_quiet_skip | (go_big_quiet_want; go_big_quiet_op; first | go_big_quiet_on | (refine ⟨_, fun _ _ => rfl, ?_⟩; go_big_quiet_on)))
          go_big_quiet_want
          go_big_quiet_op
          refine ⟨.int .i64 g, fun w' hw' => ?_, ?_⟩
          · have q := (HBY.out _ hw'.out.inw).1.cell 0
            try simp at q
            simp [go_sem, q]
          go_big_quiet_on
          repeat (first | go_big_quiet_skip | (go_big_quiet_want; go_big_quiet_op; first | go_big_quiet_on | (refine ⟨_, fun _ _ => rfl, ?_⟩; go_big_quiet_on)))
          go_big_quiet_want
          go_big_quiet_op
          refine ⟨.slice (some ⟨M, 0, none⟩) l mc, fun w' hw' => ?_, ?_⟩
          · have q := (HBY.out _ hw'.out.inw).1.cell 2
            try simp at q
            simp [go_sem, q]
          go_big_quiet_on
          repeat (first | go_big_quiet_skip | (go_big_quiet_want; go_big_quiet_op; first | go_big_quiet_on | (refine ⟨_, fun _ _ => rfl, ?_⟩; go_big_quiet_on)))
          go_big_quiet_want
          go_big_quiet_op
          refine ⟨.int .i64 (nth makes k), fun w' hw' => ?_, ?_⟩
          · have q := HMC.out w' (HBY.out _ hw'.out.inw).2.2
            try simp at q
            simp [go_sem, q]
          go_big_quiet_on
          repeat (first | go_big_quiet_skip | (go_big_quiet_want; go_big_quiet_op; first | go_big_quiet_on | (refine ⟨_, fun _ _ => rfl, ?_⟩; go_big_quiet_on)))
          go_big_quiet_want
          go_big_quiet_op
          refine ⟨.int .i64 q, fun w' hw' => ?_, ?_⟩
          · have q := (HBY.out _ hw'.out.inw).2.1.cell 1
            try simp at q
            simp [go_sem, q]
          go_big_quiet_on
          repeat (first | go_big_quiet_skip | (go_big_quiet_want; go_big_quiet_op; first | go_big_quiet_on | (refine ⟨_, fun _ _ => rfl, ?_⟩; go_big_quiet_on)))
          go_big_quiet_want
          go_big_quiet_op
          go_big_quiet_call ((intro hw; exact (HPW.out _).mono fun _ _ ⟨he, hb⟩ => ⟨he, Lib.hid (K2.on hw.out hb)⟩))
          repeat (first | go_big_quiet_skip | (go_big_quiet_want; go_big_quiet_op; first | go_big_quiet_on | (refine ⟨_, fun _ _ => rfl, ?_⟩; go_big_quiet_on)))
          go_big_quiet_want
          go_big_quiet_op
          go_big_quiet_call ((intro hw; exact (HTM.out _).mono fun _ _ ⟨he, hb⟩ => ⟨he, Lib.hid (K2.on hw.out hb)⟩))
          repeat (first | go_big_quiet_skip | (go_big_quiet_want; go_big_quiet_op; first | go_big_quiet_on | (refine ⟨_, fun _ _ => rfl, ?_⟩; go_big_quiet_on)))
          refine wpQuiet_nil ?_
          intro w2 hw2
          clear HD hI
          go_wp2
          go_ret
          exact ⟨by rw [HX.out]; rfl, (HBY.out _ hw2.out.inw).2.2⟩
    · obtain rfl : k = l := by omega
      have HX := Lib.hid (HYES.out (by simp) HLOT.out H3.out hj.out)
      go_wp2
      go_ret
      exact ⟨by rw [HX.out]; rfl, (HBX.out _ hI.out.inw).2.2⟩
end Go.Proofs.YtclihkcigppgjaaDoor
