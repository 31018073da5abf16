/- The law FnLeakOf, walked. -/
import Derived.Test.YtiinifcepcaonaaDoorLwKn
namespace Go.Proofs.YtiinifcepcaonaaDoor
open Go.RowKit

theorem hit_no {x y : Nt} (h : x.say ≠ y.say) : prS x y = false := by unfold prS; simp [h]
theorem hit_same {x y : Nt} (h : x.ask = y.ask) : prS x y = false := by unfold prS; simp [h]
theorem lek_bd {g : Int} {ns : List Nt} {on : Int} (hk : ¬ (0 ≤ on ∧ on < ((konL g ns).length : Int))) : lekB g ns on = false := by
  cases h : lekB g ns on
  · rfl
  · have h2 := h
    unfold lekB at h2
    rw [Bool.and_eq_true] at h2
    obtain ⟨hb, h0, h1⟩ := onOk_true.1 h2.1
    rw [konL_yes hb] at hk
    exact absurd ⟨h0, h1⟩ hk
theorem lek_two {g : Int} {ns : List Nt} {on : Int} (h0 : 0 ≤ on) (h1 : on < ((konL g ns).length : Int)) : lekB g ns on = twoB (onN on ns) := by
  have hb : brdB g ns = true := by
    cases h : brdB g ns
    · rw [konL_no h] at h1; simp at h1; omega
    · rfl
  rw [konL_yes hb] at h1
  unfold lekB
  rw [onOk_true.2 ⟨hb, h0, h1⟩, Bool.true_and]
theorem lek_keyK {g : Int} {ns : List Nt} {on : Int} (h : lekB g ns on = true) : keyOf g (lekV g ns on) = nth (konL g ns) on.toNat := by
  have h2 := h
  unfold lekB at h2
  rw [Bool.and_eq_true] at h2
  rw [konL_yes (onOk_true.1 h2.1).1]
  exact lek_key h
/-- What is known of the pairs looked at. -/
def Ac (on : Int) (ns : List Nt) (b : Bool) (i j : Nat) : Prop := (b = true → twoB (onN on ns) = true) ∧ (b = false → NoR on ns i ∧ NoT on ns i j)
theorem Ac.zero (on : Int) (ns : List Nt) : Ac on ns false 0 0 := ⟨fun h => (by cases h), fun _ => ⟨NoR.zero on ns, NoT.zero on ns 0⟩⟩
theorem Ac.next {on : Int} {ns : List Nt} {b : Bool} {i : Nat} (h : Ac on ns b i i) : Ac on ns b (i + 1) 0 := ⟨h.1, fun e => ⟨(h.2 e).1.succ (h.2 e).2, NoT.zero on ns _⟩⟩
theorem Ac.keep {on : Int} {ns : List Nt} {i j j' : Nat} (h : Ac on ns true i j) : Ac on ns true i j' := ⟨h.1, fun e => (by cases e)⟩
theorem Ac.no {on : Int} {ns : List Nt} {i j : Nat} (h : Ac on ns false i j) (hm : (nthN ns i).on = on → (nthN ns j).on = on → prS (nthN ns i) (nthN ns j) = false) : Ac on ns false i (j + 1) := ⟨fun e => (by cases e), fun e => ⟨(h.2 e).1, (h.2 e).2.succ hm⟩⟩
theorem Ac.hit {on : Int} {ns : List Nt} {i j : Nat} (hi : i < ns.length) (hj : j < ns.length) (h1 : (nthN ns i).on = on) (h2 : (nthN ns j).on = on) (h : prS (nthN ns i) (nthN ns j) = true) (j' : Nat) : Ac on ns true i j' := ⟨fun _ => two_onHit hi hj h1 h2 h, fun e => (by cases e)⟩
theorem Ac.all {on : Int} {ns : List Nt} {b : Bool} {m : Nat} (h : Ac on ns b ns.length m) : twoB (onN on ns) = b := by
  cases b
  · exact two_onMiss (h.2 rfl).1
  · exact h.1 rfl

set_option maxRecDepth 100000 in
set_option maxHeartbeats 6400000 in
theorem lLeakOf_walk (s : Value) (w : World) (h : CodeIn w s) (G : Gr w) : Calls Tryd.prog 9 #[s] w fun e w' => e = .returned (.bool true) ∧ Below w.heap.size w w' := by
  obtain ⟨a0, len0, cap0, rfl⟩ := h.slice
  have H := Lib.hid h; clear h
  have G0 := Lib.hid G; clear G
  by_cases hl : 1048576 < len0
  · go_enter Tryd.func9, Tryd.ntmps9
    go_wp2
    go_ret
    exact ⟨rfl, Below.refl _ _⟩
  go_enter Tryd.func9, Tryd.ntmps9
  go_wp2_with fail
  refine (drawLeakOf_any _ _ H.out).mono ?_
  rintro e w1 ⟨g, v, ns, on, rfl, oo, hlen, hb⟩
  obtain ⟨va, vc, ev⟩ := OwnN.form oo
  subst ev
  have N1 := Lib.hid (Nts.of_own oo (by unfold maxLen; omega))
  have T1 := Lib.hid hb
  clear oo hb
  obtain ⟨nl, hnl⟩ : ∃ n, ns.length = n := ⟨_, rfl⟩
  have HNL := Lib.hid hnl
  rw [hnl] at N1 ⊢
  obtain ⟨w2, hw2⟩ : ∃ z, z = w1.alloc (.cells #[.int .i64 g, .slice va nl vc] 29) := ⟨_, rfl⟩
  have HB2 := Lib.hid (show Below w1.heap.size w1 w2 by rw [hw2]; exact below_grow _ _)
  have S2 : Hid (Kn w w1.heap.size [.int .i64 g, .slice va nl vc] (.slice va nl vc) ns (.slice none 0 0) [] w2) := Lib.hid ⟨Below.on T1.out HB2.out, by rw [hw2]; exact Box.made w1 _ _, N1.out.on HB2.out, .inl ⟨rfl, rfl⟩⟩
  have HL := Lib.hid hlen
  clear hlen hnl N1 T1 HB2
  have q0 := S2.out.bx.cell 0
  have q1 := S2.out.bx.cell 1
  simp at q0 q1
  rw [hw2] at q0 q1
  go_wp2_with fail
  rw [← hw2]
  refine (ilk_any g _ ns on _ (G0.out.on S2.out.be) S2.out.nt (by have := HL.out; omega)).mono ?_
  rintro e w3 ⟨rfl, hb⟩
  have S3 := Lib.hid (S2.out.on hb)
  obtain ⟨LV, hLV⟩ : ∃ r, lekV g ns on = r := ⟨_, rfl⟩
  obtain ⟨LB, hLB⟩ : ∃ r, lekB g ns on = r := ⟨_, rfl⟩
  have HLV := Lib.hid hLV
  have HLB := Lib.hid hLB
  rw [hLV, hLB]
  clear hb q0 q1 S2 hw2 hLV hLB
  have q0 := S3.out.bx.cell 0
  have q1 := S3.out.bx.cell 1
  simp at q0 q1
  go_wp2_with fail
  refine (slk_any g _ ns on _ S3.out.nt (by have := HL.out; omega)).mono ?_
  rintro e w4 ⟨rfl, hb⟩
  rw [HLV.out, HLB.out]
  have S4 := Lib.hid (S3.out.on hb)
  have hbb : (LB != LB) = false := by simp
  have hvv : (LV != LV) = false := by simp
  clear hb S3 q0 q1
  have hn20 : nl ≤ 20 := by have := HL.out; have := HNL.out; omega
  go_wp2
  go_loopw [9, 10] (fun bv i wr => ∃ (b : Bool) (k : Nat), k ≤ nl ∧ bv = .bool b ∧ i = .int .i64 k ∧ Hid (Ac on ns b k 0) ∧ Hid ((fun w' => Kn w w1.heap.size [.int .i64 g, .slice va nl vc] (.slice va nl vc) ns (.slice none 0 0) [] w') wr)) (fun _ i _ => nl - (intOf i).toNat)
  case atStart => exact ⟨false, 0, by omega, rfl, rfl, Lib.hid (Ac.zero on ns), S4⟩
  case round =>
    obtain ⟨b, k, hk, rfl, rfl, HA, S5⟩ := hrel
    obtain ⟨wo, rfl⟩ : ∃ wo : World, wo = wr := ⟨_, rfl⟩
    clear S4
    have qb := S5.out.bx.cell 1
    simp at qb
    by_cases hlt : k < nl
    · have hk1 : (k : Int) < (nl : Int) := by omega
      obtain ⟨Gn, rfl⟩ : ∃ X, va = some ⟨X, 0, none⟩ := by
        obtain ⟨a', c', e, k1⟩ := S5.out.nt.opened
        cases e
        obtain ⟨X, e2, _⟩ := k1.get k (by rw [HNL.out]; exact hlt)
        exact ⟨X, e2⟩
      have HAT : Hid (∀ j, j < nl → ∀ w', (fun w' => Kn w w1.heap.size [.int .i64 g, .slice (some ⟨Gn, 0, none⟩) nl vc] (.slice (some ⟨Gn, 0, none⟩) nl vc) ns (.slice none 0 0) [] w') w' → NtAt w' Gn j (nthN ns j)) := Lib.hid (fun j hj w' hw => by
        obtain ⟨a', c', e, k1⟩ := hw.nt.opened
        cases e
        obtain ⟨X', e2, _, e3⟩ := k1.get j (by rw [HNL.out]; exact hj)
        cases e2
        exact e3)
      go_wp2
      go_loopw [9, 11] (fun bv j wr => ∃ (b : Bool) (m : Nat), m ≤ k ∧ bv = .bool b ∧ j = .int .i64 m ∧ Hid (Ac on ns b k m) ∧ Hid ((fun w' => Kn w w1.heap.size [.int .i64 g, .slice (some ⟨Gn, 0, none⟩) nl vc] (.slice (some ⟨Gn, 0, none⟩) nl vc) ns (.slice none 0 0) [] w') wr)) (fun _ j _ => k - (intOf j).toNat)
      case atStart => exact ⟨b, 0, by omega, rfl, rfl, HA, S5⟩
      case round =>
        obtain ⟨b, m, hm, rfl, rfl, HM, S6⟩ := hrel
        obtain ⟨wi, rfl⟩ : ∃ wi : World, wi = wr := ⟨_, rfl⟩
        clear S5 HA qb
        by_cases hmk : m < k
        · have hm1 : (m : Int) < (k : Int) := by omega
          have hm2 : (m : Int) < (nl : Int) := by omega
          obtain ⟨x, hx⟩ : ∃ x, nthN ns k = x := ⟨_, rfl⟩
          obtain ⟨y, hy⟩ : ∃ y, nthN ns m = y := ⟨_, rfl⟩
          have HX : Hid (∀ w', (fun w' => Kn w w1.heap.size [.int .i64 g, .slice (some ⟨Gn, 0, none⟩) nl vc] (.slice (some ⟨Gn, 0, none⟩) nl vc) ns (.slice none 0 0) [] w') w' → NtAt w' Gn k x) := Lib.hid (fun w' hw => by rw [← hx]; exact HAT.out k hlt w' hw)
          have HY : Hid (∀ w', (fun w' => Kn w w1.heap.size [.int .i64 g, .slice (some ⟨Gn, 0, none⟩) nl vc] (.slice (some ⟨Gn, 0, none⟩) nl vc) ns (.slice none 0 0) [] w') w' → NtAt w' Gn m y) := Lib.hid (fun w' hw => by rw [← hy]; exact HAT.out m (by omega) w' hw)
          have HXE := Lib.hid hx
          have HYE := Lib.hid hy
          clear hx hy
          have HD : Hid ((fun w' => Kn w w1.heap.size [.int .i64 g, .slice (some ⟨Gn, 0, none⟩) nl vc] (.slice (some ⟨Gn, 0, none⟩) nl vc) ns (.slice none 0 0) [] w') wi.drew) := Lib.hid (S6.out.on (Below.refl _ _).drew)
          cases b
          rotate_left
          · skip
            go_wp2_with fail
            refine wp_region_class (C := fun w' => Hid ((fun w' => Kn w w1.heap.size [.int .i64 g, .slice (some ⟨Gn, 0, none⟩) nl vc] (.slice (some ⟨Gn, 0, none⟩) nl vc) ns (.slice none 0 0) [] w') w')) (by kernel_rfl) (by kernel_rfl) HD ?_
            repeat (first | go_big_quiet_skip | (go_big_quiet_want; go_big_quiet_op; first | go_big_quiet_on | (refine ⟨_, fun _ _ => rfl, ?_⟩; go_big_quiet_on)))
            refine wpQuiet_nil ?_
            intro w7 hw7
            clear HD S6
            go_wp2
            go_roundw
            case rel => exact ⟨_, m + 1, by omega, rfl, by go_num, Lib.hid (Ac.keep HM.out), hw7⟩
            case measure => simp [intOf]; omega
          by_cases h1 : x.on = on
          rotate_left
          · have b1 : (x.on == on) = false := by simp [h1]
            go_wp2_with fail
            refine wp_region_class (C := fun w' => Hid ((fun w' => Kn w w1.heap.size [.int .i64 g, .slice (some ⟨Gn, 0, none⟩) nl vc] (.slice (some ⟨Gn, 0, none⟩) nl vc) ns (.slice none 0 0) [] w') w')) (by kernel_rfl) (by kernel_rfl) HD ?_
            repeat (first | go_big_quiet_skip | (go_big_quiet_want; go_big_quiet_op; first | go_big_quiet_on | (refine ⟨_, fun _ _ => rfl, ?_⟩; go_big_quiet_on)))
            go_big_quiet_want
            go_big_quiet_op
            refine ⟨.slice (some ⟨Gn, 0, none⟩) nl vc, fun w' hw' => ?_, ?_⟩
            · have qa := hw'.out.bx.cell 1
              simp at qa
              simp [go_sem, qa]
            go_big_quiet_on
            repeat (first | go_big_quiet_skip | (go_big_quiet_want; go_big_quiet_op; first | go_big_quiet_on | (refine ⟨_, fun _ _ => rfl, ?_⟩; go_big_quiet_on)))
            go_big_quiet_want
            go_big_quiet_op
            refine ⟨.int .i64 x.on, fun w' hw' => ?_, ?_⟩
            · obtain ⟨d0, d1, d2, d3, d4⟩ := HX.out _ hw'.out
              simp [go_sem, d1]
            go_big_quiet_on
            repeat (first | go_big_quiet_skip | (go_big_quiet_want; go_big_quiet_op; first | go_big_quiet_on | (refine ⟨_, fun _ _ => rfl, ?_⟩; go_big_quiet_on)))
            refine wpQuiet_nil ?_
            intro w7 hw7
            clear HD S6
            go_wp2
            go_roundw
            case rel => exact ⟨_, m + 1, by omega, rfl, by go_num, Lib.hid (HM.out.no fun e1 e2 => by rw [HXE.out] at e1 ⊢; rw [HYE.out] at e2 ⊢; exact absurd e1 h1), hw7⟩
            case measure => simp [intOf]; omega
          have b1 : (x.on == on) = true := by simp [h1]
          by_cases h2 : y.on = on
          rotate_left
          · have b2 : (y.on == on) = false := by simp [h2]
            go_wp2_with fail
            refine wp_region_class (C := fun w' => Hid ((fun w' => Kn w w1.heap.size [.int .i64 g, .slice (some ⟨Gn, 0, none⟩) nl vc] (.slice (some ⟨Gn, 0, none⟩) nl vc) ns (.slice none 0 0) [] w') w')) (by kernel_rfl) (by kernel_rfl) HD ?_
            repeat (first | go_big_quiet_skip | (go_big_quiet_want; go_big_quiet_op; first | go_big_quiet_on | (refine ⟨_, fun _ _ => rfl, ?_⟩; go_big_quiet_on)))
            go_big_quiet_want
            go_big_quiet_op
            refine ⟨.slice (some ⟨Gn, 0, none⟩) nl vc, fun w' hw' => ?_, ?_⟩
            · have qa := hw'.out.bx.cell 1
              simp at qa
              simp [go_sem, qa]
            go_big_quiet_on
            repeat (first | go_big_quiet_skip | (go_big_quiet_want; go_big_quiet_op; first | go_big_quiet_on | (refine ⟨_, fun _ _ => rfl, ?_⟩; go_big_quiet_on)))
            go_big_quiet_want
            go_big_quiet_op
            refine ⟨.int .i64 x.on, fun w' hw' => ?_, ?_⟩
            · obtain ⟨d0, d1, d2, d3, d4⟩ := HX.out _ hw'.out
              simp [go_sem, d1]
            go_big_quiet_on
            repeat (first | go_big_quiet_skip | (go_big_quiet_want; go_big_quiet_op; first | go_big_quiet_on | (refine ⟨_, fun _ _ => rfl, ?_⟩; go_big_quiet_on)))
            go_big_quiet_want
            go_big_quiet_op
            refine ⟨.slice (some ⟨Gn, 0, none⟩) nl vc, fun w' hw' => ?_, ?_⟩
            · have qa := hw'.out.bx.cell 1
              simp at qa
              simp [go_sem, qa]
            go_big_quiet_on
            repeat (first | go_big_quiet_skip | (go_big_quiet_want; go_big_quiet_op; first | go_big_quiet_on | (refine ⟨_, fun _ _ => rfl, ?_⟩; go_big_quiet_on)))
            go_big_quiet_want
            go_big_quiet_op
            refine ⟨.int .i64 y.on, fun w' hw' => ?_, ?_⟩
            · obtain ⟨d0, d1, d2, d3, d4⟩ := HY.out _ hw'.out
              simp [go_sem, d1]
            go_big_quiet_on
            repeat (first | go_big_quiet_skip | (go_big_quiet_want; go_big_quiet_op; first | go_big_quiet_on | (refine ⟨_, fun _ _ => rfl, ?_⟩; go_big_quiet_on)))
            refine wpQuiet_nil ?_
            intro w7 hw7
            clear HD S6
            go_wp2
            go_roundw
            case rel => exact ⟨_, m + 1, by omega, rfl, by go_num, Lib.hid (HM.out.no fun e1 e2 => by rw [HXE.out] at e1 ⊢; rw [HYE.out] at e2 ⊢; exact absurd e2 h2), hw7⟩
            case measure => simp [intOf]; omega
          have b2 : (y.on == on) = true := by simp [h2]
          by_cases h3 : x.say = y.say
          rotate_left
          · have b3 : (x.say == y.say) = false := by simp [h3]
            go_wp2_with fail
            refine wp_region_class (C := fun w' => Hid ((fun w' => Kn w w1.heap.size [.int .i64 g, .slice (some ⟨Gn, 0, none⟩) nl vc] (.slice (some ⟨Gn, 0, none⟩) nl vc) ns (.slice none 0 0) [] w') w')) (by kernel_rfl) (by kernel_rfl) HD ?_
            repeat (first | go_big_quiet_skip | (go_big_quiet_want; go_big_quiet_op; first | go_big_quiet_on | (refine ⟨_, fun _ _ => rfl, ?_⟩; go_big_quiet_on)))
            go_big_quiet_want
            go_big_quiet_op
            refine ⟨.slice (some ⟨Gn, 0, none⟩) nl vc, fun w' hw' => ?_, ?_⟩
            · have qa := hw'.out.bx.cell 1
              simp at qa
              simp [go_sem, qa]
            go_big_quiet_on
            repeat (first | go_big_quiet_skip | (go_big_quiet_want; go_big_quiet_op; first | go_big_quiet_on | (refine ⟨_, fun _ _ => rfl, ?_⟩; go_big_quiet_on)))
            go_big_quiet_want
            go_big_quiet_op
            refine ⟨.int .i64 x.on, fun w' hw' => ?_, ?_⟩
            · obtain ⟨d0, d1, d2, d3, d4⟩ := HX.out _ hw'.out
              simp [go_sem, d1]
            go_big_quiet_on
            repeat (first | go_big_quiet_skip | (go_big_quiet_want; go_big_quiet_op; first | go_big_quiet_on | (refine ⟨_, fun _ _ => rfl, ?_⟩; go_big_quiet_on)))
            go_big_quiet_want
            go_big_quiet_op
            refine ⟨.slice (some ⟨Gn, 0, none⟩) nl vc, fun w' hw' => ?_, ?_⟩
            · have qa := hw'.out.bx.cell 1
              simp at qa
              simp [go_sem, qa]
            go_big_quiet_on
            repeat (first | go_big_quiet_skip | (go_big_quiet_want; go_big_quiet_op; first | go_big_quiet_on | (refine ⟨_, fun _ _ => rfl, ?_⟩; go_big_quiet_on)))
            go_big_quiet_want
            go_big_quiet_op
            refine ⟨.int .i64 y.on, fun w' hw' => ?_, ?_⟩
            · obtain ⟨d0, d1, d2, d3, d4⟩ := HY.out _ hw'.out
              simp [go_sem, d1]
            go_big_quiet_on
            repeat (first | go_big_quiet_skip | (go_big_quiet_want; go_big_quiet_op; first | go_big_quiet_on | (refine ⟨_, fun _ _ => rfl, ?_⟩; go_big_quiet_on)))
            go_big_quiet_want
            go_big_quiet_op
            refine ⟨.slice (some ⟨Gn, 0, none⟩) nl vc, fun w' hw' => ?_, ?_⟩
            · have qa := hw'.out.bx.cell 1
              simp at qa
              simp [go_sem, qa]
            go_big_quiet_on
            repeat (first | go_big_quiet_skip | (go_big_quiet_want; go_big_quiet_op; first | go_big_quiet_on | (refine ⟨_, fun _ _ => rfl, ?_⟩; go_big_quiet_on)))
            go_big_quiet_want
            go_big_quiet_op
            refine ⟨.int .i64 x.say, fun w' hw' => ?_, ?_⟩
            · obtain ⟨d0, d1, d2, d3, d4⟩ := HX.out _ hw'.out
              simp [go_sem, d2]
            go_big_quiet_on
            repeat (first | go_big_quiet_skip | (go_big_quiet_want; go_big_quiet_op; first | go_big_quiet_on | (refine ⟨_, fun _ _ => rfl, ?_⟩; go_big_quiet_on)))
            go_big_quiet_want
            go_big_quiet_op
            refine ⟨.slice (some ⟨Gn, 0, none⟩) nl vc, fun w' hw' => ?_, ?_⟩
            · have qa := hw'.out.bx.cell 1
              simp at qa
              simp [go_sem, qa]
            go_big_quiet_on
            repeat (first | go_big_quiet_skip | (go_big_quiet_want; go_big_quiet_op; first | go_big_quiet_on | (refine ⟨_, fun _ _ => rfl, ?_⟩; go_big_quiet_on)))
            go_big_quiet_want
            go_big_quiet_op
            refine ⟨.int .i64 y.say, fun w' hw' => ?_, ?_⟩
            · obtain ⟨d0, d1, d2, d3, d4⟩ := HY.out _ hw'.out
              simp [go_sem, d2]
            go_big_quiet_on
            repeat (first | go_big_quiet_skip | (go_big_quiet_want; go_big_quiet_op; first | go_big_quiet_on | (refine ⟨_, fun _ _ => rfl, ?_⟩; go_big_quiet_on)))
            refine wpQuiet_nil ?_
            intro w7 hw7
            clear HD S6
            go_wp2
            go_roundw
            case rel => exact ⟨_, m + 1, by omega, rfl, by go_num, Lib.hid (HM.out.no fun e1 e2 => by rw [HXE.out] at e1 ⊢; rw [HYE.out] at e2 ⊢; exact hit_no h3), hw7⟩
            case measure => simp [intOf]; omega
          have b3 : (x.say == y.say) = true := by simp [h3]
          by_cases h4 : x.ask = y.ask
          · have b4 : (x.ask != y.ask) = false := by simp [h4]
            go_wp2_with fail
            refine wp_region_class (C := fun w' => Hid ((fun w' => Kn w w1.heap.size [.int .i64 g, .slice (some ⟨Gn, 0, none⟩) nl vc] (.slice (some ⟨Gn, 0, none⟩) nl vc) ns (.slice none 0 0) [] w') w')) (by kernel_rfl) (by kernel_rfl) HD ?_
            repeat (first | go_big_quiet_skip | (go_big_quiet_want; go_big_quiet_op; first | go_big_quiet_on | (refine ⟨_, fun _ _ => rfl, ?_⟩; go_big_quiet_on)))
            go_big_quiet_want
            go_big_quiet_op
            refine ⟨.slice (some ⟨Gn, 0, none⟩) nl vc, fun w' hw' => ?_, ?_⟩
            · have qa := hw'.out.bx.cell 1
              simp at qa
              simp [go_sem, qa]
            go_big_quiet_on
            repeat (first | go_big_quiet_skip | (go_big_quiet_want; go_big_quiet_op; first | go_big_quiet_on | (refine ⟨_, fun _ _ => rfl, ?_⟩; go_big_quiet_on)))
            go_big_quiet_want
            go_big_quiet_op
            refine ⟨.int .i64 x.on, fun w' hw' => ?_, ?_⟩
            · obtain ⟨d0, d1, d2, d3, d4⟩ := HX.out _ hw'.out
              simp [go_sem, d1]
            go_big_quiet_on
            repeat (first | go_big_quiet_skip | (go_big_quiet_want; go_big_quiet_op; first | go_big_quiet_on | (refine ⟨_, fun _ _ => rfl, ?_⟩; go_big_quiet_on)))
            go_big_quiet_want
            go_big_quiet_op
            refine ⟨.slice (some ⟨Gn, 0, none⟩) nl vc, fun w' hw' => ?_, ?_⟩
            · have qa := hw'.out.bx.cell 1
              simp at qa
              simp [go_sem, qa]
            go_big_quiet_on
            repeat (first | go_big_quiet_skip | (go_big_quiet_want; go_big_quiet_op; first | go_big_quiet_on | (refine ⟨_, fun _ _ => rfl, ?_⟩; go_big_quiet_on)))
            go_big_quiet_want
            go_big_quiet_op
            refine ⟨.int .i64 y.on, fun w' hw' => ?_, ?_⟩
            · obtain ⟨d0, d1, d2, d3, d4⟩ := HY.out _ hw'.out
              simp [go_sem, d1]
            go_big_quiet_on
            repeat (first | go_big_quiet_skip | (go_big_quiet_want; go_big_quiet_op; first | go_big_quiet_on | (refine ⟨_, fun _ _ => rfl, ?_⟩; go_big_quiet_on)))
            go_big_quiet_want
            go_big_quiet_op
            refine ⟨.slice (some ⟨Gn, 0, none⟩) nl vc, fun w' hw' => ?_, ?_⟩
            · have qa := hw'.out.bx.cell 1
              simp at qa
              simp [go_sem, qa]
            go_big_quiet_on
            repeat (first | go_big_quiet_skip | (go_big_quiet_want; go_big_quiet_op; first | go_big_quiet_on | (refine ⟨_, fun _ _ => rfl, ?_⟩; go_big_quiet_on)))
            go_big_quiet_want
            go_big_quiet_op
            refine ⟨.int .i64 x.say, fun w' hw' => ?_, ?_⟩
            · obtain ⟨d0, d1, d2, d3, d4⟩ := HX.out _ hw'.out
              simp [go_sem, d2]
            go_big_quiet_on
            repeat (first | go_big_quiet_skip | (go_big_quiet_want; go_big_quiet_op; first | go_big_quiet_on | (refine ⟨_, fun _ _ => rfl, ?_⟩; go_big_quiet_on)))
            go_big_quiet_want
            go_big_quiet_op
            refine ⟨.slice (some ⟨Gn, 0, none⟩) nl vc, fun w' hw' => ?_, ?_⟩
            · have qa := hw'.out.bx.cell 1
              simp at qa
              simp [go_sem, qa]
            go_big_quiet_on
            repeat (first | go_big_quiet_skip | (go_big_quiet_want; go_big_quiet_op; first | go_big_quiet_on | (refine ⟨_, fun _ _ => rfl, ?_⟩; go_big_quiet_on)))
            go_big_quiet_want
            go_big_quiet_op
            refine ⟨.int .i64 y.say, fun w' hw' => ?_, ?_⟩
            · obtain ⟨d0, d1, d2, d3, d4⟩ := HY.out _ hw'.out
              simp [go_sem, d2]
            go_big_quiet_on
            repeat (first | go_big_quiet_skip | (go_big_quiet_want; go_big_quiet_op; first | go_big_quiet_on | (refine ⟨_, fun _ _ => rfl, ?_⟩; go_big_quiet_on)))
            go_big_quiet_want
            go_big_quiet_op
            refine ⟨.slice (some ⟨Gn, 0, none⟩) nl vc, fun w' hw' => ?_, ?_⟩
            · have qa := hw'.out.bx.cell 1
              simp at qa
              simp [go_sem, qa]
            go_big_quiet_on
            repeat (first | go_big_quiet_skip | (go_big_quiet_want; go_big_quiet_op; first | go_big_quiet_on | (refine ⟨_, fun _ _ => rfl, ?_⟩; go_big_quiet_on)))
            go_big_quiet_want
            go_big_quiet_op
            refine ⟨.int .i64 x.ask, fun w' hw' => ?_, ?_⟩
            · obtain ⟨d0, d1, d2, d3, d4⟩ := HX.out _ hw'.out
              simp [go_sem, d3]
            go_big_quiet_on
            repeat (first | go_big_quiet_skip | (go_big_quiet_want; go_big_quiet_op; first | go_big_quiet_on | (refine ⟨_, fun _ _ => rfl, ?_⟩; go_big_quiet_on)))
            go_big_quiet_want
            go_big_quiet_op
            refine ⟨.slice (some ⟨Gn, 0, none⟩) nl vc, fun w' hw' => ?_, ?_⟩
            · have qa := hw'.out.bx.cell 1
              simp at qa
              simp [go_sem, qa]
            go_big_quiet_on
            repeat (first | go_big_quiet_skip | (go_big_quiet_want; go_big_quiet_op; first | go_big_quiet_on | (refine ⟨_, fun _ _ => rfl, ?_⟩; go_big_quiet_on)))
            go_big_quiet_want
            go_big_quiet_op
            refine ⟨.int .i64 y.ask, fun w' hw' => ?_, ?_⟩
            · obtain ⟨d0, d1, d2, d3, d4⟩ := HY.out _ hw'.out
              simp [go_sem, d3]
            go_big_quiet_on
            repeat (first | go_big_quiet_skip | (go_big_quiet_want; go_big_quiet_op; first | go_big_quiet_on | (refine ⟨_, fun _ _ => rfl, ?_⟩; go_big_quiet_on)))
            refine wpQuiet_nil ?_
            intro w7 hw7
            clear HD S6
            go_wp2
            go_roundw
            case rel => exact ⟨_, m + 1, by omega, rfl, by go_num, Lib.hid (HM.out.no fun e1 e2 => by rw [HXE.out] at e1 ⊢; rw [HYE.out] at e2 ⊢; exact hit_same h4), hw7⟩
            case measure => simp [intOf]; omega
          · have b4 : (x.ask != y.ask) = true := by simp [h4]
            go_wp2_with fail
            refine wp_region_class (C := fun w' => Hid ((fun w' => Kn w w1.heap.size [.int .i64 g, .slice (some ⟨Gn, 0, none⟩) nl vc] (.slice (some ⟨Gn, 0, none⟩) nl vc) ns (.slice none 0 0) [] w') w')) (by kernel_rfl) (by kernel_rfl) HD ?_
            repeat (first | go_big_quiet_skip | (go_big_quiet_want; go_big_quiet_op; first | go_big_quiet_on | (refine ⟨_, fun _ _ => rfl, ?_⟩; go_big_quiet_on)))
            go_big_quiet_want
            go_big_quiet_op
            refine ⟨.slice (some ⟨Gn, 0, none⟩) nl vc, fun w' hw' => ?_, ?_⟩
            · have qa := hw'.out.bx.cell 1
              simp at qa
              simp [go_sem, qa]
            go_big_quiet_on
            repeat (first | go_big_quiet_skip | (go_big_quiet_want; go_big_quiet_op; first | go_big_quiet_on | (refine ⟨_, fun _ _ => rfl, ?_⟩; go_big_quiet_on)))
            go_big_quiet_want
            go_big_quiet_op
            refine ⟨.int .i64 x.on, fun w' hw' => ?_, ?_⟩
            · obtain ⟨d0, d1, d2, d3, d4⟩ := HX.out _ hw'.out
              simp [go_sem, d1]
            go_big_quiet_on
            repeat (first | go_big_quiet_skip | (go_big_quiet_want; go_big_quiet_op; first | go_big_quiet_on | (refine ⟨_, fun _ _ => rfl, ?_⟩; go_big_quiet_on)))
            go_big_quiet_want
            go_big_quiet_op
            refine ⟨.slice (some ⟨Gn, 0, none⟩) nl vc, fun w' hw' => ?_, ?_⟩
            · have qa := hw'.out.bx.cell 1
              simp at qa
              simp [go_sem, qa]
            go_big_quiet_on
            repeat (first | go_big_quiet_skip | (go_big_quiet_want; go_big_quiet_op; first | go_big_quiet_on | (refine ⟨_, fun _ _ => rfl, ?_⟩; go_big_quiet_on)))
            go_big_quiet_want
            go_big_quiet_op
            refine ⟨.int .i64 y.on, fun w' hw' => ?_, ?_⟩
            · obtain ⟨d0, d1, d2, d3, d4⟩ := HY.out _ hw'.out
              simp [go_sem, d1]
            go_big_quiet_on
            repeat (first | go_big_quiet_skip | (go_big_quiet_want; go_big_quiet_op; first | go_big_quiet_on | (refine ⟨_, fun _ _ => rfl, ?_⟩; go_big_quiet_on)))
            go_big_quiet_want
            go_big_quiet_op
            refine ⟨.slice (some ⟨Gn, 0, none⟩) nl vc, fun w' hw' => ?_, ?_⟩
            · have qa := hw'.out.bx.cell 1
              simp at qa
              simp [go_sem, qa]
            go_big_quiet_on
            repeat (first | go_big_quiet_skip | (go_big_quiet_want; go_big_quiet_op; first | go_big_quiet_on | (refine ⟨_, fun _ _ => rfl, ?_⟩; go_big_quiet_on)))
            go_big_quiet_want
            go_big_quiet_op
            refine ⟨.int .i64 x.say, fun w' hw' => ?_, ?_⟩
            · obtain ⟨d0, d1, d2, d3, d4⟩ := HX.out _ hw'.out
              simp [go_sem, d2]
            go_big_quiet_on
            repeat (first | go_big_quiet_skip | (go_big_quiet_want; go_big_quiet_op; first | go_big_quiet_on | (refine ⟨_, fun _ _ => rfl, ?_⟩; go_big_quiet_on)))
            go_big_quiet_want
            go_big_quiet_op
            refine ⟨.slice (some ⟨Gn, 0, none⟩) nl vc, fun w' hw' => ?_, ?_⟩
            · have qa := hw'.out.bx.cell 1
              simp at qa
              simp [go_sem, qa]
            go_big_quiet_on
            repeat (first | go_big_quiet_skip | (go_big_quiet_want; go_big_quiet_op; first | go_big_quiet_on | (refine ⟨_, fun _ _ => rfl, ?_⟩; go_big_quiet_on)))
            go_big_quiet_want
            go_big_quiet_op
            refine ⟨.int .i64 y.say, fun w' hw' => ?_, ?_⟩
            · obtain ⟨d0, d1, d2, d3, d4⟩ := HY.out _ hw'.out
              simp [go_sem, d2]
            go_big_quiet_on
            repeat (first | go_big_quiet_skip | (go_big_quiet_want; go_big_quiet_op; first | go_big_quiet_on | (refine ⟨_, fun _ _ => rfl, ?_⟩; go_big_quiet_on)))
            go_big_quiet_want
            go_big_quiet_op
            refine ⟨.slice (some ⟨Gn, 0, none⟩) nl vc, fun w' hw' => ?_, ?_⟩
            · have qa := hw'.out.bx.cell 1
              simp at qa
              simp [go_sem, qa]
            go_big_quiet_on
            repeat (first | go_big_quiet_skip | (go_big_quiet_want; go_big_quiet_op; first | go_big_quiet_on | (refine ⟨_, fun _ _ => rfl, ?_⟩; go_big_quiet_on)))
            go_big_quiet_want
            go_big_quiet_op
            refine ⟨.int .i64 x.ask, fun w' hw' => ?_, ?_⟩
            · obtain ⟨d0, d1, d2, d3, d4⟩ := HX.out _ hw'.out
              simp [go_sem, d3]
            go_big_quiet_on
            repeat (first | go_big_quiet_skip | (go_big_quiet_want; go_big_quiet_op; first | go_big_quiet_on | (refine ⟨_, fun _ _ => rfl, ?_⟩; go_big_quiet_on)))
            go_big_quiet_want
            go_big_quiet_op
            refine ⟨.slice (some ⟨Gn, 0, none⟩) nl vc, fun w' hw' => ?_, ?_⟩
            · have qa := hw'.out.bx.cell 1
              simp at qa
              simp [go_sem, qa]
            go_big_quiet_on
            repeat (first | go_big_quiet_skip | (go_big_quiet_want; go_big_quiet_op; first | go_big_quiet_on | (refine ⟨_, fun _ _ => rfl, ?_⟩; go_big_quiet_on)))
            go_big_quiet_want
            go_big_quiet_op
            refine ⟨.int .i64 y.ask, fun w' hw' => ?_, ?_⟩
            · obtain ⟨d0, d1, d2, d3, d4⟩ := HY.out _ hw'.out
              simp [go_sem, d3]
            go_big_quiet_on
            repeat (first | go_big_quiet_skip | (go_big_quiet_want; go_big_quiet_op; first | go_big_quiet_on | (refine ⟨_, fun _ _ => rfl, ?_⟩; go_big_quiet_on)))
            refine wpQuiet_nil ?_
            intro w7 hw7
            clear HD S6
            go_wp2
            go_roundw
            case rel => exact ⟨_, m + 1, by omega, rfl, by go_num, Lib.hid (Ac.hit (i := k) (j := m) (by rw [HNL.out]; exact hlt) (by rw [HNL.out]; omega) (by rw [HXE.out]; exact h1) (by rw [HYE.out]; exact h2) (by rw [HXE.out, HYE.out]; exact prS_true.2 ⟨h3, h4⟩) _), hw7⟩
            case measure => simp [intOf]; omega
        · obtain rfl : m = k := by omega
          go_wp2
          go_roundw
          case rel => exact ⟨b, m + 1, by omega, rfl, by go_num, Lib.hid HM.out.next, S6⟩
          case measure => simp [intOf]; omega
    · obtain rfl : k = nl := by omega
      have q0 := S5.out.bx.cell 0
      simp at q0
      have HTW : Hid (twoB (onN on ns) = b) := Lib.hid (by have h9 := HA.out; rw [← HNL.out] at h9; exact h9.all)
      clear HA
      go_wp2_with fail
      refine (ikon_any g _ ns _ (G0.out.on S5.out.be) S5.out.nt (by have := HL.out; omega)).mono ?_
      rintro e w5 ⟨u, rfl, oo, hb⟩
      obtain ⟨a, c, eu⟩ := Own.form oo
      subst eu
      have HKL := Lib.hid (konL_len g ns)
      obtain ⟨n, hn⟩ : ∃ n, (konL g ns).length = n := ⟨_, rfl⟩
      rw [hn] at oo ⊢
      have S7 := Lib.hid ((S5.out.on hb).keys (Ints.of_own oo (by have := HKL.out; unfold maxLen; omega)))
      have HN := Lib.hid hn
      clear oo hb hn q0 qb S5
      by_cases hon : 0 ≤ on ∧ on < (n : Int)
      rotate_left
      · have hLB : LB = false := by rw [← HLB.out]; exact lek_bd (by rw [HN.out]; exact hon)
        have hLV : LV = -1 := by rw [← HLV.out]; exact lek_no (HLB.out.trans hLB)
        subst hLB hLV
        by_cases ho : on < 0
        · have hdo : decide (on < 0) = true := by simp [ho]
          go_wp2_with fail
          refine (alive_any _ (G0.out.on S7.out.be)).mono ?_
          rintro e wz ⟨rfl, rfl⟩
          go_wp2
          go_ret
          exact ⟨rfl, S7.out.be⟩
        · have hon2 : (n : Int) ≤ on := by omega
          go_wp2_with fail
          refine (alive_any _ (G0.out.on S7.out.be)).mono ?_
          rintro e wz ⟨rfl, rfl⟩
          go_wp2
          go_ret
          exact ⟨rfl, S7.out.be⟩
      obtain ⟨o0, o1⟩ := hon
      have hoA : ¬ on < 0 := by omega
      have hoB : ¬ (n : Int) ≤ on := by omega
      have hLbb : LB = b := by rw [← HLB.out, lek_two o0 (by rw [HN.out]; exact o1)]; exact HTW.out
      subst hLbb
      have hbe : (LB == LB) = true := by simp
      have HD : Hid ((fun w' => Kn w w1.heap.size [.int .i64 g, .slice va k vc] (.slice va k vc) ns (.slice a n c) (konL g ns) w') w5.drew) := Lib.hid (S7.out.on (Below.refl _ _).drew)
      cases LB
      · have hLV : LV = -1 := by rw [← HLV.out]; exact lek_no HLB.out
        subst hLV
        go_wp2_with fail
        refine wp_region_class (C := fun w' => Hid ((fun w' => Kn w w1.heap.size [.int .i64 g, .slice va k vc] (.slice va k vc) ns (.slice a n c) (konL g ns) w') w')) (by kernel_rfl) (by kernel_rfl) HD ?_
        repeat (first | go_big_quiet_skip | (go_big_quiet_want; go_big_quiet_op; first | go_big_quiet_on | (refine ⟨_, fun _ _ => rfl, ?_⟩; go_big_quiet_on)))
        refine wpQuiet_nil ?_
        intro w7 hw7
        go_wp2
        go_ret
        exact ⟨rfl, hw7.out.be⟩
      · have hKV : keyOf g LV = nth (konL g ns) on.toNat := by rw [← HLV.out]; exact lek_keyK HLB.out
        obtain ⟨m, rfl⟩ := Int.eq_ofNat_of_zero_le o0
        have HKV := Lib.hid (show keyOf g LV = nth (konL g ns) m from hKV)
        have hmn : m < n := by omega
        obtain ⟨X, rfl⟩ : ∃ X, a = some ⟨X, 0, none⟩ := by
          obtain ⟨a', c', e, k1⟩ := S7.out.ks.opened
          cases e
          obtain ⟨X, e2, _⟩ := k1.get m (by rw [HN.out]; exact hmn)
          exact ⟨X, e2⟩
        have HC : Hid (∀ w', (fun w' => Kn w w1.heap.size [.int .i64 g, .slice va k vc] (.slice va k vc) ns (.slice (some ⟨X, 0, none⟩) n c) (konL g ns) w') w' → w'.cell? ⟨X, m, none⟩ = some (.int .i64 (nth (konL g ns) m))) := Lib.hid (fun w' hw => by
          obtain ⟨a', c', e, k1⟩ := hw.ks.opened
          cases e
          obtain ⟨X', e2, _, e3⟩ := k1.get m (by rw [HN.out]; exact hmn)
          cases e2
          exact e3)
        obtain ⟨KV, hKE⟩ : ∃ r, nth (konL g ns) m = r := ⟨_, rfl⟩
        rw [hKE] at HC HKV
        have hkk : (KV == KV) = true := by simp
        go_wp2_with fail
        refine wp_region_class (C := fun w' => Hid ((fun w' => Kn w w1.heap.size [.int .i64 g, .slice va k vc] (.slice va k vc) ns (.slice (some ⟨X, 0, none⟩) n c) (konL g ns) w') w')) (by kernel_rfl) (by kernel_rfl) HD ?_
        repeat (first | go_big_quiet_skip | (go_big_quiet_want; go_big_quiet_op; first | go_big_quiet_on | (refine ⟨_, fun _ _ => rfl, ?_⟩; go_big_quiet_on)))
        go_big_quiet_want
        go_big_quiet_op
        refine ⟨.int .i64 g, fun w' hw' => ?_, ?_⟩
        · have qa := hw'.out.bx.cell 0
          simp at qa
          simp [go_sem, qa]
        go_big_quiet_on
        repeat (first | go_big_quiet_skip | (go_big_quiet_want; go_big_quiet_op; first | go_big_quiet_on | (refine ⟨_, fun _ _ => rfl, ?_⟩; go_big_quiet_on)))
        go_big_quiet_want
        go_big_quiet_op
        go_big_quiet_call ((intro hw; exact (ikey_any g LV _ (G0.out.on hw.out.be)).mono fun _ _ ⟨he, hb⟩ => ⟨by rw [he, HKV.out], Lib.hid (hw.out.on hb)⟩))
        repeat (first | go_big_quiet_skip | (go_big_quiet_want; go_big_quiet_op; first | go_big_quiet_on | (refine ⟨_, fun _ _ => rfl, ?_⟩; go_big_quiet_on)))
        go_big_quiet_want
        go_big_quiet_op
        refine ⟨.int .i64 KV, fun w' hw' => ?_, ?_⟩
        · have qa := HC.out _ hw'.out
          simp [go_sem, qa]
        go_big_quiet_on
        repeat (first | go_big_quiet_skip | (go_big_quiet_want; go_big_quiet_op; first | go_big_quiet_on | (refine ⟨_, fun _ _ => rfl, ?_⟩; go_big_quiet_on)))
        refine wpQuiet_nil ?_
        intro w7 hw7
        go_wp2
        go_ret
        exact ⟨rfl, hw7.out.be⟩
end Go.Proofs.YtiinifcepcaonaaDoor
