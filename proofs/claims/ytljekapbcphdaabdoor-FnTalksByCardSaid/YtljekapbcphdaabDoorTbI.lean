/- impl.TalksBy: all rows of free exponents, the talks, their numbers, sorted. -/
import Derived.Test.YtljekapbcphdaabDoorSrtI
import Derived.Test.YtljekapbcphdaabDoorNumJ
import Derived.Test.YtljekapbcphdaabDoorSofO
import Derived.Test.YtljekapbcphdaabDoorRegionK
import Derived.Test.YtljekapbcphdaabDoorKysI
namespace Go.Proofs.YtljekapbcphdaabDoor
open Go.RowKit

/-- A talk on some of many (r: answered or not yet), and a box (b). -/
structure Tz (wj : World) (ss xs ts : List Int) (r : Option (Value × Value × Value)) (b : Option (Nat × List Value)) (w' : World) : Prop where
  bl : Below wj.heap.size wj w'
  ow : ∀ p, r = some p → OwnS w' wj.heap.size w'.heap.size p.1 p.2.1 p.2.2 ss xs ts
  bx : ∀ c, b = some c → Box w' c.1 c.2 ∧ wj.heap.size ≤ c.1
  ap : ∀ p c, r = some p → b = some c → (∀ k, p.1.ownBlock = some k → k ≠ c.1) ∧ (∀ k, p.2.1.ownBlock = some k → k ≠ c.1) ∧ ∀ k, p.2.2.ownBlock = some k → k ≠ c.1
section
variable {wj : World} {ss xs ts : List Int} {r : Option (Value × Value × Value)} {b : Option (Nat × List Value)} {w' w'' : World}
theorem OwnS.wide {w w' : World} {lo : Nat} {sv xv tv : Value} (h : OwnS w lo w.heap.size sv xv tv ss xs ts) (hb : Below w.heap.size w w') : OwnS w' lo w'.heap.size sv xv tv ss xs ts :=
  ⟨own_below h.s hb, own_below h.x hb, own_below h.t hb, h.ap1, h.ap2, h.ap3, fun k hk => Nat.lt_of_lt_of_le (h.his k hk) hb.size, fun k hk => Nat.lt_of_lt_of_le (h.hix k hk) hb.size, fun k hk => Nat.lt_of_lt_of_le (h.hit k hk) hb.size⟩
theorem Tz.on (h : Tz wj ss xs ts r b w') (hb : Below w'.heap.size w' w'') : Tz wj ss xs ts r b w'' :=
  ⟨Below.on h.bl hb, fun p hp => (h.ow p hp).wide hb, fun c hc => ⟨(h.bx c hc).1.on hb, (h.bx c hc).2⟩, h.ap⟩
theorem Tz.call {sv xv tv : Value} (h : Tz wj ss xs ts none b w') (hb : Below w'.heap.size w' w'') (ho : OwnS w'' w'.heap.size w''.heap.size sv xv tv ss xs ts) : Tz wj ss xs ts (some (sv, xv, tv)) b w'' := by
  refine ⟨Below.on h.bl hb, fun p hp => ?_, fun c hc => ⟨(h.bx c hc).1.on hb, (h.bx c hc).2⟩, fun p c hp hc => ?_⟩
  · cases hp; exact ho.lower h.bl.size
  · cases hp
    have hl := (h.bx c hc).1.lt
    exact ⟨fun k hk e => by have := (ho.s.lt k hk).1; omega, fun k hk e => by have := (ho.x.lt k hk).1; omega, fun k hk e => by have := (ho.t.lt k hk).1; omega⟩
theorem Tz.make {cs : List Value} {T : TypeId} (h : Tz wj ss xs ts r none w') : Tz wj ss xs ts r (some (w'.heap.size, cs)) (w'.alloc (.cells cs.toArray T)) := by
  have hb := below_grow w' (.cells cs.toArray T)
  refine ⟨Below.on h.bl hb, fun p hp => (h.ow p hp).wide hb, fun c hc => ?_, fun p c hp hc => ?_⟩
  · cases hc; exact ⟨Box.made w' cs T, h.bl.size⟩
  · cases hc
    have ho := h.ow p hp
    exact ⟨fun k hk e => by have := ho.his k hk; omega, fun k hk e => by have := ho.hix k hk; omega, fun k hk e => by have := ho.hit k hk; omega⟩
theorem Tz.store {sv xv tv : Value} {N : Nat} {q : Int} (h : Tz wj ss xs ts (some (sv, xv, tv)) (some (N, [.slice none 0 0, .int .i64 0, .slice none 0 0, .slice none 0 0])) w') :
    Tz wj ss xs ts (some (sv, xv, tv)) (some (N, [sv, .int .i64 q, xv, tv])) ((((w'.setCell ⟨N, 0, none⟩ sv).setCell ⟨N, 1, none⟩ (.int .i64 q)).setCell ⟨N, 2, none⟩ xv).setCell ⟨N, 3, none⟩ tv) := by
  obtain ⟨hB, hN⟩ := h.bx _ rfl
  obtain ⟨a1, a2, a3⟩ := h.ap _ _ rfl rfl
  have ho := h.ow _ rfl
  have hs : ((((w'.setCell ⟨N, 0, none⟩ sv).setCell ⟨N, 1, none⟩ (.int .i64 q)).setCell ⟨N, 2, none⟩ xv).setCell ⟨N, 3, none⟩ tv).heap.size = w'.heap.size := by simp [World.setCell]
  have hk : ∀ k, k ≠ N → ((((w'.setCell ⟨N, 0, none⟩ sv).setCell ⟨N, 1, none⟩ (.int .i64 q)).setCell ⟨N, 2, none⟩ xv).setCell ⟨N, 3, none⟩ tv).heap[k]? = w'.heap[k]? := fun k hk => by
    rw [Below.heap_setCell _ _ _ _ (by show k ≠ N; exact hk), Below.heap_setCell _ _ _ _ (by show k ≠ N; exact hk), Below.heap_setCell _ _ _ _ (by show k ≠ N; exact hk), Below.heap_setCell _ _ _ _ (by show k ≠ N; exact hk)]
  refine ⟨(((h.bl.setCell hN _).setCell hN _).setCell hN _).setCell hN _, fun p hp => ?_, fun c hc => ?_, fun p c hp hc => ?_⟩
  · cases hp
    rw [hs]
    exact ⟨own_heap ho.s fun k e => hk k (a1 k e), own_heap ho.x fun k e => hk k (a2 k e), own_heap ho.t fun k e => hk k (a3 k e), ho.ap1, ho.ap2, ho.ap3, ho.his, ho.hix, ho.hit⟩
  · cases hc; exact ⟨(((hB.set 0 sv).set 1 (.int .i64 q)).set 2 xv).set 3 tv, hN⟩
  · cases hp; cases hc; exact ⟨a1, a2, a3⟩
end
/-- The two halves of a row, as slices of it. -/
theorem half_parts {w : World} {X n m cx : Nat} {xs : List Int} (h : Ints w (.slice (some ⟨X, 0, none⟩) n cx) xs) (hn : xs.length = n) (hm : m ≤ n) :
    IntsO w (.slice (some ⟨X, 0, none⟩) m cx) (xs.take m) ∧ IntsO w (.slice (some ⟨X, m, none⟩) (n - m) (cx - m)) (xs.drop m) := by
  obtain ⟨a, c, e, k⟩ := h.opened
  rw [hn] at e
  cases e
  have hmx := k.max
  refine ⟨⟨_, cx, by rw [List.length_take, hn, Nat.min_eq_left hm], by rw [List.length_take]; omega, fun j hj => ?_⟩, ⟨_, cx - m, by rw [List.length_drop, hn], by rw [List.length_drop]; omega, fun j hj => ?_⟩⟩
  · rw [List.length_take] at hj
    obtain ⟨g, e1, e2, e3⟩ := k.get j (by omega)
    cases e1
    refine ⟨X, 0, rfl, e2, ?_⟩
    rw [Nat.zero_add, e3]
    congr 2
    unfold nth
    rw [List.getD_eq_getElem?_getD, List.getD_eq_getElem?_getD, List.getElem?_take_of_lt (by omega)]
  · rw [List.length_drop] at hj
    obtain ⟨g, e1, e2, e3⟩ := k.get (m + j) (by omega)
    cases e1
    refine ⟨X, m, rfl, e2, ?_⟩
    rw [e3]
    congr 2
    unfold nth
    rw [List.getD_eq_getElem?_getD, List.getD_eq_getElem?_getD, List.getElem?_drop]
theorem own_cap {w : World} {B g n cap : Nat} {xs : List Int} (h : Own w B (.slice (some ⟨g, 0, none⟩) n cap) xs) : n ≤ cap := by
  rcases id h.2 with ⟨e, _⟩ | ⟨g', cap', cur, e, _, _, h3, _⟩
  · cases e
  · cases e; exact h3
theorem rows_halves {w : World} {lo hi : Nat} {v : Value} {us : List Value} {L : List (List Int)} (h : OwnSS w lo hi v us L) {n m k : Nat} (hk : k < L.length) (hn : (row L k).length = n) (hm : m ≤ n) (hp : 0 < n) (hb : n ≤ 100) :
    ∃ G X cx c, v = .slice (some ⟨G, 0, none⟩) L.length c ∧ n ≤ cx ∧ ∀ w', Below w.heap.size w w' → w'.cell? ⟨G, k, none⟩ = some (.slice (some ⟨X, 0, none⟩) n cx) ∧ IntsO w' (.slice (some ⟨X, 0, none⟩) m cx) ((row L k).take m) ∧ IntsO w' (.slice (some ⟨X, m, none⟩) (n - m) (cx - m)) ((row L k).drop m) := by
  obtain ⟨G, c, e, hG, hc, hi⟩ := h.intsAt hk (by rw [hn]; unfold maxLen; omega)
  have hr := h.rows k (by rw [h.len]; exact hk)
  obtain ⟨X, cx, ev⟩ := own_slice' hr (by omega)
  rw [ev, hn] at hc hi hr
  exact ⟨G, X, cx, c, e, own_cap hr, fun w' hb' => ⟨(hb'.cell (p := ⟨G, k, none⟩) hG).trans hc, (half_parts (hi.below hb') hn hm).1, (half_parts (hi.below hb') hn hm).2⟩⟩
/-- SomeOf, its answer taken or not. -/
theorem isofo_is {keys secrets first second : List Int} {need ask : Int} {r : Bool} (hr : sofB 0 keys need secrets first second ask = r) (kv sv fv gv : Value) (w : World) (G : Gr w) (hk : Ints w kv keys) (hs : Ints w sv secrets) (hf : IntsO w fv first) (hg : IntsO w gv second) :
    Calls Tryd.prog 86 #[.int .i64 0, kv, .int .i64 need, sv, fv, gv, .int .i64 ask] w fun e w' => ∃ sv xv tv, e = .returned (.tuple #[.agg #[sv, .int .i64 (sQ r ask), xv, tv], .bool r]) ∧ OwnS w' w.heap.size w'.heap.size sv xv tv (sL r (mapTo (sofS 0 keys secrets first second) keys.length)) (sL r (mapTo (sofX 0 secrets first ask keys.length) keys.length)) (sL r (mapTo (sofT 0 secrets first second ask keys.length) keys.length)) ∧ Below w.heap.size w w' := by
  have := isofo_any 0 need ask kv sv fv gv keys secrets first second w G hk hs hf hg
  rwa [hr] at this

set_option maxHeartbeats 6400000 in
set_option maxRecDepth 20000 in
theorem itby_any (kv sv : Value) (keys secrets : List Int) (need ask : Int) (w : World) (G : Gr w) (hk : Ints w kv keys) (hs : Ints w sv secrets) :
    Calls Tryd.prog 40 #[kv, .int .i64 need, sv, .int .i64 ask] w fun e w' => ∃ v, e = .returned v ∧ Own w' w.heap.size v (tby keys need secrets ask) ∧ Below w.heap.size w w' := by
  have HIK0 := Lib.hid hk
  have HIS0 := Lib.hid hs
  have HG := Lib.hid G
  obtain ⟨ka, kc, rfl, hka⟩ := hk.opened
  obtain ⟨sa, sc, rfl, hsa⟩ := hs.opened
  clear hk hs G hka hsa
  cases hky : kysB 0 keys need
  · have HX := Lib.hid (tby_no (secrets := secrets) (ask := ask) hky)
    have HK : Hid (kysB 0 keys need = false) := Lib.hid hky
    clear hky
    go_enter Tryd.func40, Tryd.ntmps40
    go_wp2_with fail
    refine (ikeys_any 0 need _ keys w HG.out HIK0.out).mono ?_
    rintro e w1 ⟨rfl, hb⟩
    rw [HK.out]
    go_wp2
    go_ret
    exact ⟨_, rfl, by rw [HX.out]; exact World.ownsRow_nil _ _ _ _, hb⟩
  · have h12 := kys_two hky
    obtain ⟨f, hf⟩ : ∃ f, f = fnI keys need secrets ask := ⟨_, rfl⟩
    obtain ⟨L, hL⟩ : ∃ L, L = lots 3 (2 * keys.length) := ⟨_, rfl⟩
    obtain ⟨N, hN⟩ : ∃ N, 9 ^ keys.length = N := ⟨_, rfl⟩
    obtain ⟨m, hm⟩ : ∃ m, keys.length = m := ⟨_, rfl⟩
    obtain ⟨ns, hns⟩ : ∃ ns, secrets.length = ns := ⟨_, rfl⟩
    have hlL : L.length = N := by
      rw [hL, lots_len, ← hN]
      rcases h12 with e | e <;> rw [e] <;> decide
    have HX : Hid (tby keys need secrets ask = sortI (colTo f N)) := Lib.hid (by rw [tby_I hky, hf, hN])
    have HK : Hid (kysB 0 keys need = true) := Lib.hid hky
    have HRL := Lib.hid (show ∀ k, k < L.length → (row L k).length = 2 * m from fun k hk => by rw [hL] at hk ⊢; rw [← hm]; exact lots_row hk)
    have HNO := Lib.hid (show ∀ k, sofB 0 keys need secrets ((row L k).take m) ((row L k).drop m) ask = false → colTo f (k + 1) = colTo f k from fun k h => colTo_no (by rw [hf]; unfold fnI pI; rw [hm, ← hm, ← hL, hm]; exact pk_no h))
    have HYES := Lib.hid (show ∀ k, sofB 0 keys need secrets ((row L k).take m) ((row L k).drop m) ask = true → colTo f (k + 1) = colTo f k ++ [codeTo (mapTo (sofS 0 keys secrets ((row L k).take m) ((row L k).drop m)) m) (mapTo (sofX 0 secrets ((row L k).take m) ask m) m) (mapTo (sofT 0 secrets ((row L k).take m) ((row L k).drop m) ask m) m) m] from fun k h => colTo_yes (by rw [hf]; unfold fnI pI; rw [← hL, hm]; refine (pk_yes h).trans ?_; unfold cdO; rw [hm]))
    have HDIG := Lib.hid (show ∀ k, sofB 0 keys need secrets ((row L k).take m) ((row L k).drop m) ask = true → Digs (mapTo (sofS 0 keys secrets ((row L k).take m) ((row L k).drop m)) m) (mapTo (sofX 0 secrets ((row L k).take m) ask m) m) (mapTo (sofT 0 secrets ((row L k).take m) ((row L k).drop m) ask m) m) m from fun k h => by have := sof_digs h; rwa [hm] at this)
    have hNR := Lib.hid (show ∀ w', Calls Tryd.prog 85 #[.int .i64 3, .int .i64 (2 * (m : Int))] w' fun e w'' => ∃ v us, e = .returned v ∧ OwnSS w'' w'.heap.size w''.heap.size v us L ∧ Below w'.heap.size w' w'' from fun w' => by
      rw [hL, hm, show (2 * (m : Int)) = ((2 * m : Nat) : Int) by omega]
      exact inrow4_any 3 (2 * m) w' rfl (by omega))
    have HIK : Hid (Ints w (.slice ka m kc) keys) := Lib.hid (by rw [← hm]; exact HIK0.out)
    have HIS : Hid (Ints w (.slice sa ns sc) secrets) := Lib.hid (by rw [← hns]; exact HIS0.out)
    have hm2 : m = 1 ∨ m = 2 := by rw [← hm]; exact h12
    have hN81 : N ≤ 81 := by
      rw [← hN]
      rcases h12 with e | e <;> rw [e] <;> decide
    rw [hm, hns]
    have HM := Lib.hid hm
    clear hf hL hky h12 hN hm hns HIK0 HIS0
    go_enter Tryd.func40, Tryd.ntmps40
    go_wp2_with fail
    refine (ikeys_any 0 need _ keys w HG.out HIK.out).mono ?_
    rintro e w1 ⟨rfl, hb⟩
    rw [HK.out]
    have B1 := Lib.hid hb
    clear hb
    obtain ⟨e0, e1, e2, e3, e4, e5, e6, e7, e8, e9, e10, e11⟩ := HG.out.on B1.out
    have hm3 : m ≤ 2 := by omega
    go_wp2_with fail
    refine (hNR.out w1).mono ?_
    rintro e w2 ⟨rv, us, rfl, oss, hb⟩
    have B2 := Lib.hid (Below.on B1.out hb)
    obtain ⟨ra, rc, rfl, hoc⟩ := outer_cell oss.outer
    clear hoc
    have hul : us.length = N := by rw [oss.len]; exact hlL
    have HHV := Lib.hid (show ∀ k, k < N → ∃ G X cx, ra = some ⟨G, 0, none⟩ ∧ 2 * m ≤ cx ∧ ∀ w', Below w2.heap.size w2 w' → w'.cell? ⟨G, k, none⟩ = some (.slice (some ⟨X, 0, none⟩) (2 * m) cx) ∧ IntsO w' (.slice (some ⟨X, 0, none⟩) m cx) ((row L k).take m) ∧ IntsO w' (.slice (some ⟨X, m, none⟩) (2 * m - m) (cx - m)) ((row L k).drop m) from fun k hk => by
      obtain ⟨G, X, cx, c, e, h1, h2⟩ := rows_halves oss (n := 2 * m) (m := m) (by rw [hlL]; exact hk) (HRL.out k (by rw [hlL]; exact hk)) (by omega) (by omega) (by omega)
      rw [hlL, hul] at e
      injection e with e _ _
      exact ⟨G, X, cx, e, h1, h2⟩)
    rw [hul]
    have OB : Hid (Own w2 w2.heap.size (.slice none 0 0) (colTo f 0)) := Lib.hid (World.ownsRow_nil _ _ _ _)
    clear hb oss hul e0 e1 e2 e3 e4 e5 e6 e7 e8 e9 e10 e11 hlL B1 hNR us
    go_wp2
    go_loopw [10, 28] (fun v i wr => ∃ k : Nat, k ≤ N ∧ i = .int .i64 k ∧ Hid (Own wr w2.heap.size v (colTo f k)) ∧ Hid (Below w2.heap.size w2 wr)) (fun _ i _ => N - (intOf i).toNat)
    case atStart => exact ⟨0, by omega, rfl, OB, Lib.hid (Below.refl _ _)⟩
    case round =>
      obtain ⟨k, hk, rfl, hO, hB⟩ := hrel
      obtain ⟨wj, rfl⟩ : ∃ wj : World, wj = wr := ⟨_, rfl⟩
      clear OB
      by_cases hlt : k < N
      · have hlt1 : (k : Int) < (N : Int) := by omega
        obtain ⟨G, X, cx, rfl, hcx, hh⟩ := HHV.out k hlt
        have HH := Lib.hid hh
        have c0 := (hh wj hB.out).1
        have hs1 : m ≤ cx := by omega
        have hs2 : m ≤ 2 * m := by omega
        clear hh
        cases hr : sofB 0 keys need secrets ((row L k).take m) ((row L k).drop m) ask
        · skip
          have LS : (sL false (mapTo (sofS 0 keys secrets ((row L k).take m) ((row L k).drop m)) m)).length = 0 := rfl
          have LX : (sL false (mapTo (sofX 0 secrets ((row L k).take m) ask m) m)).length = 0 := rfl
          have LT : (sL false (mapTo (sofT 0 secrets ((row L k).take m) ((row L k).drop m) ask m) m)).length = 0 := rfl
          have HR : Hid (sofB 0 keys need secrets ((row L k).take m) ((row L k).drop m) ask = false) := Lib.hid hr
          clear hr
          go_wp2_with fail
          apply wp_region_H (Z := Option (Value × Value × Value) × Option (Nat × List Value)) (S := fun k => k == 10 || k == 14 || k == 15) (C := fun z w' => Hid (Tz wj (sL false (mapTo (sofS 0 keys secrets ((row L k).take m) ((row L k).drop m)) m)) (sL false (mapTo (sofX 0 secrets ((row L k).take m) ask m) m)) (sL false (mapTo (sofT 0 secrets ((row L k).take m) ((row L k).drop m) ask m) m)) z.1 z.2 w')) [0, 1, 2, 3, 4, 5, 6, 7, 8, 9] (none, none)
          · kernel_rfl
          · kernel_rfl
          · kernel_rfl
          · exact ⟨rfl, rfl, rfl, rfl, rfl, rfl, rfl, rfl, rfl, rfl, trivial⟩
          · kernel_rfl
          · decide
          · exact Lib.hid ⟨(Below.refl _ _).drew, fun p hp => (by cases hp), fun c hc => (by cases hc), fun p c hp => (by cases hp)⟩
          · intro z
            dsimp only [pickL, nthO]
            repeat (first | go_big_quiet_skip | (go_big_quiet_want; go_big_quiet_op; first | go_big_quiet_on | (refine ⟨_, fun _ _ => rfl, ?_⟩; go_big_quiet_on)))
            exact wpQuiet_nil rfl
          · refine wpAnyH_key (D := Nat × (Option Addr × Nat) × (Option Addr × Nat) × (Option Addr × Nat))
              (fun d => (some (.slice d.2.1.1 0 d.2.1.2, .slice d.2.2.1.1 0 d.2.2.1.2, .slice d.2.2.2.1 0 d.2.2.2.2), some (d.1, [.slice d.2.1.1 0 d.2.1.2, .int .i64 0, .slice d.2.2.1.1 0 d.2.2.1.2, .slice d.2.2.2.1 0 d.2.2.2.2])))
              (fun d a => ((((((a.put (some 43) (.tuple #[(.agg #[.slice d.2.1.1 0 d.2.1.2, .int .i64 0, .slice d.2.2.1.1 0 d.2.2.1.2, .slice d.2.2.2.1 0 d.2.2.2.2]), .bool false])).put (some 32) (.tuple #[(.agg #[.slice d.2.1.1 0 d.2.1.2, .int .i64 0, .slice d.2.2.1.1 0 d.2.2.1.2, .slice d.2.2.2.1 0 d.2.2.2.2]), .bool false])).put (some 44) (.agg #[.slice d.2.1.1 0 d.2.1.2, .int .i64 0, .slice d.2.2.1.1 0 d.2.2.1.2, .slice d.2.2.2.1 0 d.2.2.2.2])).put (some 45) (.bool false)).put (some 13) (.pointer (some ⟨d.1, 0, none⟩))).put (some 14) (.bool false))) ?_ ?_
            · refine wpAnyH_two 10 14 (by kernel_rfl) ?_ ?_
              · refine hOp_call (i := 10) (d := some 43) 86 #[.int .i64 0, .slice ka m kc, .int .i64 need, .slice sa ns sc, .slice (some ⟨X, 0, none⟩) m cx, .slice (some ⟨X, m, none⟩) (2 * m - m) (cx - m), .int .i64 ask] rfl rfl rfl (by kernel_rfl) (fun _ => by kernel_rfl) fun wa hc => ?_
                have tz := hc.out
                have cc := isofo_is HR.out _ _ _ _ wa (HG.out.on (Below.on B2.out (Below.on hB.out tz.bl))) (HIK.out.below (Below.on B2.out (Below.on hB.out tz.bl))) (HIS.out.below (Below.on B2.out (Below.on hB.out tz.bl))) (HH.out _ (Below.on hB.out tz.bl)).2.1 (HH.out _ (Below.on hB.out tz.bl)).2.2
                rw [HM.out, show sQ false ask = 0 from rfl] at cc
                refine cc.mono ?_
                rintro e wd ⟨sv, xv, tv, rfl, o1, hb⟩
                obtain ⟨s9, n9, x1⟩ := o1.s.form
                obtain ⟨x9, k9, x2⟩ := o1.x.form
                obtain ⟨t9, m9, x3⟩ := o1.t.form
                rw [LS] at x1
                rw [LX] at x2
                rw [LT] at x3
                subst x1 x2 x3
                refine ⟨_, rfl, (some (.slice s9 0 n9, .slice x9 0 k9, .slice t9 0 m9), none), Lib.hid (Tz.call hc.out hb o1), ?_⟩
                clear o1 hb hc
                refine takeH (i := 11) (d := some 32) (.tuple #[.agg #[.slice s9 0 n9, .int .i64 0, .slice x9 0 k9, .slice t9 0 m9], .bool false]) rfl (by kernel_rfl) rfl rfl (by kernel_rfl) (by kernel_rfl) (by kernel_rfl) (fun w => by simp [go_sem, Act.put]) ?_
                refine takeH (i := 12) (d := some 44) (.agg #[.slice s9 0 n9, .int .i64 0, .slice x9 0 k9, .slice t9 0 m9]) rfl (by kernel_rfl) rfl rfl (by kernel_rfl) (by kernel_rfl) (by kernel_rfl) (fun w => by simp [go_sem, Act.put]) ?_
                refine takeH (i := 13) (d := some 45) (.bool false) rfl (by kernel_rfl) rfl rfl (by kernel_rfl) (by kernel_rfl) (by kernel_rfl) (fun w => by simp [go_sem, Act.put]) ?_
                refine wpAnyH_special (i := 14) (d := some 13) rfl (by kernel_rfl) rfl rfl (by kernel_rfl) fun wp hp => ⟨.pointer (some ⟨wp.heap.size, 0, none⟩), wp.alloc (.cells #[.slice none 0 0, .int .i64 0, .slice none 0 0, .slice none 0 0] 75), (some (.slice s9 0 n9, .slice x9 0 k9, .slice t9 0 m9), some (wp.heap.size, [.slice none 0 0, .int .i64 0, .slice none 0 0, .slice none 0 0])), .inl (by kernel_rfl), Lib.hid (Tz.make hp.out), ?_⟩
                clear hp
                refine wpAnyH_special (i := 15) (d := none) rfl (by kernel_rfl) rfl rfl (by kernel_rfl) fun we he => ?_
                obtain ⟨hbx, _⟩ := he.out.bx _ rfl
                have r0 := hbx.cell 0
                have r1 := hbx.cell 1
                have r2 := hbx.cell 2
                have r3 := hbx.cell 3
                have f0 := hbx.frozen 0
                have f1 := hbx.frozen 1
                have f2 := hbx.frozen 2
                have f3 := hbx.frozen 3
                simp at r0 r1 r2 r3
                dsimp only at f0 f1 f2 f3
                refine ⟨undef, (((we.setCell ⟨wp.heap.size, 0, none⟩ (.slice s9 0 n9)).setCell ⟨wp.heap.size, 1, none⟩ (.int .i64 0)).setCell ⟨wp.heap.size, 2, none⟩ (.slice x9 0 k9)).setCell ⟨wp.heap.size, 3, none⟩ (.slice t9 0 m9), (some (.slice s9 0 n9, .slice x9 0 k9, .slice t9 0 m9), some (wp.heap.size, [.slice s9 0 n9, .int .i64 0, .slice x9 0 k9, .slice t9 0 m9])), .inr ⟨by simp [go_sem, Act.put, r0, r1, r2, r3, f0, f1, f2, f3], rfl⟩, Lib.hid (Tz.store he.out), ?_⟩
                clear he hbx r0 r1 r2 r3 f0 f1 f2 f3
                refine wpAnyH_assign (i := 16) (d := some 14) (.tmp 45) rfl (by kernel_rfl) rfl rfl (by kernel_rfl) rfl ?_
                exact ⟨by kernel_rfl, ⟨(wp.heap.size, (s9, n9), (x9, k9), (t9, m9)), rfl, by kernel_rfl⟩⟩
              · refine hOp_special (d := some 13) rfl rfl rfl (by kernel_rfl) fun wp hp => ⟨.pointer (some ⟨wp.heap.size, 0, none⟩), wp.alloc (.cells #[.slice none 0 0, .int .i64 0, .slice none 0 0, .slice none 0 0] 75), (none, some (wp.heap.size, [.slice none 0 0, .int .i64 0, .slice none 0 0, .slice none 0 0])), by kernel_rfl, Lib.hid (Tz.make hp.out), ?_⟩
                clear hp
                refine wpAnyH_call (i := 10) (d := some 43) 86 #[.int .i64 0, .slice ka m kc, .int .i64 need, .slice sa ns sc, .slice (some ⟨X, 0, none⟩) m cx, .slice (some ⟨X, m, none⟩) (2 * m - m) (cx - m), .int .i64 ask] rfl (by kernel_rfl) rfl rfl (by kernel_rfl) (fun _ => by kernel_rfl) fun wa hc => ?_
                have tz := hc.out
                have cc := isofo_is HR.out _ _ _ _ wa (HG.out.on (Below.on B2.out (Below.on hB.out tz.bl))) (HIK.out.below (Below.on B2.out (Below.on hB.out tz.bl))) (HIS.out.below (Below.on B2.out (Below.on hB.out tz.bl))) (HH.out _ (Below.on hB.out tz.bl)).2.1 (HH.out _ (Below.on hB.out tz.bl)).2.2
                rw [HM.out, show sQ false ask = 0 from rfl] at cc
                refine cc.mono ?_
                rintro e wd ⟨sv, xv, tv, rfl, o1, hb⟩
                obtain ⟨s9, n9, x1⟩ := o1.s.form
                obtain ⟨x9, k9, x2⟩ := o1.x.form
                obtain ⟨t9, m9, x3⟩ := o1.t.form
                rw [LS] at x1
                rw [LX] at x2
                rw [LT] at x3
                subst x1 x2 x3
                refine ⟨_, rfl, (some (.slice s9 0 n9, .slice x9 0 k9, .slice t9 0 m9), some (wp.heap.size, [.slice none 0 0, .int .i64 0, .slice none 0 0, .slice none 0 0])), Lib.hid (Tz.call hc.out hb o1), ?_⟩
                clear o1 hb hc
                refine takeH (i := 11) (d := some 32) (.tuple #[.agg #[.slice s9 0 n9, .int .i64 0, .slice x9 0 k9, .slice t9 0 m9], .bool false]) rfl (by kernel_rfl) rfl rfl (by kernel_rfl) (by kernel_rfl) (by kernel_rfl) (fun w => by simp [go_sem, Act.put]) ?_
                refine takeH (i := 12) (d := some 44) (.agg #[.slice s9 0 n9, .int .i64 0, .slice x9 0 k9, .slice t9 0 m9]) rfl (by kernel_rfl) rfl rfl (by kernel_rfl) (by kernel_rfl) (by kernel_rfl) (fun w => by simp [go_sem, Act.put]) ?_
                refine takeH (i := 13) (d := some 45) (.bool false) rfl (by kernel_rfl) rfl rfl (by kernel_rfl) (by kernel_rfl) (by kernel_rfl) (fun w => by simp [go_sem, Act.put]) ?_
                refine wpAnyH_special (i := 15) (d := none) rfl (by kernel_rfl) rfl rfl (by kernel_rfl) fun we he => ?_
                obtain ⟨hbx, _⟩ := he.out.bx _ rfl
                have r0 := hbx.cell 0
                have r1 := hbx.cell 1
                have r2 := hbx.cell 2
                have r3 := hbx.cell 3
                have f0 := hbx.frozen 0
                have f1 := hbx.frozen 1
                have f2 := hbx.frozen 2
                have f3 := hbx.frozen 3
                simp at r0 r1 r2 r3
                dsimp only at f0 f1 f2 f3
                refine ⟨undef, (((we.setCell ⟨wp.heap.size, 0, none⟩ (.slice s9 0 n9)).setCell ⟨wp.heap.size, 1, none⟩ (.int .i64 0)).setCell ⟨wp.heap.size, 2, none⟩ (.slice x9 0 k9)).setCell ⟨wp.heap.size, 3, none⟩ (.slice t9 0 m9), (some (.slice s9 0 n9, .slice x9 0 k9, .slice t9 0 m9), some (wp.heap.size, [.slice s9 0 n9, .int .i64 0, .slice x9 0 k9, .slice t9 0 m9])), .inr ⟨by simp [go_sem, Act.put, r0, r1, r2, r3, f0, f1, f2, f3], rfl⟩, Lib.hid (Tz.store he.out), ?_⟩
                clear he hbx r0 r1 r2 r3 f0 f1 f2 f3
                refine wpAnyH_assign (i := 16) (d := some 14) (.tmp 45) rfl (by kernel_rfl) rfl rfl (by kernel_rfl) rfl ?_
                exact ⟨by kernel_rfl, ⟨(wp.heap.size, (s9, n9), (x9, k9), (t9, m9)), rfl, by kernel_rfl⟩⟩
            · rintro ⟨N, ⟨s9, n9⟩, ⟨x9, k9⟩, t9, m9⟩ w3 hz
              simp only [Act.put, List.setIfInBounds_toArray, List.set_cons_zero, List.set_cons_succ]
              have TZ := Lib.hid hz.out
              clear hz
              have hn := Lib.hid (HNO.out k HR.out)
              have B3 := Lib.hid (Below.on hB.out TZ.out.bl)
              have O3 : Hid (Own w3 w2.heap.size u10 (colTo f (k + 1))) := Lib.hid (by rw [hn.out]; exact own_below hO.out TZ.out.bl)
              clear TZ hO hB
              go_wp2
              go_roundw
              case rel => exact ⟨k + 1, by omega, by go_num, O3, B3⟩
              case measure => simp [intOf]; omega
        · skip
          have LS : (sL true (mapTo (sofS 0 keys secrets ((row L k).take m) ((row L k).drop m)) m)).length = m := mapTo_len _ _
          have LX : (sL true (mapTo (sofX 0 secrets ((row L k).take m) ask m) m)).length = m := mapTo_len _ _
          have LT : (sL true (mapTo (sofT 0 secrets ((row L k).take m) ((row L k).drop m) ask m) m)).length = m := mapTo_len _ _
          have HR : Hid (sofB 0 keys need secrets ((row L k).take m) ((row L k).drop m) ask = true) := Lib.hid hr
          clear hr
          go_wp2_with fail
          apply wp_region_H (Z := Option (Value × Value × Value) × Option (Nat × List Value)) (S := fun k => k == 10 || k == 14 || k == 15) (C := fun z w' => Hid (Tz wj (sL true (mapTo (sofS 0 keys secrets ((row L k).take m) ((row L k).drop m)) m)) (sL true (mapTo (sofX 0 secrets ((row L k).take m) ask m) m)) (sL true (mapTo (sofT 0 secrets ((row L k).take m) ((row L k).drop m) ask m) m)) z.1 z.2 w')) [0, 1, 2, 3, 4, 5, 6, 7, 8, 9] (none, none)
          · kernel_rfl
          · kernel_rfl
          · kernel_rfl
          · exact ⟨rfl, rfl, rfl, rfl, rfl, rfl, rfl, rfl, rfl, rfl, trivial⟩
          · kernel_rfl
          · decide
          · exact Lib.hid ⟨(Below.refl _ _).drew, fun p hp => (by cases hp), fun c hc => (by cases hc), fun p c hp => (by cases hp)⟩
          · intro z
            dsimp only [pickL, nthO]
            repeat (first | go_big_quiet_skip | (go_big_quiet_want; go_big_quiet_op; first | go_big_quiet_on | (refine ⟨_, fun _ _ => rfl, ?_⟩; go_big_quiet_on)))
            exact wpQuiet_nil rfl
          · refine wpAnyH_key (D := Nat × (Option Addr × Nat) × (Option Addr × Nat) × (Option Addr × Nat))
              (fun d => (some (.slice d.2.1.1 m d.2.1.2, .slice d.2.2.1.1 m d.2.2.1.2, .slice d.2.2.2.1 m d.2.2.2.2), some (d.1, [.slice d.2.1.1 m d.2.1.2, .int .i64 ask, .slice d.2.2.1.1 m d.2.2.1.2, .slice d.2.2.2.1 m d.2.2.2.2])))
              (fun d a => ((((((a.put (some 43) (.tuple #[(.agg #[.slice d.2.1.1 m d.2.1.2, .int .i64 ask, .slice d.2.2.1.1 m d.2.2.1.2, .slice d.2.2.2.1 m d.2.2.2.2]), .bool true])).put (some 32) (.tuple #[(.agg #[.slice d.2.1.1 m d.2.1.2, .int .i64 ask, .slice d.2.2.1.1 m d.2.2.1.2, .slice d.2.2.2.1 m d.2.2.2.2]), .bool true])).put (some 44) (.agg #[.slice d.2.1.1 m d.2.1.2, .int .i64 ask, .slice d.2.2.1.1 m d.2.2.1.2, .slice d.2.2.2.1 m d.2.2.2.2])).put (some 45) (.bool true)).put (some 13) (.pointer (some ⟨d.1, 0, none⟩))).put (some 14) (.bool true))) ?_ ?_
            · refine wpAnyH_two 10 14 (by kernel_rfl) ?_ ?_
              · refine hOp_call (i := 10) (d := some 43) 86 #[.int .i64 0, .slice ka m kc, .int .i64 need, .slice sa ns sc, .slice (some ⟨X, 0, none⟩) m cx, .slice (some ⟨X, m, none⟩) (2 * m - m) (cx - m), .int .i64 ask] rfl rfl rfl (by kernel_rfl) (fun _ => by kernel_rfl) fun wa hc => ?_
                have tz := hc.out
                have cc := isofo_is HR.out _ _ _ _ wa (HG.out.on (Below.on B2.out (Below.on hB.out tz.bl))) (HIK.out.below (Below.on B2.out (Below.on hB.out tz.bl))) (HIS.out.below (Below.on B2.out (Below.on hB.out tz.bl))) (HH.out _ (Below.on hB.out tz.bl)).2.1 (HH.out _ (Below.on hB.out tz.bl)).2.2
                rw [HM.out, show sQ true ask = ask from rfl] at cc
                refine cc.mono ?_
                rintro e wd ⟨sv, xv, tv, rfl, o1, hb⟩
                obtain ⟨s9, n9, x1⟩ := o1.s.form
                obtain ⟨x9, k9, x2⟩ := o1.x.form
                obtain ⟨t9, m9, x3⟩ := o1.t.form
                rw [LS] at x1
                rw [LX] at x2
                rw [LT] at x3
                subst x1 x2 x3
                refine ⟨_, rfl, (some (.slice s9 m n9, .slice x9 m k9, .slice t9 m m9), none), Lib.hid (Tz.call hc.out hb o1), ?_⟩
                clear o1 hb hc
                refine takeH (i := 11) (d := some 32) (.tuple #[.agg #[.slice s9 m n9, .int .i64 ask, .slice x9 m k9, .slice t9 m m9], .bool true]) rfl (by kernel_rfl) rfl rfl (by kernel_rfl) (by kernel_rfl) (by kernel_rfl) (fun w => by simp [go_sem, Act.put]) ?_
                refine takeH (i := 12) (d := some 44) (.agg #[.slice s9 m n9, .int .i64 ask, .slice x9 m k9, .slice t9 m m9]) rfl (by kernel_rfl) rfl rfl (by kernel_rfl) (by kernel_rfl) (by kernel_rfl) (fun w => by simp [go_sem, Act.put]) ?_
                refine takeH (i := 13) (d := some 45) (.bool true) rfl (by kernel_rfl) rfl rfl (by kernel_rfl) (by kernel_rfl) (by kernel_rfl) (fun w => by simp [go_sem, Act.put]) ?_
                refine wpAnyH_special (i := 14) (d := some 13) rfl (by kernel_rfl) rfl rfl (by kernel_rfl) fun wp hp => ⟨.pointer (some ⟨wp.heap.size, 0, none⟩), wp.alloc (.cells #[.slice none 0 0, .int .i64 0, .slice none 0 0, .slice none 0 0] 75), (some (.slice s9 m n9, .slice x9 m k9, .slice t9 m m9), some (wp.heap.size, [.slice none 0 0, .int .i64 0, .slice none 0 0, .slice none 0 0])), .inl (by kernel_rfl), Lib.hid (Tz.make hp.out), ?_⟩
                clear hp
                refine wpAnyH_special (i := 15) (d := none) rfl (by kernel_rfl) rfl rfl (by kernel_rfl) fun we he => ?_
                obtain ⟨hbx, _⟩ := he.out.bx _ rfl
                have r0 := hbx.cell 0
                have r1 := hbx.cell 1
                have r2 := hbx.cell 2
                have r3 := hbx.cell 3
                have f0 := hbx.frozen 0
                have f1 := hbx.frozen 1
                have f2 := hbx.frozen 2
                have f3 := hbx.frozen 3
                simp at r0 r1 r2 r3
                dsimp only at f0 f1 f2 f3
                refine ⟨undef, (((we.setCell ⟨wp.heap.size, 0, none⟩ (.slice s9 m n9)).setCell ⟨wp.heap.size, 1, none⟩ (.int .i64 ask)).setCell ⟨wp.heap.size, 2, none⟩ (.slice x9 m k9)).setCell ⟨wp.heap.size, 3, none⟩ (.slice t9 m m9), (some (.slice s9 m n9, .slice x9 m k9, .slice t9 m m9), some (wp.heap.size, [.slice s9 m n9, .int .i64 ask, .slice x9 m k9, .slice t9 m m9])), .inr ⟨by simp [go_sem, Act.put, r0, r1, r2, r3, f0, f1, f2, f3], rfl⟩, Lib.hid (Tz.store he.out), ?_⟩
                clear he hbx r0 r1 r2 r3 f0 f1 f2 f3
                refine wpAnyH_assign (i := 16) (d := some 14) (.tmp 45) rfl (by kernel_rfl) rfl rfl (by kernel_rfl) rfl ?_
                exact ⟨by kernel_rfl, ⟨(wp.heap.size, (s9, n9), (x9, k9), (t9, m9)), rfl, by kernel_rfl⟩⟩
              · refine hOp_special (d := some 13) rfl rfl rfl (by kernel_rfl) fun wp hp => ⟨.pointer (some ⟨wp.heap.size, 0, none⟩), wp.alloc (.cells #[.slice none 0 0, .int .i64 0, .slice none 0 0, .slice none 0 0] 75), (none, some (wp.heap.size, [.slice none 0 0, .int .i64 0, .slice none 0 0, .slice none 0 0])), by kernel_rfl, Lib.hid (Tz.make hp.out), ?_⟩
                clear hp
                refine wpAnyH_call (i := 10) (d := some 43) 86 #[.int .i64 0, .slice ka m kc, .int .i64 need, .slice sa ns sc, .slice (some ⟨X, 0, none⟩) m cx, .slice (some ⟨X, m, none⟩) (2 * m - m) (cx - m), .int .i64 ask] rfl (by kernel_rfl) rfl rfl (by kernel_rfl) (fun _ => by kernel_rfl) fun wa hc => ?_
                have tz := hc.out
                have cc := isofo_is HR.out _ _ _ _ wa (HG.out.on (Below.on B2.out (Below.on hB.out tz.bl))) (HIK.out.below (Below.on B2.out (Below.on hB.out tz.bl))) (HIS.out.below (Below.on B2.out (Below.on hB.out tz.bl))) (HH.out _ (Below.on hB.out tz.bl)).2.1 (HH.out _ (Below.on hB.out tz.bl)).2.2
                rw [HM.out, show sQ true ask = ask from rfl] at cc
                refine cc.mono ?_
                rintro e wd ⟨sv, xv, tv, rfl, o1, hb⟩
                obtain ⟨s9, n9, x1⟩ := o1.s.form
                obtain ⟨x9, k9, x2⟩ := o1.x.form
                obtain ⟨t9, m9, x3⟩ := o1.t.form
                rw [LS] at x1
                rw [LX] at x2
                rw [LT] at x3
                subst x1 x2 x3
                refine ⟨_, rfl, (some (.slice s9 m n9, .slice x9 m k9, .slice t9 m m9), some (wp.heap.size, [.slice none 0 0, .int .i64 0, .slice none 0 0, .slice none 0 0])), Lib.hid (Tz.call hc.out hb o1), ?_⟩
                clear o1 hb hc
                refine takeH (i := 11) (d := some 32) (.tuple #[.agg #[.slice s9 m n9, .int .i64 ask, .slice x9 m k9, .slice t9 m m9], .bool true]) rfl (by kernel_rfl) rfl rfl (by kernel_rfl) (by kernel_rfl) (by kernel_rfl) (fun w => by simp [go_sem, Act.put]) ?_
                refine takeH (i := 12) (d := some 44) (.agg #[.slice s9 m n9, .int .i64 ask, .slice x9 m k9, .slice t9 m m9]) rfl (by kernel_rfl) rfl rfl (by kernel_rfl) (by kernel_rfl) (by kernel_rfl) (fun w => by simp [go_sem, Act.put]) ?_
                refine takeH (i := 13) (d := some 45) (.bool true) rfl (by kernel_rfl) rfl rfl (by kernel_rfl) (by kernel_rfl) (by kernel_rfl) (fun w => by simp [go_sem, Act.put]) ?_
                refine wpAnyH_special (i := 15) (d := none) rfl (by kernel_rfl) rfl rfl (by kernel_rfl) fun we he => ?_
                obtain ⟨hbx, _⟩ := he.out.bx _ rfl
                have r0 := hbx.cell 0
                have r1 := hbx.cell 1
                have r2 := hbx.cell 2
                have r3 := hbx.cell 3
                have f0 := hbx.frozen 0
                have f1 := hbx.frozen 1
                have f2 := hbx.frozen 2
                have f3 := hbx.frozen 3
                simp at r0 r1 r2 r3
                dsimp only at f0 f1 f2 f3
                refine ⟨undef, (((we.setCell ⟨wp.heap.size, 0, none⟩ (.slice s9 m n9)).setCell ⟨wp.heap.size, 1, none⟩ (.int .i64 ask)).setCell ⟨wp.heap.size, 2, none⟩ (.slice x9 m k9)).setCell ⟨wp.heap.size, 3, none⟩ (.slice t9 m m9), (some (.slice s9 m n9, .slice x9 m k9, .slice t9 m m9), some (wp.heap.size, [.slice s9 m n9, .int .i64 ask, .slice x9 m k9, .slice t9 m m9])), .inr ⟨by simp [go_sem, Act.put, r0, r1, r2, r3, f0, f1, f2, f3], rfl⟩, Lib.hid (Tz.store he.out), ?_⟩
                clear he hbx r0 r1 r2 r3 f0 f1 f2 f3
                refine wpAnyH_assign (i := 16) (d := some 14) (.tmp 45) rfl (by kernel_rfl) rfl rfl (by kernel_rfl) rfl ?_
                exact ⟨by kernel_rfl, ⟨(wp.heap.size, (s9, n9), (x9, k9), (t9, m9)), rfl, by kernel_rfl⟩⟩
            · rintro ⟨N, ⟨s9, n9⟩, ⟨x9, k9⟩, t9, m9⟩ w3 hz
              simp only [Act.put, List.setIfInBounds_toArray, List.set_cons_zero, List.set_cons_succ]
              have TZ := Lib.hid hz.out
              clear hz
              have hy := Lib.hid (HYES.out k HR.out)
              obtain ⟨hbx, _⟩ := TZ.out.bx _ rfl
              have c0 := hbx.cell 0
              have c1 := hbx.cell 1
              have c2 := hbx.cell 2
              have c3 := hbx.cell 3
              simp at c0 c1 c2 c3
              have ho := TZ.out.ow _ rfl
              have HDG := Lib.hid (HDIG.out k HR.out)
              have i1 := Ints.of_own ho.s (by rw [LS]; unfold maxLen; omega)
              have i2 := Ints.of_own ho.x (by rw [LX]; unfold maxLen; omega)
              have i3 := Ints.of_own ho.t (by rw [LT]; unfold maxLen; omega)
              have II := Lib.hid (And.intro i1 (And.intro i2 i3))
              have B3 := Lib.hid (Below.on hB.out TZ.out.bl)
              have O3 : Hid (Own w3 w2.heap.size u10 (colTo f k)) := Lib.hid (own_below hO.out TZ.out.bl)
              clear hbx ho i1 i2 i3 TZ hO hB
              go_wp2_with fail
              refine (icode_any _ _ _ _ _ _ _ m w3 II.out.1 II.out.2.1 II.out.2.2 HDG.out).mono ?_
              rintro e w4 ⟨rfl, hb⟩
              have B4 := Lib.hid (Below.on B3.out hb)
              have o4 := own_below O3.out hb
              have hl4 := colTo_len f k
              have z4 := B4.out.size
              clear hb c0 c1 c2 c3 O3 B3 II
              go_wp2_with (at_builtin; refine wpAppInt rfl _ _ rfl rfl o4 (by omega) z4 rfl ?_)
              intro v5 w5 o5 g5 _
              have O5 : Hid (Own w5 w2.heap.size v5 (colTo f (k + 1))) := Lib.hid (by rw [hy.out]; exact o5)
              have B5 := Lib.hid (B4.out.grown g5 z4 (fun k hk => (o4.lt k hk).1))
              clear o5 g5 o4 hl4 z4 B4
              go_wp2
              go_roundw
              case rel => exact ⟨k + 1, by omega, by go_num, O5, B5⟩
              case measure => simp [intOf]; omega
      · obtain rfl : k = N := by omega
        have hl9 := colTo_len f k
        go_wp2_with fail
        refine (isort_any _ (colTo f k) w2.heap.size wj hO.out (by omega)).mono ?_
        rintro e w9 ⟨rfl, o9, g9⟩
        have B9 := Lib.hid (Below.on B2.out (hB.out.grown g9 hB.out.size (fun k hk => (hO.out.lt k hk).1)))
        have O9 : Hid (Own w9 w.heap.size u10 (tby keys need secrets ask)) := Lib.hid (by rw [HX.out]; exact own_mono o9 B2.out.size)
        clear o9 g9
        go_wp2
        go_ret
        exact ⟨_, rfl, O9.out, B9.out⟩
end Go.Proofs.YtljekapbcphdaabDoor
