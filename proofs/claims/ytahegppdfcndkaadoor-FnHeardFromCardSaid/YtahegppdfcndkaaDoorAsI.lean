/- impl: AskerOk, questionsOf (a map of the call's own), AskedBy. -/
import Derived.Test.YtahegppdfcndkaaDoorBCl
import Derived.Test.YtahegppdfcndkaaDoorPureK
import Derived.Test.YtahegppdfcndkaaDoorImplT
import Derived.Maps.OwnOps
import Derived.Maps.Views
namespace Go.Proofs.YtahegppdfcndkaaDoor
open Go.RowKit Go.Maps

set_option maxHeartbeats 800000 in
theorem iask_any (g : Int) (v : Value) (l : List Int) (w : World) (G : Gr w) (h : Ints w v l) : Calls Tryd.prog 22 #[.int .i64 g, v] w fun e w' => e = .returned (.bool (askB g l)) ∧ Below w.heap.size w w' := by
  have HG := Lib.hid G
  have HH := Lib.hid h
  obtain ⟨a, c, rfl, k1⟩ := h.opened
  have hm := k1.max
  unfold maxLen at hm
  clear h k1
  by_cases hg : 0 ≤ g ∧ g < 4
  case neg =>
    have hb : gok g = false := gok_false.2 hg
    have HX := Lib.hid (show askB g l = false by unfold askB; rw [hb]; rfl)
    clear hg G
    go_enter Tryd.func22, Tryd.ntmps22
    go_wp2_with (go_at_call 44; refine (groupOk_any _ _).mono ?_; rintro e w1 ⟨rfl, rfl⟩)
    go_ret
    exact ⟨by rw [HX.out]; rfl, Below.refl _ _⟩
  have hb : gok g = true := gok_true.2 hg
  obtain ⟨g0, g4⟩ := hg
  obtain ⟨c0, c1, c2, c3, c4, c5, c6, c7, c8, c9, c10, c11⟩ := G
  by_cases hl : (l.length : Int) = ord g
  · have HX := Lib.hid (show askB g l = allEx g l by unfold askB; rw [hb, hl]; simp)
    rcases g_cases g0 g4 with rfl | rfl | rfl | rfl <;> clear g0 g4
    all_goals
      simp [ord] at hl
      have hd := decide_eq_true hl
      have hq := beq_iff_eq.2 hl
      have HL := Lib.hid hl
      clear hl
      go_enter Tryd.func22, Tryd.ntmps22
      go_wp2_with (go_at_call 44; refine (groupOk_any _ _).mono ?_; rintro e w1 ⟨rfl, rfl⟩)
      refine (iexsok_any _ _ l _ HG.out HH.out).mono ?_
      rintro e w2 ⟨rfl, hb2⟩
      go_wp2
      go_ret
      exact ⟨by rw [HX.out]; rfl, hb2⟩
  · have HX := Lib.hid (show askB g l = false by unfold askB; rw [hb]; simp [hl])
    rcases g_cases g0 g4 with rfl | rfl | rfl | rfl <;> clear g0 g4
    all_goals
      simp [ord] at hl
      have hd := decide_eq_false hl
      have hq := beq_eq_false_iff_ne.2 hl
      have HL := Lib.hid hl
      go_enter Tryd.func22, Tryd.ntmps22
      go_wp2_with (go_at_call 44; refine (groupOk_any _ _).mono ?_; rintro e w1 ⟨rfl, rfl⟩)
      go_ret
      exact ⟨by rw [HX.out]; rfl, Below.refl _ _⟩

theorem lawI : Keyed Tryd.prog 3 := int_keyed Tryd.underlying3
theorem zeroI (w : World) : (zeroValue 3).run Tryd.prog w = .ok (.int .i64 0) w := by kernel_rfl
/-- Block b is a map of at most k entries: at each of the first k elements the number of the table. -/
def Qm (w : World) (b : Nat) (g : Int) (l : List Int) (k : Nat) : Prop :=
  ∃ D : DataW Unit, w.ownsMap Tryd.prog 3 (plainElem Tryd.prog 3) b k D ∧ IsMap D ∧ ∀ j, j < k → D.atKey (.int .i64 (nth (els g) j)) (.lit (.int .i64 0)) = .lit (.int .i64 (nth l j))
theorem Qm.on {w w' : World} {b k : Nat} {g : Int} {l : List Int} (h : Qm w b g l k) (hb : Below w.heap.size w w') : Qm w' b g l k := by
  obtain ⟨D, h1, h2, h3⟩ := h
  exact ⟨D, h1.kept (row := none) ⟨hb.os, hb.tape, hb.output, hb.size, fun i hi _ => hb.block i hi⟩ (by simp), h2, h3⟩
theorem el_wf {g x : Int} (h : x ∈ els g) : (Lit.int .i64 x).wf = true := by
  have := elB_bound (elB_mem.2 h)
  exact WalkArith.wf_i64 (by omega)
theorem els_apart {g : Int} (h0 : 0 ≤ g) (h4 : g < 4) {j k : Nat} (hj : j < (els g).length) (hk : k < (els g).length) (e : nth (els g) j = nth (els g) k) : j = k := by
  have h1 := plc_nth h0 h4 hj
  rw [e, plc_nth h0 h4 hk] at h1
  exact h1.symm
theorem own_slice7 {w : World} {B : Nat} {v : Value} {xs : List Int} (h : Own w B v xs) (hx : 0 < xs.length) : ∃ g c, v = .slice (some ⟨g, 0, none⟩) xs.length c := by
  rcases id h.2 with ⟨rfl, h0⟩ | ⟨g, cap, cur, rfl, _⟩
  · omega
  · exact ⟨_, _, rfl⟩
/-- What a later world keeps while the map is filled. -/
structure Qw (w : World) (B : Nat) (g : Int) (l : List Int) (v : Value) (k : Nat) (wr : World) : Prop where
  be : Below w.heap.size w wr
  qm : Qm wr B g l k
  own : Own wr (B + 1) v (els g)
theorem Qw.next {w wr w1 : World} {g : Int} {l : List Int} {v : Value} {k : Nat} {D : DataW Unit} (h0 : 0 ≤ g) (h4 : g < 4) (hk : k < (els g).length) (h : Qw w w.heap.size g l v k wr)
    (hD : IsMap D) (hat : ∀ j, j < k → D.atKey (.int .i64 (nth (els g) j)) (.lit (.int .i64 0)) = .lit (.int .i64 (nth l j)))
    (hown : w1.ownsMap Tryd.prog 3 (plainElem Tryd.prog 3) w.heap.size (k + 1) (D.put (.int .i64 (nth (els g) k)) (.lit (.int .i64 (nth l k))))) (hg : wr.grownBy w1 (some w.heap.size)) : Qw w w.heap.size g l v (k + 1) w1 := by
  refine ⟨h.be.grown hg h.be.size (fun j hj => by cases hj; exact Nat.le_refl _), ⟨_, hown, ?_, fun j hj => ?_⟩, h.own.kept hg ?_⟩
  · obtain ⟨es, rfl⟩ := hD; exact ⟨_, rfl⟩
  · by_cases e : j < k
    · rw [atKey_put_other (by
        intro e'
        have h8 : nth (els g) j = nth (els g) k := by injection e'
        have := els_apart h0 h4 (by omega) hk h8
        omega)]
      exact hat j e
    · obtain rfl : j = k := by omega
      exact atKey_put_same hD (by simp [WideAt.IsKeyLit]) _ _
  · cases hv : v.ownBlock with
    | none => exact .inl rfl
    | some k => exact .inr fun e => by have := (h.own.lt k hv).1; cases e; omega

set_option maxHeartbeats 800000 in
theorem iqs_any (g : Int) (a : Option Addr) (c : Nat) (l : List Int) (w : World) (G : Gr w) (k1 : IntsA w a l) (hl : askB g l = true) :
    Calls Tryd.prog 23 #[.int .i64 g, .slice a l.length c] w fun e w' => ∃ b, e = .returned (.map (some b)) ∧ b < w'.heap.size ∧ Qm w' b g l (els g).length ∧ Below w.heap.size w w' := by
  obtain ⟨⟨h0, h4⟩, hlo, hex⟩ := askB_true.1 hl
  have hlen := askB_len hl
  have hmm := @run_makeMap Tryd.prog
  have HG := Lib.hid G
  have HC := Lib.hid (show ∀ w', Below w.heap.size w w' → ∀ k, k < l.length → _ from fun w' hb k hk => (k1.on hb).get k hk)
  have HW := Lib.hid (show ∀ k, k < l.length → (Lit.int .i64 (nth l k)).wf = true from fun k hk => by
    have := (exB_true.1 (allEx_at hex hk)).2
    have := ord_bd h0 h4
    exact WalkArith.wf_i64 (by omega))
  obtain ⟨n, hn⟩ : ∃ n, (els g).length = n := ⟨_, rfl⟩
  have HN := Lib.hid hn
  have HLL := Lib.hid (hlen.1.trans hn)
  have hn3 : 3 ≤ n := by have := ord_bd h0 h4; have := hlen.1; omega
  have hn23 : n ≤ 23 := by have := hlen.2; have := hlen.1; omega
  have HGG := Lib.hid (And.intro h0 h4)
  rw [hn]
  clear G k1 hl hlo hex hlen hn h0 h4
  have B1 := Lib.hid (below_alloc w (.map #[] 0))
  have Q1 : Hid (Qm (w.alloc (.map #[] 0)) w.heap.size g l 0) := Lib.hid ⟨.map [], World.ownsMap_made _ _ _ _, ⟨[], rfl⟩, fun j hj => by omega⟩
  go_enter Tryd.func23, Tryd.ntmps23
  go_wp2_with fail
  refine (iels_any g _ (HG.out.on B1.out)).mono ?_
  rintro e w2 ⟨v, rfl, o2, hb2⟩
  have M2 : Hid (Qw w w.heap.size g l v 0 w2) := Lib.hid ⟨Below.on B1.out hb2, Q1.out.on hb2, own_mono o2 (by simp)⟩
  clear o2 hb2 Q1 B1
  obtain ⟨ea, ec, rfl⟩ := own_slice7 M2.out.own (by rw [HN.out]; omega)
  rw [HN.out] at M2 ⊢
  go_wp2
  go_loopw [12] (fun i wr => ∃ k : Nat, k ≤ n ∧ i = .int .i64 k ∧ Hid (Qw w w.heap.size g l (.slice (some ⟨ea, 0, none⟩) n ec) k wr)) (fun i _ => n - (intOf i).toNat)
  case atStart => exact ⟨0, by omega, rfl, M2⟩
  case round =>
    obtain ⟨k, hk, rfl, M⟩ := hrel
    obtain ⟨wo, rfl⟩ : ∃ wo : World, wo = wr := ⟨_, rfl⟩
    clear M2
    by_cases hlt : k < n
    · obtain ⟨A, rfl, _, hc⟩ := HC.out _ M.out.be k (by rw [HLL.out]; exact hlt)
      have he := (Own.set M.out.own HN.out hlt 0).1.2
      have hkl : k < l.length := by rw [HLL.out]; exact hlt
      have hwy := HW.out k hkl
      have hwx := el_wf (g := g) (nth_mem (by rw [HN.out]; exact hlt))
      obtain ⟨D, hown, hD, hat⟩ := M.out.qm
      have HAT := Lib.hid hat
      have HD := Lib.hid hD
      have HX := Lib.hid (fun (w1 : World) h1 h2 => Qw.next (w1 := w1) (v := .slice (some ⟨ea, 0, none⟩) n ec) HGG.out.1 HGG.out.2 (by rw [HN.out]; exact hlt) M.out HD.out HAT.out h1 h2)
      have hlt1 : (k : Int) < (n : Int) := by omega
      clear hat hD M
      obtain ⟨x, hx⟩ : ∃ x, nth (els g) k = x := ⟨_, rfl⟩
      obtain ⟨y, hy⟩ : ∃ y, nth l k = y := ⟨_, rfl⟩
      rw [hx] at he hwx HX
      rw [hy] at hc hwy HX
      clear hx hy
      have hkey : Go.keyOf Tryd.prog 3 (.int .i64 x) = some (.int .i64 x) := keyOf_int_mk Tryd.underlying3 hwx
      go_wp2_with (at_mapUpdate; refine wpList_mapUpdate_own _ rfl _ _ _ 46 rfl 3 3 lawI Tryd.underlying46 _ w.heap.size k D rfl hown (by unfold maxLen; omega) _ _ _ rfl rfl hkey _ [] (plainElem_int Tryd.underlying3 hwy) ?_; intro w1 hown1 hgrow1)
      go_roundw
      case rel => exact ⟨k + 1, by omega, by go_num, Lib.hid (HX.out w1 hown1 hgrow1)⟩
      case measure => simp [intOf]; omega
    · obtain rfl : k = n := by omega
      have hlt1 : ¬ (k : Int) < (k : Int) := by omega
      go_wp2
      go_ret
      exact ⟨_, rfl, (by obtain ⟨D, hown, _⟩ := M.out.qm; exact hown.lt), M.out.qm, M.out.be⟩

theorem asked_at {g s : Int} {l : List Int} {D : DataW Unit} {c : Int} (hs : elB g s = true) (hat : ∀ j, j < (els g).length → D.atKey (.int .i64 (nth (els g) j)) (.lit (.int .i64 0)) = .lit (.int .i64 (nth l j)))
    (hc : D.atKey (.int .i64 s) (.lit (.int .i64 0)) = .lit (.int .i64 c)) : c = qOf g l s := by
  have h1 := hat _ (plc_lt hs)
  rw [plc_at hs, hc] at h1
  injection h1 with h2
  injection h2 with _ h3
/-- The look-up of an element. -/
theorem Qm.look {w : World} {b : Nat} {g s : Int} {l : List Int} (h : Qm w b g l (els g).length) (hs : elB g s = true) : (Instr.lookup 46 (.map (some b)) (.int .i64 s) false).run Tryd.prog w = .ok (.int .i64 (qOf g l s)) w := by
  obtain ⟨D, hown, _, hat⟩ := h
  obtain ⟨c, hrun, hc, _⟩ := hown.lookup_int lawI Tryd.underlying46 Tryd.underlying3 (zeroI _) (keyOf_int_mk Tryd.underlying3 (el_wf (elB_mem.1 hs)))
  rw [hrun, asked_at hs hat hc]

set_option maxHeartbeats 800000 in
theorem iasb_any (g s : Int) (v : Value) (l : List Int) (w : World) (G : Gr w) (h : Ints w v l) : Calls Tryd.prog 16 #[.int .i64 g, v, .int .i64 s] w fun e w' => e = .returned (.int .i64 (askedB g l s)) ∧ Below w.heap.size w w' := by
  have HG := Lib.hid G
  have HH := Lib.hid h
  obtain ⟨a, c, rfl, k1⟩ := h.opened
  have HK := Lib.hid k1
  clear G h k1
  cases ha : askB g l
  · have HX := Lib.hid (asked_no1 (s := s) ha)
    have HA := Lib.hid ha
    clear ha
    go_enter Tryd.func16, Tryd.ntmps16
    go_wp2_with fail
    refine (iask_any g _ l _ HG.out HH.out).mono ?_
    rintro e w1 ⟨rfl, hb⟩
    rw [HA.out]
    go_wp2
    go_ret
    exact ⟨by rw [HX.out]; rfl, hb⟩
  cases hs : elB g s
  · have HX := Lib.hid (asked_no2 (l := l) hs)
    have HA := Lib.hid ha
    have HS := Lib.hid hs
    clear ha hs
    go_enter Tryd.func16, Tryd.ntmps16
    go_wp2_with fail
    refine (iask_any g _ l _ HG.out HH.out).mono ?_
    rintro e w1 ⟨rfl, hb⟩
    rw [HA.out]
    have B1 := Lib.hid hb
    clear hb
    go_wp2_with fail
    refine (iel_b g s _ (HG.out.on B1.out)).mono ?_
    rintro e w2 ⟨rfl, hb⟩
    rw [HS.out]
    have B2 := Lib.hid (Below.on B1.out hb)
    clear hb
    go_wp2
    go_ret
    exact ⟨by rw [HX.out]; rfl, B2.out⟩
  have HX := Lib.hid (asked_yes ha hs)
  have HA := Lib.hid ha
  have HS := Lib.hid hs
  clear ha hs
  go_enter Tryd.func16, Tryd.ntmps16
  go_wp2_with fail
  refine (iask_any g _ l _ HG.out HH.out).mono ?_
  rintro e w1 ⟨rfl, hb⟩
  rw [HA.out]
  have B1 := Lib.hid hb
  clear hb
  go_wp2_with fail
  refine (iel_b g s _ (HG.out.on B1.out)).mono ?_
  rintro e w2 ⟨rfl, hb⟩
  rw [HS.out]
  have B2 := Lib.hid (Below.on B1.out hb)
  clear hb
  go_wp2_with fail
  refine (iqs_any g a c l _ (HG.out.on B2.out) (HK.out.on B2.out) HA.out).mono ?_
  rintro e w3 ⟨b, rfl, _, hq, hb⟩
  have B3 := Lib.hid (Below.on B2.out hb)
  have hlk := hq.look HS.out
  clear hb hq
  go_wp2
  go_ret
  exact ⟨by rw [HX.out]; rfl, B3.out⟩
end Go.Proofs.YtahegppdfcndkaaDoor
