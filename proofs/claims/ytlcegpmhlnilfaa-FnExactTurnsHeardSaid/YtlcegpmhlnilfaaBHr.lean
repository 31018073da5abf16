/- ThS, HrS, HrT, CpU, in one text. -/
import Derived.Test.YtlcegpmhlnilfaaBCmU
import Derived.Test.YtlcegpmhlnilfaaGaI
import Derived.Test.YtlcegpmhlnilfaaBSp7
import Derived.Test.YtlcegpmhlnilfaaRegionM
import Derived.Deep.Cut
import Derived.Test.YtlcegpmhlnilfaaBMark
import Derived.Test.YtlcegpmhlnilfaaBTu
/- What TurnsHeard and TurnsKept answer; what spec's walks of them know. -/
namespace Go.Proofs.Ytlcegpmhlnilfaa
open Go.RowKit

def putU (p : Int) (g h : List Int) (x : Int × List Int) : Int × List Int × Int × List Int := (p, sayT g h x, x.1, x.2)
def hrV (p : Int) (g : List Int) (q : Int) (h known l : List Int) : List (Int × List Int × Int × List Int) := if hrB p g q h known l then (kpL l p g h).map (putU p g h) else []
def kpV (p : Int) (g : List Int) (q : Int) (h l : List Int) : List (Int × List Int × Int × List Int) := if kpB p g q h l then (kpL l p g h).map (putU p g h) else []
def kpN (p : Int) (g : List Int) (q : Int) (h l : List Int) : Int := if kpB p g q h l then 2 * ((ords p.toNat).length : Int) else -1
def UPost (V : List (Int × List Int × Int × List Int)) (w : World) (e : Ending) (w' : World) : Prop := ∃ v d, e = .returned v ∧ OwnU w' w.heap.size w'.heap.size v d ∧ d.map valU = V ∧ Below w.heap.size w w'
def UPostN (V : List (Int × List Int × Int × List Int)) (n : Int) (w : World) (e : Ending) (w' : World) : Prop := ∃ v d, e = .returned (.tuple #[v, .int .i64 n]) ∧ OwnU w' w.heap.size w'.heap.size v d ∧ d.map valU = V ∧ Below w.heap.size w w'
def keyU (x : Tu) : Int × List Int := (x.a, x.t)
theorem key_val {d : List Tu} {K : List (Int × List Int)} {p : Int} {g h : List Int} (e : d.map valU = K.map (putU p g h)) : d.map keyU = K := by
  have h1 := congrArg (List.map (fun y : Int × List Int × Int × List Int => (y.2.2.1, y.2.2.2))) e
  rw [List.map_map, List.map_map] at h1
  have h2 : K.map ((fun y : Int × List Int × Int × List Int => (y.2.2.1, y.2.2.2)) ∘ putU p g h) = K := by
    have : ((fun y : Int × List Int × Int × List Int => (y.2.2.1, y.2.2.2)) ∘ putU p g h) = id := by funext x; rfl
    rw [this, List.map_id]
  rw [h2] at h1
  exact h1
theorem val_of {d d' : List Tu} {K : List (Int × List Int)} {p : Int} {g h : List Int} (e : d.map valU = K.map (putU p g h)) (hp : d'.Perm d) : d'.map valU = (d'.map keyU).map (putU p g h) := by
  rw [List.map_map]
  refine List.map_congr_left fun x hx => ?_
  have hx' : valU x ∈ d.map valU := List.mem_map.2 ⟨x, hp.mem_iff.1 hx, rfl⟩
  rw [e] at hx'
  obtain ⟨y, _, ey⟩ := List.mem_map.1 hx'
  have : keyU x = y := by
    have h1 := congrArg (fun z : Int × List Int × Int × List Int => (z.2.2.1, z.2.2.2)) ey
    exact h1.symm
  show valU x = putU p g h (keyU x)
  rw [this]; exact ey.symm
/-- Whatever order the talks were gathered in, sorted they are those that are kept. -/
theorem std_is {d d' : List Tu} {K : List (Int × List Int)} {l : List Int} {p : Int} {g h : List Int} (p1 : 1 ≤ p) (p5 : p ≤ 5) (e : d.map valU = K.map (putU p g h)) (hK : K.Perm (kpL l p g h)) (hp : d'.Perm d) (hs : d'.Pairwise fun x y => ¬ cfK (y.a, y.t) (x.a, x.t) < 0) : d'.map valU = (kpL l p g h).map (putU p g h) := by
  have hk : (d'.map keyU).Perm (kpL l p g h) := ((hp.map keyU).trans (List.Perm.of_eq (key_val e))).trans hK
  have hm : ∀ x, x ∈ d'.map keyU → x.2.length = p.toNat := fun x hx => by
    have := (kpL_mem.1 (hk.mem_iff.1 hx)).2.1
    have ho := ords_mem (m := p.toNat) (by omega) (by omega) (ys := x.2)
    have := (ho.1 this).len
    omega
  have hn : (d'.map keyU).Nodup := hk.nodup_iff.2 ((kpL_asc l p g h).imp fun h => h.ne)
  have hs' : (d'.map keyU).Pairwise fun x y => ¬ cfK y x < 0 := by rw [List.pairwise_map]; exact hs
  rw [val_of e hp, turns_ext (asc_of_sorted hm hn hs') (kpL_asc l p g h) hk]
theorem kp_len {l : List Int} {p : Int} {g h : List Int} (p1 : 1 ≤ p) (p5 : p ≤ 5) : ∀ x, x ∈ kpL l p g h → Od x.2 p := fun x hx => by
  have := (kpL_mem.1 hx).2.1
  have ho := (ords_mem (m := p.toNat) (by omega) (by omega) (ys := x.2)).1 this
  rwa [Int.toNat_of_nonneg (by omega)] at ho
theorem fewU_of {d : List Tu} {K : List (Int × List Int)} {p : Int} {g h : List Int} (e : d.map valU = K.map (putU p g h)) (hl : K.length ≤ 1000) (hK : ∀ x, x ∈ K → (sayT g h x).length ≤ 50 ∧ x.2.length ≤ 5) : FewU d := by
  have hd : d.length = K.length := by simpa using congrArg List.length e
  refine ⟨by omega, fun k hk => ?_⟩
  have h1 : (d.map valU)[k]? = (K.map (putU p g h))[k]? := by rw [e]
  rw [List.getElem?_map, List.getElem?_map, List.getElem?_eq_getElem hk, List.getElem?_eq_getElem (by omega)] at h1
  have h2 : valU d[k] = putU p g h K[k] := by simpa using h1
  have h3 := hK K[k] (List.getElem_mem _)
  rw [getElem!_pos d k hk]
  have e1 : d[k].es = sayT g h K[k] := congrArg (fun z : Int × List Int × Int × List Int => z.2.1) h2
  have e2 : d[k].t = K[k].2 := congrArg (fun z : Int × List Int × Int × List Int => z.2.2.2) h2
  rw [e1, e2]
  omega

/-- What spec's walks know while talks are gathered: two boxes, the orders, the talks so far. -/
structure Th (w0 : World) (N : Nat) (GC HC : List Value) (rb rc lo hi : Nat) (us : List Value) (R : List (List Int)) (v : Value) (d : List Tu) (w' : World) : Prop where
  be : Below w0.heap.size w0 w'
  lN : w0.heap.size ≤ N
  b4 : Box w' N GC
  b5 : Box w' (N + 1) HC
  rows : OwnSS w' lo hi (.slice (some ⟨rb, 0, none⟩) R.length rc) us R
  hih : hi ≤ w'.heap.size
  out : OwnU w' w0.heap.size w'.heap.size v d
  apv : ∀ k, v.ownBlock = some k → k ≠ N ∧ k ≠ N + 1 ∧ (k < lo ∨ hi ≤ k)
section
variable {w0 w' w'' w4 : World} {N rb rc lo hi : Nat} {GC HC : List Value} {us : List Value} {R : List (List Int)} {v v' : Value} {d : List Tu} {x : Tu}
theorem Th.on (h : Th w0 N GC HC rb rc lo hi us R v d w') (hb : Below w'.heap.size w' w'') : Th w0 N GC HC rb rc lo hi us R v d w'' :=
  ⟨Below.on h.be hb, h.lN, h.b4.on hb, h.b5.on hb, h.rows.on hb, Nat.le_trans h.hih hb.size, (h.out.on hb).wider hb.size, h.apv⟩
theorem Th.row (h : Th w0 N GC HC rb rc lo hi us R v d w') (hR : ∀ x, x ∈ R → x.length ≤ maxLen) {k : Nat} (hk : k < R.length) : w'.cell? ⟨rb, k, none⟩ = some (val us k) ∧ Ints w' (val us k) (Go.Proofs.Ytlcegpmhlnilfaa.row R k) ∧ capB (val us k) := by
  have hl := h.rows.len
  obtain ⟨a7, c7, e7, h7⟩ := outer_cell h.rows.outer
  rw [hl] at e7
  cases e7
  obtain ⟨gb', e6, _, h1⟩ := h7 k (by omega)
  cases e6
  exact ⟨h1, Ints.of_own (h.rows.rows k (by omega)) (hR _ (row_mem hk)), (h.rows.rows k (by omega)).capped⟩
/-- A talk more, its lists new since w'. -/
theorem Th.app (h : Th w0 N GC HC rb rc lo hi us R v d w') (hb : Below w'.heap.size w' w'') (hu : Own w'' w'.heap.size x.u x.es) (hv : Own w'' w'.heap.size x.v x.t) (huv : ∀ k, x.u.ownBlock = some k → x.v.ownBlock = some k → False)
    (ho : OutU w4 w0.heap.size v' (d ++ [x])) (hg : w''.grownBy w4 v.ownBlock) (hk : v'.ownBlock = v.ownBlock ∨ ∃ k, v'.ownBlock = some k ∧ w''.heap.size ≤ k) : Th w0 N GC HC rb rc lo hi us R v' (d ++ [x]) w4 := by
  have k := h.on hb
  have hs := hg.size
  have hbx : ∀ {M : Nat} {cs : List Value}, Box w'' M cs → (∀ b, v.ownBlock = some b → b ≠ M) → Box w4 M cs := fun {M cs} hbx hne => by
    have hl := hbx.lt
    obtain ⟨T, hT⟩ := hbx
    exact ⟨T, by rw [hg.block M hl fun e => hne M e.symm rfl]; exact hT⟩
  refine ⟨k.be.grown hg k.be.size (fun b hb' => (k.out.outer.lt b hb').1), k.lN, hbx k.b4 fun b hb' => (k.apv b hb').1, hbx k.b5 fun b hb' => (k.apv b hb').2.1,
    k.rows.heap fun b h1 h2 => hg.block b (by have := k.hih; omega) fun e => by have := (k.apv b e.symm).2.2; omega, Nat.le_trans k.hih hs, ?_, fun b hb' => ?_⟩
  · exact OwnU.appNew h.out hb h.be.size hs hu hv huv ho hg hk
  · rcases hk with e | ⟨c, e, hc⟩
    · exact k.apv b (by rw [← e]; exact hb')
    · rw [e] at hb'; cases hb'
      have := k.b5.lt; have := k.hih
      exact ⟨by omega, by omega, .inr (by omega)⟩
end
end Go.Proofs.Ytlcegpmhlnilfaa

/- spec.TurnsHeard: what it answers to those who know no such order. -/
namespace Go.Proofs.Ytlcegpmhlnilfaa
open Go.RowKit

set_option maxRecDepth 20000 in
set_option maxHeartbeats 1600000 in
theorem shr_no (p q : Int) (gv hv kv lv : Value) (g h known l : List Int) (w : World) (hg : Ints w gv g) (hh : Ints w hv h) (hk : Ints w kv known) (hl : Ints w lv l) (hp : intIn p) (hq : intIn q) (hs : ∀ j, j < g.length → intIn (nth g j)) (hs' : ∀ j, j < h.length → intIn (nth h j)) (hb : hrB p g q h known l = false) :
    Calls Try.prog 17 #[.agg #[.int .i64 p, gv], .agg #[.int .i64 q, hv], kv, lv] w (UPost (hrV p g q h known l) w) := by
  have HB3 := boxes3w (w := w) [.int .i64 p, gv] [.int .i64 q, hv] [] 30 30 60
  obtain ⟨W, hWe, hWs, hW, b0, b1, b2⟩ := HB3.out
  have OU : Hid (OwnU W w.heap.size W.heap.size (.slice (some ⟨w.heap.size + 1 + 1, 0, none⟩) 0 0) []) := Lib.hid (by
    have h9 := OwnU.made ((w.alloc (.cells #[.int .i64 p, gv] 30)).alloc (.cells #[.int .i64 q, hv] 30))
    rw [hWs, hWe]
    have h8 := h9.lower (lo' := w.heap.size) (by simp; omega)
    simpa using h8)
  have B0 : Hid (Below W.heap.size W (((w.alloc (.cells #[.int .i64 p, gv] 30)).alloc (.cells #[.int .i64 q, hv] 30)).alloc (.cells #[] 60))) := Lib.hid (by rw [hWe]; exact Below.refl _ _)
  have HW := Lib.hid hW
  have HWS := Lib.hid hWs
  have BG := Lib.hid b0
  have BH := Lib.hid b1
  have HG := Lib.hid (show ∀ w', Below W.heap.size W w' → Ints w' gv g from fun w' hb => (hg.below hW).below hb)
  have HH := Lib.hid (show ∀ w', Below W.heap.size W w' → Ints w' hv h from fun w' hb => (hh.below hW).below hb)
  have HK := Lib.hid (show ∀ w', Below W.heap.size W w' → Ints w' kv known from fun w' hb => (hk.below hW).below hb)
  have HL := Lib.hid (show ∀ w', Below W.heap.size W w' → Ints w' lv l from fun w' hb => (hl.below hW).below hb)
  have HSG := Lib.hid hs
  have HSH := Lib.hid hs'
  have HP := Lib.hid hp
  have HQ := Lib.hid hq
  have FIN : Hid (∀ w', Below W.heap.size W w' → Below w.heap.size w w') := Lib.hid fun w' hb => hW.trans (hb.mono hW.size)
  have a0 := (b0.on B0.out).cell 0
  have a1 := (b0.on B0.out).cell 1
  have r0 := (b1.on B0.out).cell 0
  have r1 := (b1.on B0.out).cell 1
  simp at a0 a1 r0 r1
  clear HB3 hWe hWs hW b0 b1 b2 hg hh hk hl hs hs' hp hq
  have HB := Lib.hid hb
  cases h1 : ofT p g q h known known 0
  · have HOF := Lib.hid h1
    clear h1 hb
    go_enter Try.func17, Try.ntmps17
    go_wp2_with fail
    refine (stof_any p q 0 gv hv kv kv g h known known _ (HG.out _ B0.out) (HH.out _ B0.out) (HK.out _ B0.out) (HK.out _ B0.out) HP.out HQ.out HSG.out HSH.out).mono ?_
    intro e w1 hx
    unfold OfPost at hx
    rw [HOF.out] at hx
    obtain ⟨v, u, rfl, o1, o2, _, hb⟩ := hx
    obtain ⟨A1, C1, rfl⟩ := Own.form o1
    obtain ⟨A2, C2, rfl⟩ := Own.form o2
    clear o1 o2
    have B2 : Hid (Below W.heap.size W (w1.alloc (.cells #[.int .i64 0, .slice A1 ([] : List Int).length C1, .int .i64 0, .slice A2 ([] : List Int).length C2] 60))) := Lib.hid (Below.on B0.out (Below.on hb (below_grow w1 _)))
    clear hb a0 a1 r0 r1
    go_wp2
    go_ret
    exact ⟨_, [], rfl, (OU.out.on B2.out).wider B2.out.size, by unfold hrV; rw [HB.out]; rfl, FIN.out _ B2.out⟩
  · have HOF := Lib.hid h1
    have hf : fouB l = false := by
      cases h2 : fouB l
      · rfl
      · unfold hrB at hb; rw [h1, h2] at hb; simp at hb
    have HF := Lib.hid hf
    clear h1 hb hf
    go_enter Try.func17, Try.ntmps17
    go_wp2_with fail
    refine (stof_any p q 0 gv hv kv kv g h known known _ (HG.out _ B0.out) (HH.out _ B0.out) (HK.out _ B0.out) (HK.out _ B0.out) HP.out HQ.out HSG.out HSH.out).mono ?_
    intro e w1 hx
    unfold OfPost at hx
    rw [HOF.out] at hx
    obtain ⟨v, u, rfl, o1, o2, _, hb⟩ := hx
    obtain ⟨A1, C1, rfl⟩ := Own.form o1
    obtain ⟨A2, C2, rfl⟩ := Own.form o2
    clear o1 o2
    have B1 : Hid (Below W.heap.size W (w1.alloc (.cells #[.int .i64 p, .slice A1 (mov known g).length C1, .int .i64 0, .slice A2 (toldT known known 0).length C2] 60))) := Lib.hid (Below.on B0.out (Below.on hb (below_grow w1 _)))
    clear hb a0 a1 r0 r1
    go_wp2_with fail
    refine (sgar_any lv l _ (HL.out _ B1.out)).mono ?_
    rintro e w2 ⟨rfl, hb⟩
    rw [HF.out]
    have B2 : Hid (Below W.heap.size W w2) := Lib.hid (Below.on B1.out hb)
    clear hb
    go_wp2
    go_ret
    exact ⟨_, [], rfl, (OU.out.on B2.out).wider B2.out.size, by unfold hrV; rw [HB.out]; rfl, FIN.out _ B2.out⟩
end Go.Proofs.Ytlcegpmhlnilfaa

/- spec.TurnsHeard: each further order, the talk that tells it; sorted. -/
namespace Go.Proofs.Ytlcegpmhlnilfaa
open Go.RowKit

theorem ords_120 : ∀ m, m ≤ 5 → (ords m).length ≤ 120 := by decide +kernel
theorem ords_some {m : Nat} {o : List Int} (h : Od o m) : 0 < (ords m).length := by
  have h1 := h.m1
  have h5 := h.m5
  exact List.length_pos_of_mem ((ords_mem (m := m) (by omega) (by omega)).2 h)
theorem take_row {β : Type} (F : List Int → β) {R : List (List Int)} {k : Nat} (hk : k < R.length) : (R.take (k + 1)).map F = (R.take k).map F ++ [F (row R k)] := by
  rw [List.take_add_one, List.getElem?_eq_getElem hk, row_get hk, List.map_append]
  rfl
theorem gk_numb {p : Int} {es : List Int} (h : Gk p es) : ∀ j, j < es.length → intIn (nth es j) := fun j hj => by
  have h1 := h.ed j hj
  have := h1.pos
  have := h1.lt h.p5
  exact ⟨by omega, by omega⟩
theorem map_step {d : List Tu} {x : Tu} {F : List Int → Int × List Int × Int × List Int} {R : List (List Int)} {k : Nat} (hd : d.map valU = (R.take k).map F) (hk : k < R.length) (hx : valU x = F (row R k)) : (d ++ [x]).map valU = (R.take (k + 1)).map F := by
  rw [List.map_append, hd, take_row F hk, ← hx]
  rfl
/-- The talks in a list, of which the kept ones are known. -/
theorem lot_few {d : List Tu} {K : List (Int × List Int)} {l : List Int} {p : Int} {g h : List Int} (hg : Gk p g) (hh : Gk p h) (e : d.map valU = K.map (putU p g h)) (hK : ∀ x, x ∈ K → x ∈ kpL l p g h) (hl : K.length ≤ 1000) : FewU d ∧ ∀ x, x ∈ d → x.t.length = p.toNat := by
  have ho : ∀ x, x ∈ K → Od x.2 p := fun x hx => kp_len hg.p1 hg.p5 x (hK x hx)
  have hm : ∀ o a, Od o p → (mov o (frm a g h)).length ≤ 50 := fun o a h1 => by
    rw [mov_len h1 (frm_gk hg hh)]
    have := (frm_gk (ask := a) hg hh).few; omega
  refine ⟨fewU_of e hl fun x hx => ⟨hm _ _ (ho x hx), by have := (ho x hx).len; have := hg.p5; omega⟩, fun x hx => ?_⟩
  have hv : valU x ∈ d.map valU := List.mem_map.2 ⟨x, hx, rfl⟩
  rw [e] at hv
  obtain ⟨y, hy, ey⟩ := List.mem_map.1 hv
  have e2 : y.2 = x.t := congrArg (fun z : Int × List Int × Int × List Int => z.2.2.2) ey
  rw [← e2]
  have := (ho y hy).len
  omega

set_option maxRecDepth 20000 in
set_option maxHeartbeats 6400000 in
theorem shr_yes (m : Nat) (gv hv kv lv : Value) (g h known l : List Int) (w : World) (hg : Ints w gv g) (hh : Ints w hv h) (hk : Ints w kv known) (hl : Ints w lv l) (hp : intIn (m : Int)) (hs : ∀ j, j < g.length → intIn (nth g j)) (hs' : ∀ j, j < h.length → intIn (nth h j)) (hb : hrB m g m h known l = true) :
    Calls Try.prog 17 #[.agg #[.int .i64 m, gv], .agg #[.int .i64 m, hv], kv, lv] w (UPost (hrV m g m h known l) w) := by
  have HGW := Lib.hid (show ∀ w', Below w.heap.size w w' → Ints w' gv g from fun w' hb => hg.below hb)
  have HHW := Lib.hid (show ∀ w', Below w.heap.size w w' → Ints w' hv h from fun w' hb => hh.below hb)
  have HKW := Lib.hid (show ∀ w', Below w.heap.size w w' → Ints w' kv known from fun w' hb => hk.below hb)
  have HLW := Lib.hid (show ∀ w', Below w.heap.size w w' → Ints w' lv l from fun w' hb => hl.below hb)
  have HB3 := boxes3w (w := w) [.int .i64 m, gv] [.int .i64 m, hv] [] 30 30 60
  obtain ⟨W, hWe, hWs, hW, b0, b1, b2⟩ := HB3.out
  have OU : Hid (OwnU W w.heap.size W.heap.size (.slice (some ⟨w.heap.size + 1 + 1, 0, none⟩) 0 0) []) := Lib.hid (by
    have h9 := OwnU.made ((w.alloc (.cells #[.int .i64 m, gv] 30)).alloc (.cells #[.int .i64 m, hv] 30))
    rw [hWs, hWe]
    have h8 := h9.lower (lo' := w.heap.size) (by simp; omega)
    simpa using h8)
  have B0 : Hid (Below W.heap.size W (((w.alloc (.cells #[.int .i64 m, gv] 30)).alloc (.cells #[.int .i64 m, hv] 30)).alloc (.cells #[] 60))) := Lib.hid (by rw [hWe]; exact Below.refl _ _)
  have HW := Lib.hid hW
  have HWS := Lib.hid hWs
  have BG := Lib.hid b0
  have BH := Lib.hid b1
  have HG := Lib.hid (show ∀ w', Below W.heap.size W w' → Ints w' gv g from fun w' hb => (hg.below hW).below hb)
  have HH := Lib.hid (show ∀ w', Below W.heap.size W w' → Ints w' hv h from fun w' hb => (hh.below hW).below hb)
  have HK := Lib.hid (show ∀ w', Below W.heap.size W w' → Ints w' kv known from fun w' hb => (hk.below hW).below hb)
  have HL := Lib.hid (show ∀ w', Below W.heap.size W w' → Ints w' lv l from fun w' hb => (hl.below hW).below hb)
  have HSG := Lib.hid hs
  have HSH := Lib.hid hs'
  have HP := Lib.hid hp
  skip
  have FIN : Hid (∀ w', Below W.heap.size W w' → Below w.heap.size w w') := Lib.hid fun w' hb => hW.trans (hb.mono hW.size)
  have a0 := (b0.on B0.out).cell 0
  have a1 := (b0.on B0.out).cell 1
  have r0 := (b1.on B0.out).cell 0
  have r1 := (b1.on B0.out).cell 1
  simp at a0 a1 r0 r1
  clear HB3 hWe hWs hW b0 b1 b2 hg hh hk hl hs hs' hp
  have hb2 : ofT m g m h known known 0 = true ∧ fouB l = true := by
    unfold hrB at hb
    simpa using hb
  have HB := Lib.hid hb
  have HOF := Lib.hid hb2.1
  have HF := Lib.hid hb2.2
  have HOT := Lib.hid (ofT_true.1 hb2.1)
  have HM5 : Hid (1 ≤ m ∧ m ≤ 5) := Lib.hid (by have := HOT.out.gg.p1; have := HOT.out.gg.p5; omega)
  obtain ⟨L, hL⟩ : ∃ L, ords m = L := ⟨_, rfl⟩
  have HO : Hid (∀ w, Calls Try.prog 43 #[.int .i64 m] w fun e w' => ∃ v us, e = .returned v ∧ OwnSS w' w.heap.size w'.heap.size v us L ∧ Full us ∧ Below w.heap.size w w') := Lib.hid (by rw [← hL]; exact fun w => sords_any m w HM5.out.2)
  have HLL : Hid (∀ k, k < L.length → Od (row L k) m) := Lib.hid fun k hk => by
    rw [← hL] at hk ⊢
    exact (ords_mem HM5.out.1 HM5.out.2).1 (row_mem hk)
  have HL3 : Hid (L.length ≤ 120) := Lib.hid (by rw [← hL]; exact ords_120 m HM5.out.2)
  have HL0 : Hid (0 < L.length) := Lib.hid (by rw [← hL]; exact ords_some HOT.out.ok)
  have HLM : Hid (∀ x, x ∈ L → x.length ≤ maxLen) := Lib.hid fun x hx => by
    obtain ⟨j, hj, rfl⟩ := row_of hx
    have := (HLL.out j hj).len
    have := HM5.out.2
    unfold maxLen; omega
  have HV : Hid (hrV m g m h known l = (kpL l m g h).map (putU m g h)) := Lib.hid (by unfold hrV; rw [HB.out]; rfl)
  have HE : Hid (hrL l m g known = L.map (hrEl l m g known)) := Lib.hid (by rw [← hL]; rfl)
  obtain ⟨n, hn⟩ : ∃ n, L.length = n := ⟨_, rfl⟩
  have HN := Lib.hid hn
  rw [hn] at HLL HL3 HL0
  clear hL hn hb hb2
  go_enter Try.func17, Try.ntmps17
  go_wp2_with fail
  refine (stof_any m m 0 gv hv kv kv g h known known _ (HG.out _ B0.out) (HH.out _ B0.out) (HK.out _ B0.out) (HK.out _ B0.out) HP.out HP.out HSG.out HSH.out).mono ?_
  intro e w1 hx
  unfold OfPost at hx
  rw [HOF.out] at hx
  obtain ⟨v, u, rfl, o1, o2, _, hb⟩ := hx
  obtain ⟨A1, C1, rfl⟩ := Own.form o1
  obtain ⟨A2, C2, rfl⟩ := Own.form o2
  clear o1 o2
  have B1 : Hid (Below W.heap.size W (w1.alloc (.cells #[.int .i64 m, .slice A1 (mov known g).length C1, .int .i64 0, .slice A2 (toldT known known 0).length C2] 60))) := Lib.hid (Below.on B0.out (Below.on hb (below_grow w1 _)))
  clear hb a0 a1 r0 r1
  go_wp2_with fail
  refine (sgar_any lv l _ (HL.out _ B1.out)).mono ?_
  rintro e w2 ⟨rfl, hb⟩
  rw [HF.out]
  have B2 : Hid (Below W.heap.size W w2) := Lib.hid (Below.on B1.out hb)
  clear hb
  have a0 := (BG.out.on B2.out).cell 0
  simp at a0
  go_wp2_with fail
  refine (HO.out w2).mono ?_
  rintro e w3 ⟨ov, us, rfl, ho, hful, hb⟩
  obtain ⟨a, c, ea, hcell⟩ := outer_cell ho.outer
  obtain ⟨rb, hra, _, _⟩ := hcell 0 (by rw [ho.len, HN.out]; exact HL0.out)
  subst hra
  have hlv := ea
  rw [ho.len] at hlv
  have hT0 : Hid (Th w w.heap.size [.int .i64 m, gv] [.int .i64 m, hv] rb c w2.heap.size w3.heap.size us L (.slice (some ⟨w.heap.size + 1 + 1, 0, none⟩) 0 0) [] w3) := Lib.hid
    ⟨FIN.out _ (Below.on B2.out hb), Nat.le_refl _, BG.out.on (Below.on B2.out hb), BH.out.on (Below.on B2.out hb), by rw [← hlv]; exact ho, Nat.le_refl _, (OU.out.on (Below.on B2.out hb)).wider (Below.on B2.out hb).size,
      fun k hk => by
        have h1 := B2.out.size
        have h2 := HWS.out
        simp [Value.ownBlock] at hk
        omega⟩
  rw [HN.out] at hlv
  subst hlv
  have HB3 : Hid (Below W.heap.size W w3) := Lib.hid (Below.on B2.out hb)
  have SI0 : Hid (∃ d, Th w w.heap.size [.int .i64 m, gv] [.int .i64 m, hv] rb c w2.heap.size w3.heap.size us L (.slice (some ⟨w.heap.size + 1 + 1, 0, none⟩) 0 0) d w3 ∧ d.map valU = (L.take 0).map (fun f => putU m g h (hrEl l m g known f))) := Lib.hid ⟨[], hT0.out, rfl⟩
  clear ho hful hb ea hcell hT0 a0
  go_wp2
  go_loopw [9, 13] (fun v i wr => ∃ k : Nat, k ≤ n ∧ i = .int .i64 k ∧ Hid (∃ d, Th w w.heap.size [.int .i64 m, gv] [.int .i64 m, hv] rb c w2.heap.size w3.heap.size us L v d wr ∧ d.map valU = (L.take k).map (fun f => putU m g h (hrEl l m g known f)))) (fun _ i _ => n - (intOf i).toNat)
  case atStart => exact ⟨0, by omega, rfl, SI0⟩
  case round =>
    obtain ⟨k, hk, rfl, hS⟩ := hrel
    obtain ⟨wo, rfl⟩ : ∃ wo : World, wo = wr := ⟨_, rfl⟩
    obtain ⟨d, ht, hd⟩ := hS.out
    clear SI0
    have h120 := HL3.out
    have HT1 := Lib.hid ht
    have HD1 := Lib.hid hd
    clear ht hd hS
    by_cases hlt : k < n
    · have hlt1 : (k : Int) < (n : Int) := by omega
      have hkL : k < L.length := by rw [HN.out]; exact hlt
      have HROW : Hid (∀ w', Below wo.heap.size wo w' → w'.cell? ⟨rb, k, none⟩ = some (val us k) ∧ Ints w' (val us k) (row L k) ∧ capB (val us k)) := Lib.hid fun w' hb => (HT1.out.on hb).row HLM.out hkL
      have HWO : Hid (Below w.heap.size w wo) := Lib.hid HT1.out.be
      have hod := HLL.out k hlt
      have hok := hr_ok HOT.out HF.out hod
      obtain ⟨AK, hAK⟩ : ∃ r, askT l m g (row L k) = r := ⟨_, rfl⟩
      obtain ⟨XS, hXS⟩ : ∃ r, mov (row L k) g = r := ⟨_, rfl⟩
      obtain ⟨YS, hYS⟩ : ∃ r, toldT known (row L k) AK = r := ⟨_, rfl⟩
      rw [hAK, hYS, hXS] at hok
      have HPU : Hid (putU m g h (hrEl l m g known (row L k)) = ((m : Int), XS, AK, YS)) := Lib.hid (by
        show (_, sayT g h (hrEl l m g known (row L k)), _, _) = _
        unfold hrEl sayT
        simp only
        rw [hAK, hYS, hok.2])
      have HXM : Hid (XS.length ≤ maxLen) := Lib.hid (by
        rw [← hXS, mov_len hod HOT.out.gg]
        have := HOT.out.gg.few; unfold maxLen; omega)
      have HMV : Hid (∀ w', Below wo.heap.size wo w' → Calls Try.prog 44 #[.agg #[.int .i64 m, gv], val us k] w' fun e w'' => ∃ v, e = .returned (.agg #[.int .i64 m, v]) ∧ Own w'' w'.heap.size v XS ∧ Below w'.heap.size w' w'') := Lib.hid fun w' hb => by
        rw [← hXS]
        exact smov_any m gv _ g (row L k) w' (HGW.out _ (Below.on HWO.out hb)) (HROW.out w' hb).2.1 HOT.out.gg hod
      have HAS : Hid (∀ w' v, Below wo.heap.size wo w' → Ints w' v XS → Calls Try.prog 13 #[lv, .agg #[.int .i64 m, v]] w' fun e w'' => e = .returned (.int .i64 AK) ∧ Below w'.heap.size w' w'') := Lib.hid fun w' v hb hi => by
        rw [← hAK]
        unfold askT
        rw [hXS]
        refine sgas_any lv v l XS m w' (HLW.out _ (Below.on HWO.out hb)) hi HP.out fun j hj => ?_
        rw [← hXS] at hj ⊢
        exact gk_numb (mov_gk hod HOT.out.gg) j hj
      have HTU : Hid (∀ w', Below wo.heap.size wo w' → Calls Try.prog 42 #[.agg #[.int .i64 m, gv], .agg #[.int .i64 m, hv], kv, val us k, .int .i64 AK] w' (TrnPost w' m XS AK YS true)) := Lib.hid fun w' hb => by
        refine (stof_any m m AK gv hv kv _ g h known (row L k) w' (HGW.out _ (Below.on HWO.out hb)) (HHW.out _ (Below.on HWO.out hb)) (HKW.out _ (Below.on HWO.out hb)) (HROW.out w' hb).2.1 HP.out HP.out HSG.out HSH.out).mono fun e w'' hx => ?_
        unfold OfPost at hx
        rw [ofT_true.2 hok.1, hXS, hYS] at hx
        exact hx
      clear hod hok hAK hXS hYS
      go_wp2_with fail
      apply wp_region_H (Z := List Cp × Option (Nat × List Value)) (S := fun k => k == 13 || k == 14 || k == 15 || k == 19 || k == 20) (C := fun z w' => Hid (Zx wo z.1 z.2 w')) [0, 1, 2, 3, 4, 5, 6, 7, 8, 9, 10, 11, 12] ([], none)
      · kernel_rfl
      · kernel_rfl
      · kernel_rfl
      · exact ⟨rfl, rfl, rfl, rfl, rfl, rfl, rfl, rfl, rfl, rfl, rfl, rfl, rfl, trivial⟩
      · rfl
      · decide
      · exact Lib.hid (Zx.start (Below.refl _ _).drew)
      · intro z
        dsimp only [pickL, nthO]
        go_big_quiet_want
        go_big_quiet_op
        refine ⟨.agg #[.int .i64 m, gv], fun w' hw' => ?_, ?_⟩
        · have q9 := (HT1.out.on hw'.out.be).b4
          have q0 := q9.cell 0
          have q1 := q9.cell 1
          simp at q0 q1
          simp [go_sem, q0, q1]
        go_big_quiet_on
        go_big_quiet_want
        go_big_quiet_op
        refine ⟨.agg #[.int .i64 m, hv], fun w' hw' => ?_, ?_⟩
        · have q9 := (HT1.out.on hw'.out.be).b5
          have q0 := q9.cell 0
          have q1 := q9.cell 1
          simp at q0 q1
          simp [go_sem, q0, q1]
        go_big_quiet_on
        go_big_quiet_want; go_big_quiet_op; first | go_big_quiet_on | (refine ⟨_, fun _ _ => rfl, ?_⟩; go_big_quiet_on)
        go_big_quiet_want; go_big_quiet_op; first | go_big_quiet_on | (refine ⟨_, fun _ _ => rfl, ?_⟩; go_big_quiet_on)
        go_big_quiet_want; go_big_quiet_op; first | go_big_quiet_on | (refine ⟨_, fun _ _ => rfl, ?_⟩; go_big_quiet_on)
        go_big_quiet_want; go_big_quiet_op; first | go_big_quiet_on | (refine ⟨_, fun _ _ => rfl, ?_⟩; go_big_quiet_on)
        go_big_quiet_want
        go_big_quiet_op
        refine ⟨val us k, fun w' hw' => ?_, ?_⟩
        · have q0 := (HROW.out w' hw'.out.be).1
          simp [go_sem, q0]
        go_big_quiet_on
        go_big_quiet_want; go_big_quiet_op; first | go_big_quiet_on | (refine ⟨_, fun _ _ => rfl, ?_⟩; go_big_quiet_on)
        go_big_quiet_want
        go_big_quiet_op
        refine ⟨.agg #[.int .i64 m, gv], fun w' hw' => ?_, ?_⟩
        · have q9 := (HT1.out.on hw'.out.be).b4
          have q0 := q9.cell 0
          have q1 := q9.cell 1
          simp at q0 q1
          simp [go_sem, q0, q1]
        go_big_quiet_on
        go_big_quiet_want; go_big_quiet_op; first | go_big_quiet_on | (refine ⟨_, fun _ _ => rfl, ?_⟩; go_big_quiet_on)
        go_big_quiet_want; go_big_quiet_op; first | go_big_quiet_on | (refine ⟨_, fun _ _ => rfl, ?_⟩; go_big_quiet_on)
        go_big_quiet_want; go_big_quiet_op; first | go_big_quiet_on | (refine ⟨_, fun _ _ => rfl, ?_⟩; go_big_quiet_on)
        go_big_quiet_want
        go_big_quiet_op
        refine ⟨val us k, fun w' hw' => ?_, ?_⟩
        · have q0 := (HROW.out w' hw'.out.be).1
          simp [go_sem, q0]
        go_big_quiet_on
        exact wpQuiet_nil rfl
      · refine wpAnyH_key (D := {x : Value × Option Addr × Nat × Option Addr × Nat × Nat × Nat × Nat // wo.heap.size ≤ x.2.2.2.2.2.1}) (fun d => ([.p d.1.2.2.2.2.2.1 d.1.2.2.2.2.2.2.1 (.slice d.1.2.1 XS.length d.1.2.2.1) (.slice d.1.2.2.2.1 YS.length d.1.2.2.2.2.1) XS YS], some (d.1.2.2.2.2.2.2.2, [.int .i64 m, .slice d.1.2.1 XS.length d.1.2.2.1, .int .i64 AK, .slice d.1.2.2.2.1 YS.length d.1.2.2.2.2.1]))) (fun d a => ((((((((a.put (some 56) (.agg #[.int .i64 m, d.1.1])).put (some 57) (.int .i64 AK)).put (some 58) (.tuple #[.agg #[.int .i64 m, .slice d.1.2.1 XS.length d.1.2.2.1, .int .i64 AK, .slice d.1.2.2.2.1 YS.length d.1.2.2.2.2.1], .bool true])).put (some 42) (.tuple #[.agg #[.int .i64 m, .slice d.1.2.1 XS.length d.1.2.2.1, .int .i64 AK, .slice d.1.2.2.2.1 YS.length d.1.2.2.2.2.1], .bool true])).put (some 59) (.agg #[.int .i64 m, .slice d.1.2.1 XS.length d.1.2.2.1, .int .i64 AK, .slice d.1.2.2.2.1 YS.length d.1.2.2.2.2.1])).put (some 60) (.bool true)).put (some 14) (.pointer (some ⟨d.1.2.2.2.2.2.2.2, 0, none⟩))).put (some 15) (.bool true))) ?_ ?_
        · skip
          refine wpAnyH_two 13 19 (by kernel_rfl) ?_ ?_
          · skip
            refine hOp_call 44 #[.agg #[.int .i64 m, gv], val us k] (d := some 56) rfl rfl rfl (by kernel_rfl) (fun _ => by kernel_rfl) fun wa hc => ?_
            refine (HMV.out wa hc.out.be).mono ?_
            rintro e wb ⟨mv, rfl, oo, hb⟩
            refine ⟨_, rfl, ([.l wa.heap.size wb.heap.size mv XS], none), Lib.hid (hc.out.add hb (Hl.mk1 oo) (Nat.le_refl _)), ?_⟩
            clear hc oo hb
            refine wpAnyH_two 14 19 (by kernel_rfl) ?_ ?_
            · skip
              refine hOp_call 13 #[lv, .agg #[.int .i64 m, mv]] (d := some 57) rfl rfl rfl (by kernel_rfl) (fun _ => by kernel_rfl) fun wc hc => ?_
              refine (HAS.out wc mv hc.out.be (Ints.of_own (hc.out.ls _ (.head _)).1 HXM.out)).mono ?_
              rintro e wd ⟨rfl, hb⟩
              refine ⟨_, rfl, ([.l wa.heap.size wb.heap.size mv XS], none), Lib.hid (hc.out.on hb), ?_⟩
              clear hc hb
              refine wpAnyH_two 15 19 (by kernel_rfl) ?_ ?_
              · skip
                refine hOp_call 42 #[.agg #[.int .i64 m, gv], .agg #[.int .i64 m, hv], kv, val us k, .int .i64 AK] (d := some 58) rfl rfl rfl (by kernel_rfl) (fun _ => by kernel_rfl) fun we hc => ?_
                have hlo : wo.heap.size ≤ we.heap.size := hc.out.be.size
                refine (HTU.out we hc.out.be).mono ?_
                rintro e wf ⟨v9, u9, rfl, oo, o2, oa, hb⟩
                obtain ⟨An, Cn, ef⟩ := Own.form oo
                obtain ⟨Bn, Dn, eg⟩ := Own.form o2
                subst ef eg
                refine ⟨_, rfl, ([.p we.heap.size wf.heap.size (.slice An XS.length Cn) (.slice Bn YS.length Dn) XS YS], none), Lib.hid ((hc.out.sub (L' := []) (fun c m => by cases m)).add hb (Hl.mk2 oo o2 oa) (Nat.le_refl _)), ?_⟩
                clear hc oo o2 oa hb
                refine wpAnyH_take (i := 16) (d := some 42) (.tuple #[.agg #[.int .i64 m, .slice An XS.length Cn, .int .i64 AK, .slice Bn YS.length Dn], .bool true]) rfl (by kernel_rfl) rfl rfl (by kernel_rfl) (by kernel_rfl) (by kernel_rfl) (fun _ => by kernel_rfl) ?_
                refine wpAnyH_take (i := 17) (d := some 59) (.agg #[.int .i64 m, .slice An XS.length Cn, .int .i64 AK, .slice Bn YS.length Dn]) rfl (by kernel_rfl) rfl rfl (by kernel_rfl) (by kernel_rfl) (by kernel_rfl) (fun _ => by kernel_rfl) ?_
                refine wpAnyH_take (i := 18) (d := some 60) (.bool true) rfl (by kernel_rfl) rfl rfl (by kernel_rfl) (by kernel_rfl) (by kernel_rfl) (fun _ => by kernel_rfl) ?_
                refine wpAnyH_special (i := 19) (d := some 14) rfl (by kernel_rfl) rfl rfl (by kernel_rfl) fun wN hc => ⟨.pointer (some ⟨wN.heap.size, 0, none⟩), wN.alloc (.cells #[.int .i64 0, .slice none 0 0, .int .i64 0, .slice none 0 0] 60), ([.p we.heap.size wf.heap.size (.slice An XS.length Cn) (.slice Bn YS.length Dn) XS YS], some (wN.heap.size, [.int .i64 0, .slice none 0 0, .int .i64 0, .slice none 0 0])), .inl (by kernel_rfl), Lib.hid (hc.out.made [.int .i64 0, .slice none 0 0, .int .i64 0, .slice none 0 0] _), ?_⟩
                clear hc
                refine wpAnyH_special (i := 20) (d := none) rfl (by kernel_rfl) rfl rfl (by kernel_rfl) fun wg he => ?_
                have kb := (he.out.bx _ _ rfl).2.1
                have k0 := kb.cell 0; have f0 := kb.frozen 0
                have k1 := kb.cell 1; have f1 := kb.frozen 1
                have k2 := kb.cell 2; have f2 := kb.frozen 2
                have k3 := kb.cell 3; have f3 := kb.frozen 3
                simp at k0 k1 k2 k3
                refine ⟨undef, (((wg.setCell ⟨wN.heap.size, 0, none⟩ (.int .i64 m)).setCell ⟨wN.heap.size, 1, none⟩ (.slice An XS.length Cn)).setCell ⟨wN.heap.size, 2, none⟩ (.int .i64 AK)).setCell ⟨wN.heap.size, 3, none⟩ (.slice Bn YS.length Dn), ([.p we.heap.size wf.heap.size (.slice An XS.length Cn) (.slice Bn YS.length Dn) XS YS], some (wN.heap.size, [.int .i64 m, .slice An XS.length Cn, .int .i64 AK, .slice Bn YS.length Dn])), .inr ⟨by simp [go_sem, Act.put, k0, k1, k2, k3, f0, f1, f2, f3], rfl⟩, Lib.hid ((((he.out.put 0 _).put 1 _).put 2 _).put 3 _), ?_⟩
                clear he kb k0 k1 k2 k3 f0 f1 f2 f3
                refine wpAnyH_assign (i := 21) (d := some 15) _ rfl (by kernel_rfl) rfl rfl (by kernel_rfl) rfl ?_
                exact ⟨by kernel_rfl, ⟨(mv, An, Cn, Bn, Dn, we.heap.size, wf.heap.size, wN.heap.size), hlo⟩, rfl, by kernel_rfl⟩
              · skip
                refine hOp_special (d := some 14) rfl rfl rfl (by kernel_rfl) fun wN hc => ⟨.pointer (some ⟨wN.heap.size, 0, none⟩), wN.alloc (.cells #[.int .i64 0, .slice none 0 0, .int .i64 0, .slice none 0 0] 60), ([.l wa.heap.size wb.heap.size mv XS], some (wN.heap.size, [.int .i64 0, .slice none 0 0, .int .i64 0, .slice none 0 0])), by kernel_rfl, Lib.hid (hc.out.made [.int .i64 0, .slice none 0 0, .int .i64 0, .slice none 0 0] _), ?_⟩
                clear hc
                refine wpAnyH_call (i := 15) (d := some 58) 42 #[.agg #[.int .i64 m, gv], .agg #[.int .i64 m, hv], kv, val us k, .int .i64 AK] rfl (by kernel_rfl) rfl rfl (by kernel_rfl) (fun _ => by kernel_rfl) fun we hc => ?_
                have hlo : wo.heap.size ≤ we.heap.size := hc.out.be.size
                refine (HTU.out we hc.out.be).mono ?_
                rintro e wf ⟨v9, u9, rfl, oo, o2, oa, hb⟩
                obtain ⟨An, Cn, ef⟩ := Own.form oo
                obtain ⟨Bn, Dn, eg⟩ := Own.form o2
                subst ef eg
                refine ⟨_, rfl, ([.p we.heap.size wf.heap.size (.slice An XS.length Cn) (.slice Bn YS.length Dn) XS YS], some (wN.heap.size, [.int .i64 0, .slice none 0 0, .int .i64 0, .slice none 0 0])), Lib.hid ((hc.out.sub (L' := []) (fun c m => by cases m)).add hb (Hl.mk2 oo o2 oa) (Nat.le_refl _)), ?_⟩
                clear hc oo o2 oa hb
                refine wpAnyH_take (i := 16) (d := some 42) (.tuple #[.agg #[.int .i64 m, .slice An XS.length Cn, .int .i64 AK, .slice Bn YS.length Dn], .bool true]) rfl (by kernel_rfl) rfl rfl (by kernel_rfl) (by kernel_rfl) (by kernel_rfl) (fun _ => by kernel_rfl) ?_
                refine wpAnyH_take (i := 17) (d := some 59) (.agg #[.int .i64 m, .slice An XS.length Cn, .int .i64 AK, .slice Bn YS.length Dn]) rfl (by kernel_rfl) rfl rfl (by kernel_rfl) (by kernel_rfl) (by kernel_rfl) (fun _ => by kernel_rfl) ?_
                refine wpAnyH_take (i := 18) (d := some 60) (.bool true) rfl (by kernel_rfl) rfl rfl (by kernel_rfl) (by kernel_rfl) (by kernel_rfl) (fun _ => by kernel_rfl) ?_
                refine wpAnyH_special (i := 20) (d := none) rfl (by kernel_rfl) rfl rfl (by kernel_rfl) fun wg he => ?_
                have kb := (he.out.bx _ _ rfl).2.1
                have k0 := kb.cell 0; have f0 := kb.frozen 0
                have k1 := kb.cell 1; have f1 := kb.frozen 1
                have k2 := kb.cell 2; have f2 := kb.frozen 2
                have k3 := kb.cell 3; have f3 := kb.frozen 3
                simp at k0 k1 k2 k3
                refine ⟨undef, (((wg.setCell ⟨wN.heap.size, 0, none⟩ (.int .i64 m)).setCell ⟨wN.heap.size, 1, none⟩ (.slice An XS.length Cn)).setCell ⟨wN.heap.size, 2, none⟩ (.int .i64 AK)).setCell ⟨wN.heap.size, 3, none⟩ (.slice Bn YS.length Dn), ([.p we.heap.size wf.heap.size (.slice An XS.length Cn) (.slice Bn YS.length Dn) XS YS], some (wN.heap.size, [.int .i64 m, .slice An XS.length Cn, .int .i64 AK, .slice Bn YS.length Dn])), .inr ⟨by simp [go_sem, Act.put, k0, k1, k2, k3, f0, f1, f2, f3], rfl⟩, Lib.hid ((((he.out.put 0 _).put 1 _).put 2 _).put 3 _), ?_⟩
                clear he kb k0 k1 k2 k3 f0 f1 f2 f3
                refine wpAnyH_assign (i := 21) (d := some 15) _ rfl (by kernel_rfl) rfl rfl (by kernel_rfl) rfl ?_
                exact ⟨by kernel_rfl, ⟨(mv, An, Cn, Bn, Dn, we.heap.size, wf.heap.size, wN.heap.size), hlo⟩, rfl, by kernel_rfl⟩
            · skip
              refine hOp_special (d := some 14) rfl rfl rfl (by kernel_rfl) fun wN hc => ⟨.pointer (some ⟨wN.heap.size, 0, none⟩), wN.alloc (.cells #[.int .i64 0, .slice none 0 0, .int .i64 0, .slice none 0 0] 60), ([.l wa.heap.size wb.heap.size mv XS], some (wN.heap.size, [.int .i64 0, .slice none 0 0, .int .i64 0, .slice none 0 0])), by kernel_rfl, Lib.hid (hc.out.made [.int .i64 0, .slice none 0 0, .int .i64 0, .slice none 0 0] _), ?_⟩
              clear hc
              refine wpAnyH_call (i := 14) (d := some 57) 13 #[lv, .agg #[.int .i64 m, mv]] rfl (by kernel_rfl) rfl rfl (by kernel_rfl) (fun _ => by kernel_rfl) fun wc hc => ?_
              refine (HAS.out wc mv hc.out.be (Ints.of_own (hc.out.ls _ (.head _)).1 HXM.out)).mono ?_
              rintro e wd ⟨rfl, hb⟩
              refine ⟨_, rfl, ([.l wa.heap.size wb.heap.size mv XS], some (wN.heap.size, [.int .i64 0, .slice none 0 0, .int .i64 0, .slice none 0 0])), Lib.hid (hc.out.on hb), ?_⟩
              clear hc hb
              refine wpAnyH_call (i := 15) (d := some 58) 42 #[.agg #[.int .i64 m, gv], .agg #[.int .i64 m, hv], kv, val us k, .int .i64 AK] rfl (by kernel_rfl) rfl rfl (by kernel_rfl) (fun _ => by kernel_rfl) fun we hc => ?_
              have hlo : wo.heap.size ≤ we.heap.size := hc.out.be.size
              refine (HTU.out we hc.out.be).mono ?_
              rintro e wf ⟨v9, u9, rfl, oo, o2, oa, hb⟩
              obtain ⟨An, Cn, ef⟩ := Own.form oo
              obtain ⟨Bn, Dn, eg⟩ := Own.form o2
              subst ef eg
              refine ⟨_, rfl, ([.p we.heap.size wf.heap.size (.slice An XS.length Cn) (.slice Bn YS.length Dn) XS YS], some (wN.heap.size, [.int .i64 0, .slice none 0 0, .int .i64 0, .slice none 0 0])), Lib.hid ((hc.out.sub (L' := []) (fun c m => by cases m)).add hb (Hl.mk2 oo o2 oa) (Nat.le_refl _)), ?_⟩
              clear hc oo o2 oa hb
              refine wpAnyH_take (i := 16) (d := some 42) (.tuple #[.agg #[.int .i64 m, .slice An XS.length Cn, .int .i64 AK, .slice Bn YS.length Dn], .bool true]) rfl (by kernel_rfl) rfl rfl (by kernel_rfl) (by kernel_rfl) (by kernel_rfl) (fun _ => by kernel_rfl) ?_
              refine wpAnyH_take (i := 17) (d := some 59) (.agg #[.int .i64 m, .slice An XS.length Cn, .int .i64 AK, .slice Bn YS.length Dn]) rfl (by kernel_rfl) rfl rfl (by kernel_rfl) (by kernel_rfl) (by kernel_rfl) (fun _ => by kernel_rfl) ?_
              refine wpAnyH_take (i := 18) (d := some 60) (.bool true) rfl (by kernel_rfl) rfl rfl (by kernel_rfl) (by kernel_rfl) (by kernel_rfl) (fun _ => by kernel_rfl) ?_
              refine wpAnyH_special (i := 20) (d := none) rfl (by kernel_rfl) rfl rfl (by kernel_rfl) fun wg he => ?_
              have kb := (he.out.bx _ _ rfl).2.1
              have k0 := kb.cell 0; have f0 := kb.frozen 0
              have k1 := kb.cell 1; have f1 := kb.frozen 1
              have k2 := kb.cell 2; have f2 := kb.frozen 2
              have k3 := kb.cell 3; have f3 := kb.frozen 3
              simp at k0 k1 k2 k3
              refine ⟨undef, (((wg.setCell ⟨wN.heap.size, 0, none⟩ (.int .i64 m)).setCell ⟨wN.heap.size, 1, none⟩ (.slice An XS.length Cn)).setCell ⟨wN.heap.size, 2, none⟩ (.int .i64 AK)).setCell ⟨wN.heap.size, 3, none⟩ (.slice Bn YS.length Dn), ([.p we.heap.size wf.heap.size (.slice An XS.length Cn) (.slice Bn YS.length Dn) XS YS], some (wN.heap.size, [.int .i64 m, .slice An XS.length Cn, .int .i64 AK, .slice Bn YS.length Dn])), .inr ⟨by simp [go_sem, Act.put, k0, k1, k2, k3, f0, f1, f2, f3], rfl⟩, Lib.hid ((((he.out.put 0 _).put 1 _).put 2 _).put 3 _), ?_⟩
              clear he kb k0 k1 k2 k3 f0 f1 f2 f3
              refine wpAnyH_assign (i := 21) (d := some 15) _ rfl (by kernel_rfl) rfl rfl (by kernel_rfl) rfl ?_
              exact ⟨by kernel_rfl, ⟨(mv, An, Cn, Bn, Dn, we.heap.size, wf.heap.size, wN.heap.size), hlo⟩, rfl, by kernel_rfl⟩
          · skip
            refine hOp_special (d := some 14) rfl rfl rfl (by kernel_rfl) fun wN hc => ⟨.pointer (some ⟨wN.heap.size, 0, none⟩), wN.alloc (.cells #[.int .i64 0, .slice none 0 0, .int .i64 0, .slice none 0 0] 60), ([], some (wN.heap.size, [.int .i64 0, .slice none 0 0, .int .i64 0, .slice none 0 0])), by kernel_rfl, Lib.hid (hc.out.made [.int .i64 0, .slice none 0 0, .int .i64 0, .slice none 0 0] _), ?_⟩
            clear hc
            refine wpAnyH_call (i := 13) (d := some 56) 44 #[.agg #[.int .i64 m, gv], val us k] rfl (by kernel_rfl) rfl rfl (by kernel_rfl) (fun _ => by kernel_rfl) fun wa hc => ?_
            refine (HMV.out wa hc.out.be).mono ?_
            rintro e wb ⟨mv, rfl, oo, hb⟩
            refine ⟨_, rfl, ([.l wa.heap.size wb.heap.size mv XS], some (wN.heap.size, [.int .i64 0, .slice none 0 0, .int .i64 0, .slice none 0 0])), Lib.hid (hc.out.add hb (Hl.mk1 oo) (Nat.le_refl _)), ?_⟩
            clear hc oo hb
            refine wpAnyH_call (i := 14) (d := some 57) 13 #[lv, .agg #[.int .i64 m, mv]] rfl (by kernel_rfl) rfl rfl (by kernel_rfl) (fun _ => by kernel_rfl) fun wc hc => ?_
            refine (HAS.out wc mv hc.out.be (Ints.of_own (hc.out.ls _ (.head _)).1 HXM.out)).mono ?_
            rintro e wd ⟨rfl, hb⟩
            refine ⟨_, rfl, ([.l wa.heap.size wb.heap.size mv XS], some (wN.heap.size, [.int .i64 0, .slice none 0 0, .int .i64 0, .slice none 0 0])), Lib.hid (hc.out.on hb), ?_⟩
            clear hc hb
            refine wpAnyH_call (i := 15) (d := some 58) 42 #[.agg #[.int .i64 m, gv], .agg #[.int .i64 m, hv], kv, val us k, .int .i64 AK] rfl (by kernel_rfl) rfl rfl (by kernel_rfl) (fun _ => by kernel_rfl) fun we hc => ?_
            have hlo : wo.heap.size ≤ we.heap.size := hc.out.be.size
            refine (HTU.out we hc.out.be).mono ?_
            rintro e wf ⟨v9, u9, rfl, oo, o2, oa, hb⟩
            obtain ⟨An, Cn, ef⟩ := Own.form oo
            obtain ⟨Bn, Dn, eg⟩ := Own.form o2
            subst ef eg
            refine ⟨_, rfl, ([.p we.heap.size wf.heap.size (.slice An XS.length Cn) (.slice Bn YS.length Dn) XS YS], some (wN.heap.size, [.int .i64 0, .slice none 0 0, .int .i64 0, .slice none 0 0])), Lib.hid ((hc.out.sub (L' := []) (fun c m => by cases m)).add hb (Hl.mk2 oo o2 oa) (Nat.le_refl _)), ?_⟩
            clear hc oo o2 oa hb
            refine wpAnyH_take (i := 16) (d := some 42) (.tuple #[.agg #[.int .i64 m, .slice An XS.length Cn, .int .i64 AK, .slice Bn YS.length Dn], .bool true]) rfl (by kernel_rfl) rfl rfl (by kernel_rfl) (by kernel_rfl) (by kernel_rfl) (fun _ => by kernel_rfl) ?_
            refine wpAnyH_take (i := 17) (d := some 59) (.agg #[.int .i64 m, .slice An XS.length Cn, .int .i64 AK, .slice Bn YS.length Dn]) rfl (by kernel_rfl) rfl rfl (by kernel_rfl) (by kernel_rfl) (by kernel_rfl) (fun _ => by kernel_rfl) ?_
            refine wpAnyH_take (i := 18) (d := some 60) (.bool true) rfl (by kernel_rfl) rfl rfl (by kernel_rfl) (by kernel_rfl) (by kernel_rfl) (fun _ => by kernel_rfl) ?_
            refine wpAnyH_special (i := 20) (d := none) rfl (by kernel_rfl) rfl rfl (by kernel_rfl) fun wg he => ?_
            have kb := (he.out.bx _ _ rfl).2.1
            have k0 := kb.cell 0; have f0 := kb.frozen 0
            have k1 := kb.cell 1; have f1 := kb.frozen 1
            have k2 := kb.cell 2; have f2 := kb.frozen 2
            have k3 := kb.cell 3; have f3 := kb.frozen 3
            simp at k0 k1 k2 k3
            refine ⟨undef, (((wg.setCell ⟨wN.heap.size, 0, none⟩ (.int .i64 m)).setCell ⟨wN.heap.size, 1, none⟩ (.slice An XS.length Cn)).setCell ⟨wN.heap.size, 2, none⟩ (.int .i64 AK)).setCell ⟨wN.heap.size, 3, none⟩ (.slice Bn YS.length Dn), ([.p we.heap.size wf.heap.size (.slice An XS.length Cn) (.slice Bn YS.length Dn) XS YS], some (wN.heap.size, [.int .i64 m, .slice An XS.length Cn, .int .i64 AK, .slice Bn YS.length Dn])), .inr ⟨by simp [go_sem, Act.put, k0, k1, k2, k3, f0, f1, f2, f3], rfl⟩, Lib.hid ((((he.out.put 0 _).put 1 _).put 2 _).put 3 _), ?_⟩
            clear he kb k0 k1 k2 k3 f0 f1 f2 f3
            refine wpAnyH_assign (i := 21) (d := some 15) _ rfl (by kernel_rfl) rfl rfl (by kernel_rfl) rfl ?_
            exact ⟨by kernel_rfl, ⟨(mv, An, Cn, Bn, Dn, we.heap.size, wf.heap.size, wN.heap.size), hlo⟩, rfl, by kernel_rfl⟩
        · rintro ⟨⟨mv, An, Cn, Bn, Dn, lo, hi, N14⟩, hlo⟩ wz hz
          dsimp only at hz hlo ⊢
          simp only [Act.put, List.setIfInBounds_toArray, List.set_cons_zero, List.set_cons_succ]
          have HBZ := Lib.hid hz.out.be
          have BX := Lib.hid (hz.out.bx _ _ rfl).2.1
          have LX := Lib.hid (hz.out.ls _ (.head _))
          have HLO := Lib.hid hlo
          clear hz hlo HMV HAS HTU
          have q0 := BX.out.cell 0
          have q1 := BX.out.cell 1
          have q2 := BX.out.cell 2
          have q3 := BX.out.cell 3
          simp at q0 q1 q2 q3
          have hou := (HT1.out.on HBZ.out).out.outer
          have hB3 : w.heap.size ≤ wz.heap.size := (HT1.out.on HBZ.out).be.size
          have hdl : d.length < 1000000 := by
            have h1 := congrArg List.length HD1.out
            simp at h1
            omega
          go_wp2_with (at_builtin; refine wpAppTurn (x := ⟨m, .slice An XS.length Cn, AK, .slice Bn YS.length Dn, XS, YS⟩) rfl _ _ rfl rfl hou hdl hB3 rfl rfl (by first | rfl | (simp; rfl)) ?_)
          have HVU : Hid (valU ⟨m, .slice An XS.length Cn, AK, .slice Bn YS.length Dn, XS, YS⟩ = (fun f => putU m g h (hrEl l m g known f)) (row L k)) := Lib.hid HPU.out.symm
          intro v4 w5 o4 g4 k4
          have S4 : Hid (∃ d, Th w w.heap.size [.int .i64 m, gv] [.int .i64 m, hv] rb c w2.heap.size w3.heap.size us L v4 d w5 ∧ d.map valU = (L.take (k + 1)).map (fun f => putU m g h (hrEl l m g known f))) := Lib.hid ⟨_, HT1.out.app (x := ⟨m, .slice An XS.length Cn, AK, .slice Bn YS.length Dn, XS, YS⟩) HBZ.out (own_mono LX.out.1 HLO.out) (own_mono LX.out.2.1 HLO.out) LX.out.2.2.1 o4 g4 k4, map_step HD1.out hkL HVU.out⟩
          clear o4 g4 k4 hou hdl hB3 q0 q1 q2 q3
          go_wp2
          go_roundw
          case rel => exact ⟨k + 1, by omega, by go_num, S4⟩
          case measure => simp [intOf]; omega
    · obtain rfl : k = n := by omega
      have hde : d.map valU = (hrL l m g known).map (putU m g h) := by
        rw [HD1.out, HE.out, List.map_map, List.take_of_length_le (Nat.le_of_eq HN.out)]; rfl
      have HDE := Lib.hid hde
      have hpm := hr_kp HOT.out HF.out
      have hlot := lot_few HOT.out.gg HOT.out.gh hde (fun x hx => hpm.mem_iff.1 hx) (by rw [HE.out, List.length_map, HN.out]; omega)
      have HPM := Lib.hid hpm
      have HLT := Lib.hid hlot
      clear hde hpm hlot
      go_wp2_with fail
      refine (stdU_any w.heap.size wo.heap.size m _ d wo HT1.out.out HLT.out.1 HT1.out.be.size (fun x hx => HLT.out.2 x hx)).mono ?_
      rintro e w9 ⟨v9, d9, rfl, hsd, ho9, hb9⟩
      have R9 : Hid (UPost (hrV m g m h known l) w (.returned v9) w9) := Lib.hid ⟨_, d9, rfl, ho9, by
        rw [HV.out]
        exact std_is HOT.out.gg.p1 HOT.out.gg.p5 HDE.out HPM.out hsd.perm hsd.asc, Below.on HT1.out.be hb9⟩
      clear hsd ho9 hb9
      go_wp2
      go_ret
      exact R9.out
theorem shr_any (p q : Int) (gv hv kv lv : Value) (g h known l : List Int) (w : World) (hg : Ints w gv g) (hh : Ints w hv h) (hk : Ints w kv known) (hl : Ints w lv l) (hp : intIn p) (hq : intIn q) (hs : ∀ j, j < g.length → intIn (nth g j)) (hs' : ∀ j, j < h.length → intIn (nth h j)) :
    Calls Try.prog 17 #[.agg #[.int .i64 p, gv], .agg #[.int .i64 q, hv], kv, lv] w (UPost (hrV p g q h known l) w) := by
  cases hb : hrB p g q h known l
  · exact shr_no p q gv hv kv lv g h known l w hg hh hk hl hp hq hs hs' hb
  · have k : OfT p g q h known known 0 := by
      unfold hrB at hb
      exact ofT_true.1 (by simpa using (Bool.and_eq_true _ _ ▸ hb : _ ∧ _).1)
    have e := k.e
    have p1 := k.gg.p1
    subst e
    obtain ⟨m, rfl⟩ : ∃ m : Nat, p = m := ⟨p.toNat, by omega⟩
    exact shr_yes m gv hv kv lv g h known l w hg hh hk hl hp hs hs' hb
end Go.Proofs.Ytlcegpmhlnilfaa

/- A list of talks among what an exact law's walk knows. -/
namespace Go.Proofs.Ytlcegpmhlnilfaa
open Go.RowKit

abbrev cpU (lo hi : Nat) (v : Value) (d : List Tu) : Cp := .o lo hi (fun w => OwnU w lo hi v d) (fun _ _ h hh => h.heap hh)
theorem Hl.mkU {w : World} {B : Nat} {v : Value} {d : List Tu} (h : OwnU w B w.heap.size v d) : Hl w (cpU B w.heap.size v d) := ⟨h, Nat.le_refl _⟩
theorem cntU_top {d : List Tu} (h : FewU d) : cntU d d.length ≤ 2002000 := by
  have h1 := cntU_few h d.length (Nat.le_refl _)
  have h2 := h.len
  omega
theorem mkUh (lo hi : Nat) (v : Value) (d : List Tu) (w : World) (h : Hl w (cpU lo hi v d)) (f : FewU d) :
    Calls Try.prog 22 #[v, .int .i64 1] w fun e w' => e = .returned (.int .i64 (1 + (cntU d d.length : Int))) ∧ Hl w' (cpU lo hi v (mkU d 1 d.length)) ∧ Outside lo hi w w' :=
  (mkU_any lo hi v d w h.1 f).mono fun _ _ ⟨a, b, c⟩ => ⟨a, ⟨b, Nat.le_trans h.2 c.size⟩, c⟩
theorem hdUh (lo hi : Nat) (v : Value) (d : List Tu) (w : World) (h : Hl w (cpU lo hi v (mkU d 1 d.length))) (f : FewU d) :
    Calls Try.prog 23 #[v, .int .i64 1] w fun e w' => e = .returned (.int .i64 (1 + (cntU d d.length : Int))) ∧ Below w.heap.size w w' :=
  (hdU_any lo hi v d w h.1 f).mono fun _ _ ⟨a, b⟩ => ⟨a, by rw [b]; exact Below.refl _ _⟩
theorem kp_lot {d : List Tu} {p q : Int} {g h l : List Int} (b : btB p g q h = true) (e : d.map valU = (kpL l p g h).map (putU p g h)) : FewU d := by
  obtain ⟨h1, h2, rfl⟩ := btB_true.1 b
  refine (lot_few h1 h2 e (fun x hx => hx) ?_).1
  have p1 := h1.p1
  have p5 := h1.p5
  have hn := ords_120 p.toNat (by omega)
  have k0 := kpIn_len l p g h 0 (ords p.toNat)
  have k1 := kpIn_len l p g h 1 (ords p.toNat)
  unfold kpL
  rw [List.length_append]; omega
theorem nil_few {d : List Tu} (e : d.map valU = []) : FewU d := by
  have hd : d = [] := List.map_eq_nil_iff.1 e
  subst hd
  exact ⟨by simp, fun k hk => by simp at hk⟩
theorem hrV_few (p : Int) (g : List Int) (q : Int) (h known l : List Int) : ∀ d : List Tu, d.map valU = hrV p g q h known l → FewU d := fun d e => by
  unfold hrV at e
  cases hb : hrB p g q h known l
  · rw [hb] at e; exact nil_few e
  · rw [hb] at e
    unfold hrB at hb
    rw [Bool.and_eq_true] at hb
    have k := ofT_true.1 hb.1
    exact kp_lot (btB_true.2 ⟨k.gg, k.gh, k.e⟩) e
theorem kpV_few (p : Int) (g : List Int) (q : Int) (h l : List Int) : ∀ d : List Tu, d.map valU = kpV p g q h l → FewU d := fun d e => by
  unfold kpV at e
  cases hb : kpB p g q h l
  · rw [hb] at e; exact nil_few e
  · rw [hb] at e
    unfold kpB at hb
    rw [Bool.and_eq_true] at hb
    exact kp_lot hb.1 e
end Go.Proofs.Ytlcegpmhlnilfaa
