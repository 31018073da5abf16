/- impl.ordersOf: the closure that yields all orders from a place on. -/
import Derived.Test.YtlcegpmhlnilfaaRngI
import Derived.RangeFuncNested
import Derived.Shelf.Abstract
import Derived.Shelf.RegionOpen
import Derived.WalkKit
import Derived.OwnWalkIn
import Derived.TacticsInMore
import Derived.LoopNIn
import Derived.LoopIn
import Derived.Stop.RegionWithIn
namespace Go.Proofs.Ytlcegpmhlnilfaa
open Go.RowKit
attribute [local go_sem] Oper.semAt_some

theorem YieldAt.anyDepth' {n : Nat} {P : Program} {l : Nat} {args : Array Value} {W : World} {R : Ending → World → Prop} (h : YieldAt Fence.wide n P l args W R) (m : Nat) : YieldAt Fence.wide m P l args W R := by
  obtain ⟨fn, tmps, assign, body, hy, hR⟩ := h
  exact ⟨fn, tmps, assign, body, hy, hR.1, fun c cs _ => hR.2 c cs (room_wide _)⟩
/-- What the iterator's own memory holds: five boxes, and the list of points. -/
structure It (Bm B2 B3 B5 B6 g c m l n1 n2 : Nat) (o : List Int) (W : World) : Prop where
  bm : W.cell? ⟨Bm, 0, none⟩ = some (.int .i64 m)
  b2 : W.cell? ⟨B2, 0, none⟩ = some (.func (.yield l) #[] #[])
  b3 : W.cell? ⟨B3, 0, none⟩ = some (.slice (some ⟨g, 0, none⟩) m c)
  b5 : W.cell? ⟨B5, 0, none⟩ = some (.func (.func 71) #[] #[.pointer (some ⟨B3, 0, none⟩)])
  b6 : W.cell? ⟨B6, 0, none⟩ = some (.func (.func 72) #[] #[.pointer (some ⟨Bm, 0, none⟩), .pointer (some ⟨B2, 0, none⟩), .pointer (some ⟨B3, 0, none⟩), .pointer (some ⟨B5, 0, none⟩), .pointer (some ⟨B6, 0, none⟩)])
  ow : Own W n1 (.slice (some ⟨g, 0, none⟩) m c) o
  len : o.length = m
  hz : n2 ≤ W.heap.size
/-- Where they lie. -/
structure Ix (Bm B2 B3 B5 B6 g n1 n2 : Nat) : Prop where
  m : Bm < n1
  x2 : n1 ≤ B2 ∧ B2 < n2 ∧ B2 ≠ g
  x3 : n1 ≤ B3 ∧ B3 < n2 ∧ B3 ≠ g
  x5 : n1 ≤ B5 ∧ B5 < n2 ∧ B5 ≠ g
  x6 : n1 ≤ B6 ∧ B6 < n2 ∧ B6 ≠ g
  xg : n1 ≤ g ∧ g < n2
/-- What a round keeps: the iterator's memory. -/
def KpI (Bm n1 n2 : Nat) (W W' : World) : Prop := W.heap.size ≤ W'.heap.size ∧ ∀ k o, W.heap[k]? = some o → o.isCells = true → ((n1 ≤ k ∧ k < n2) ∨ k = Bm) → W'.heap[k]? = some o
theorem cell_obj {W W' : World} {k j : Nat} {v : Value} (h : W.cell? ⟨k, j, none⟩ = some v) (hk : ∀ o, W.heap[k]? = some o → o.isCells = true → W'.heap[k]? = some o) : W'.cell? ⟨k, j, none⟩ = some v := by
  have h2 := h
  simp only [World.cell?] at h ⊢
  cases ho : W.heap[k]? with
  | none => rw [ho] at h; simp at h
  | some o =>
    rw [ho] at h
    cases o with
    | cells c e f => rw [hk _ ho rfl]; exact h
    | _ => simp at h
theorem It.kept {Bm B2 B3 B5 B6 g c m l n1 n2 : Nat} {o : List Int} {W W' : World} (h : It Bm B2 B3 B5 B6 g c m l n1 n2 o W) (x : Ix Bm B2 B3 B5 B6 g n1 n2) (k : KpI Bm n1 n2 W W') (hm : 0 < m) : It Bm B2 B3 B5 B6 g c m l n1 n2 o W' := by
  refine ⟨cell_obj h.bm fun o a b => k.2 _ o a b (.inr rfl), cell_obj h.b2 fun o a b => k.2 _ o a b (.inl ⟨x.x2.1, x.x2.2.1⟩), cell_obj h.b3 fun o a b => k.2 _ o a b (.inl ⟨x.x3.1, x.x3.2.1⟩), cell_obj h.b5 fun o a b => k.2 _ o a b (.inl ⟨x.x5.1, x.x5.2.1⟩), cell_obj h.b6 fun o a b => k.2 _ o a b (.inl ⟨x.x6.1, x.x6.2.1⟩), ?_, h.len, Nat.le_trans h.hz k.1⟩
  obtain ⟨f1, c1⟩ := (Own.set (k := 0) h.ow h.len hm 0).1
  refine own_heap h.ow fun q hq => ?_
  obtain rfl : g = q := by simpa [Value.ownBlock] using hq
  simp only [World.cell?] at c1
  cases ho : W.heap[g]? with
  | none => rw [ho] at c1; simp at c1
  | some ob =>
    rw [ho] at c1
    cases ob with
    | cells c e f => exact k.2 _ _ ho rfl (.inl x.xg)
    | _ => simp at c1
theorem It.low {Bm B2 B3 B5 B6 g c m l n1 n2 : Nat} {o : List Int} {W W' : World} (h : It Bm B2 B3 B5 B6 g c m l n1 n2 o W) (x : Ix Bm B2 B3 B5 B6 g n1 n2) (hb : Below W.heap.size W W') (hm : 0 < m) : It Bm B2 B3 B5 B6 g c m l n1 n2 o W' :=
  h.kept x ⟨hb.size, fun k _ a _ _ => (hb.block k (Array.getElem?_eq_some_iff.1 a).1).trans a⟩ hm
/-- Two points exchanged. -/
theorem It.exch {Bm B2 B3 B5 B6 g c m l n1 n2 : Nat} {o o' : List Int} {W W' : World} (h : It Bm B2 B3 B5 B6 g c m l n1 n2 o W) (x : Ix Bm B2 B3 B5 B6 g n1 n2) (hg : W.grownBy W' (some g)) (ho : Own W' n1 (.slice (some ⟨g, 0, none⟩) m c) o') (hl : o'.length = o.length) : It Bm B2 B3 B5 B6 g c m l n1 n2 o' W' := by
  have key : ∀ {k : Nat} {v : Value}, k ≠ g → W.cell? ⟨k, 0, none⟩ = some v → W'.cell? ⟨k, 0, none⟩ = some v := fun hk hc => cell_obj hc fun _ a _ => (hg.block _ (Array.getElem?_eq_some_iff.1 a).1 (fun e => hk (Option.some.inj e))).trans a
  exact ⟨key (by have := x.m; have := x.xg; omega) h.bm, key x.x2.2.2 h.b2, key x.x3.2.2 h.b3, key x.x5.2.2 h.b5, key x.x6.2.2 h.b6, ho, hl.trans h.len, Nat.le_trans h.hz hg.size⟩

section
variable (Bm B2 B3 B5 B6 g c m l n1 n2 : Nat) (T0 : List (List Int)) (J Jx : List (List Int) → World → Prop)
/-- What the rounds give. -/
def Rounds : Prop := ∀ pre v xs W0 W1, J pre W0 → n2 ≤ W0.heap.size → Below W0.heap.size W0 W1 → Own W1 W0.heap.size v xs → pre ++ [xs] <+: T0 → YieldAt Fence.wide 3 Try.prog l #[v] W1 fun e W' =>
  (e = .returned (.bool true) ∧ J (pre ++ [xs]) W' ∧ KpI Bm n1 n2 W1 W') ∨ (e = .returned (.bool false) ∧ Jx (pre ++ [xs]) W')
def YfPost (pre : List (List Int)) (r : List (List Int) × List Int) (e : Ending) (W' : World) : Prop :=
  ∃ b : Bool, e = .returned (.bool b) ∧ (b = true → It Bm B2 B3 B5 B6 g c m l n1 n2 r.2 W' ∧ J (pre ++ r.1) W') ∧ (b = false → ∃ q, q <+: r.1 ∧ Jx (pre ++ q) W')
end
set_option maxRecDepth 20000 in
set_option maxHeartbeats 3200000 in
theorem iyf_zero {Bm B2 B3 B5 B6 g c m l n1 n2 : Nat} {T0 : List (List Int)} {J Jx : List (List Int) → World → Prop} (x : Ix Bm B2 B3 B5 B6 g n1 n2) (hm : 0 < m) (hm5 : m ≤ 5) (hY : Rounds Bm l n1 n2 T0 J Jx) (pre : List (List Int)) (o : List Int) (W : World) (hI : It Bm B2 B3 B5 B6 g c m l n1 n2 o W) (hJ : J pre W) (hN : pre ++ [o] <+: T0) :
    CallsIn Fence.wide 3 Try.prog 72 #[.int .i64 m, .pointer (some ⟨Bm, 0, none⟩), .pointer (some ⟨B2, 0, none⟩), .pointer (some ⟨B3, 0, none⟩), .pointer (some ⟨B5, 0, none⟩), .pointer (some ⟨B6, 0, none⟩)] W (YfPost Bm B2 B3 B5 B6 g c m l n1 n2 J Jx pre ([o], o)) := by
  have c1 := hI.bm
  have c2 := hI.b2
  have c3 := hI.b3
  have HI := Lib.hid hI
  have HY := Lib.hid hY
  have HJ := Lib.hid hJ
  have HCL := Lib.hid (show CallsIn Fence.wide 2 Try.prog 73 #[.slice (some ⟨g, 0, none⟩) m c] W.drew (fun e w1 => ∃ v1, e = .returned v1 ∧ w1.cell? ⟨B2, 0, none⟩ = some (.func (.yield l) #[] #[]) ∧ YieldAt Fence.wide 2 Try.prog l #[v1] w1 fun e W' =>
      ∃ b : Bool, e = .returned (.bool b) ∧ (b = true → J (pre ++ [o]) W' ∧ It Bm B2 B3 B5 B6 g c m l n1 n2 o W') ∧ (b = false → Jx (pre ++ [o]) W')) from callsIn_wide.2 (by
    have hin : Ints W.drew (.slice (some ⟨g, 0, none⟩) m c) o := Ints.of_own (w := W) hI.ow (by have := hI.len; unfold maxLen; omega)
    refine (iclone_any _ o _ hin (by have := hI.len; omega)).mono ?_
    rintro e w1 ⟨v1, rfl, o1, hb1⟩
    have hb2 : Below W.heap.size W w1 := Below.on (Below.refl _ W).drew hb1
    have hy0 := YieldAt.anyDepth' (hY pre v1 o W w1 hJ hI.hz hb2 o1 hN) 2
    refine ⟨v1, rfl, (hI.low x hb2 hm).b2, hy0.mono ?_⟩
    rintro e W' (⟨rfl, h1, h2⟩ | ⟨rfl, h1⟩)
    · exact ⟨true, rfl, fun _ => ⟨h1, (hI.low x hb2 hm).kept x h2 hm⟩, fun h => (by cases h)⟩
    · exact ⟨false, rfl, fun h => (by cases h), fun _ => h1⟩))
  clear hI hY hJ
  have hmm : ((m : Int) == (m : Int)) = true := by simp
  have hf1 : Fence.wide.fn 73 := trivial
  refine callsIn_of_wp Try.func72 rfl trivial ?_
  simp only [Try.ntmps72, List.size_toArray, List.length_cons, List.length_nil, Nat.reduceAdd, Nat.reduceSub, Array.replicate_succ, Array.replicate_zero, List.push_toArray, List.append_toArray, List.nil_append, List.cons_append]
  gi_wp2
  gi_region_with (first
    | (refine HCL.out.mono ?_
       rintro e w1 ⟨v1, rfl, cy, fn, tmps, assign, body, hy, hR⟩)
    | (refine hR.mono ?_
       rintro e W' ⟨b, rfl, h1, h2⟩))
  all_goals gi_wp2
  all_goals refine bodyPost_ret (v := .bool b) ?_ rfl ⟨b, rfl, fun e => ⟨(h1 e).2, (h1 e).1⟩, fun e => ⟨[o], List.prefix_rfl, h2 e⟩⟩
  all_goals simp [results, Try.results72, go_sem, Act.put]

set_option maxRecDepth 20000 in
set_option maxHeartbeats 3200000 in
theorem iyf_any {Bm B2 B3 B5 B6 g c m l n1 n2 : Nat} {T0 : List (List Int)} {J Jx : List (List Int) → World → Prop} (x : Ix Bm B2 B3 B5 B6 g n1 n2) (hm : 0 < m) (hm5 : m ≤ 5) (hY : Rounds Bm l n1 n2 T0 J Jx) (hA : AbidesIn n1 n2 J) : ∀ (f place : Nat) (pre : List (List Int)) (o : List Int) (W : World), place + f = m → It Bm B2 B3 B5 B6 g c m l n1 n2 o W → J pre W → pre ++ (exFrom f place o).1 <+: T0 →
    CallsIn Fence.wide 3 Try.prog 72 #[.int .i64 place, .pointer (some ⟨Bm, 0, none⟩), .pointer (some ⟨B2, 0, none⟩), .pointer (some ⟨B3, 0, none⟩), .pointer (some ⟨B5, 0, none⟩), .pointer (some ⟨B6, 0, none⟩)] W (YfPost Bm B2 B3 B5 B6 g c m l n1 n2 J Jx pre (exFrom f place o))
  | 0, place, pre, o, W, hp, hI, hJ, hN => by
    obtain rfl : place = m := by omega
    exact iyf_zero x hm hm5 hY pre o W hI hJ (by simpa [exFrom] using hN)
  | f + 1, place, pre, o, W, hp, hI, hJ, hN => by
    have IH := Lib.hid (fun (pre : List (List Int)) (o : List Int) (W : World) (h1 : It Bm B2 B3 B5 B6 g c m l n1 n2 o W) (h2 : J pre W) (h3 : pre ++ (exFrom f (place + 1) o).1 <+: T0) => show CallsIn Fence.wide 2 Try.prog 72 #[.int .i64 ((place : Int) + 1), .pointer (some ⟨Bm, 0, none⟩), .pointer (some ⟨B2, 0, none⟩), .pointer (some ⟨B3, 0, none⟩), .pointer (some ⟨B5, 0, none⟩), .pointer (some ⟨B6, 0, none⟩)] W (YfPost Bm B2 B3 B5 B6 g c m l n1 n2 J Jx pre (exFrom f (place + 1) o)) from by
      have h9 := (callsIn_wide (n := 2)).2 (callsIn_wide.1 (iyf_any x hm hm5 hY hA f (place + 1) pre o W (by omega) h1 h2 h3))
      rwa [show ((place + 1 : Nat) : Int) = (place : Int) + 1 by omega] at h9)
    have HX := Lib.hid (fun (i j : Nat) (pre : List (List Int)) (o : List Int) (W : World) (h1 : It Bm B2 B3 B5 B6 g c m l n1 n2 o W) (h2 : J pre W) (hi : i < m) (hj : j < m) => show CallsIn Fence.wide 2 Try.prog 71 #[.int .i64 i, .int .i64 j, .pointer (some ⟨B3, 0, none⟩)] W (fun e W' => (∃ v, e = .returned v) ∧ It Bm B2 B3 B5 B6 g c m l n1 n2 (exch o i j) W' ∧ J pre W') from callsIn_wide.2 ((iexch_any B3 g c m n1 o i j W h1.b3 h1.ow x.x3.2.2 h1.len hi hj).mono fun e W' ⟨a, b, d⟩ => ⟨a, h1.exch x d b exch_len, hA _ _ _ _ h2 d fun r hr => by cases hr; exact x.xg⟩))
    have c1 := hI.bm
    have S0 := Lib.hid (show It Bm B2 B3 B5 B6 g c m l n1 n2 (exLoop (exFrom f (place + 1)) place 0 o).2 W ∧ J (pre ++ (exLoop (exFrom f (place + 1)) place 0 o).1) W from ⟨hI, by simpa [exLoop] using hJ⟩)
    have HN := Lib.hid hN
    clear hI hJ hN hY hA
    have hmm : ((place : Int) == (m : Int)) = false := by simp; omega
    have hf1 : Fence.wide.fn 71 := trivial
    have hf2 : Fence.wide.fn 72 := trivial
    refine callsIn_of_wp Try.func72 rfl trivial ?_
    simp only [Try.ntmps72, List.size_toArray, List.length_cons, List.length_nil, Nat.reduceAdd, Nat.reduceSub, Array.replicate_succ, Array.replicate_zero, List.push_toArray, List.append_toArray, List.nil_append, List.cons_append]
    gi_wp2
    obtain ⟨G, hG⟩ : ∃ G, exFrom f (place + 1) = G := ⟨_, rfl⟩
    have HG := Lib.hid hG
    rw [hG] at S0 IH
    have HN2 := Lib.hid (show pre ++ (exLoop G place (f + 1) o).1 <+: T0 by rw [← hG]; exact HN.out)
    have HFR := Lib.hid (show exFrom (f + 1) place o = ((exLoop G place (f + 1) o).1, exBack place (place + f) (exLoop G place (f + 1) o).2) by rw [← hG]; rfl)
    rw [HFR.out]
    clear hG HN HG
    gi_loopw [8] (fun i wr => ∃ k q : Nat, place + k = q ∧ k ≤ f + 1 ∧ i = .int .i64 q ∧ Hid (It Bm B2 B3 B5 B6 g c m l n1 n2 (exLoop G place k o).2 wr ∧ J (pre ++ (exLoop G place k o).1) wr)) (fun i _ => m - (intOf i).toNat)
    case atStart => exact ⟨0, place, rfl, by omega, rfl, S0⟩
    case round =>
      obtain ⟨k, q, hkq, hk, rfl, hS⟩ := hrel
      obtain ⟨wo, rfl⟩ : ∃ wo : World, wo = wr := ⟨_, rfl⟩
      clear S0 c1
      obtain ⟨s1, s2⟩ := hS.out
      have S1 := Lib.hid s1
      have S2 := Lib.hid s2
      have c1 := s1.bm
      have HKQ := Lib.hid hkq
      clear s1 s2 hS
      by_cases hkf : k < f + 1
      · have hlt : (q : Int) < (m : Int) := by omega
        have hqm : q < m := by omega
        have c5 := S1.out.b5
        clear hkq
        gi_wp2_with fail
        refine (HX.out place q _ _ wo S1.out S2.out (by omega) hqm).mono ?_
        rintro e W1 ⟨⟨v, rfl⟩, t1, t2⟩
        have T1 := Lib.hid t1
        have T2 := Lib.hid t2
        have c6 := t1.b6
        clear t1 t2 c1 c5 S1 S2
        have hstep : Hid ((exLoop G place (k + 1) o).1 = (exLoop G place k o).1 ++ (G (exch (exLoop G place k o).2 place q)).1 ∧ (exLoop G place (k + 1) o).2 = (G (exch (exLoop G place k o).2 place q)).2) := Lib.hid (by rw [exLoop, HKQ.out]; exact ⟨rfl, rfl⟩)
        gi_wp2_with fail
        refine (IH.out _ _ W1 T1.out T2.out (by
          have h8 := exLoop_pre (g := G) (place := place) (o := o) (show k + 1 ≤ f + 1 by omega)
          rw [hstep.out.1] at h8
          rw [List.append_assoc]
          exact ((List.prefix_append_right_inj _).2 h8).trans HN2.out)).mono ?_
        rintro e W2 ⟨b, rfl, h1, h2⟩
        cases b
        · obtain ⟨z, hz1, hz2⟩ := h2 rfl
          have HZ := Lib.hid (show ∃ z, z <+: (exLoop G place (f + 1) o).1 ∧ Jx (pre ++ z) W2 from ⟨(exLoop G place k o).1 ++ z, exLoop_in hkf (by rw [HKQ.out]; exact hz1), by rw [← List.append_assoc]; exact hz2⟩)
          clear h1 h2 hz1 hz2
          gi_wp2
          refine bodyPost_ret (v := .bool false) ?_ rfl ⟨false, rfl, fun e => (by cases e), fun _ => HZ.out⟩
          simp [results, Try.results72, go_sem]
        · have U := Lib.hid (h1 rfl)
          clear h1 h2
          gi_wp2
          go_roundw
          case rel => exact ⟨k + 1, q + 1, by have := HKQ.out; omega, by omega, by go_num, Lib.hid ⟨by rw [hstep.out.2]; exact U.out.1, by rw [hstep.out.1, ← List.append_assoc]; exact U.out.2⟩⟩
          case measure => simp [intOf]; omega
      · obtain rfl : k = f + 1 := by omega
        have hlt : ¬ (q : Int) < (m : Int) := by omega
        obtain ⟨oL, hoL⟩ : ∃ z, (exLoop G place (f + 1) o).2 = z := ⟨_, rfl⟩
        rw [hoL] at S1
        have HOL := Lib.hid hoL
        clear hoL hkq
        have V0 := Lib.hid (show It Bm B2 B3 B5 B6 g c m l n1 n2 oL wo ∧ J (pre ++ (exLoop G place (f + 1) o).1) wo from ⟨S1.out, S2.out⟩)
        clear S1 S2
        gi_wp2
        gi_loopw [9] (fun i wr => ∃ (q : Nat) (o' : List Int), place ≤ q ∧ q ≤ place + f ∧ i = .int .i64 q ∧ Hid (exBack place q o' = exBack place (place + f) oL) ∧ Hid (It Bm B2 B3 B5 B6 g c m l n1 n2 o' wr ∧ J (pre ++ (exLoop G place (f + 1) o).1) wr)) (fun i _ => (intOf i).toNat)
        case atStart => exact ⟨place + f, oL, by omega, by omega, by go_num, Lib.hid rfl, V0⟩
        case round =>
          obtain ⟨r, o', hr1, hr2, rfl, hE, hV⟩ := hrel
          obtain ⟨wz, rfl⟩ : ∃ wz : World, wz = wr := ⟨_, rfl⟩
          clear V0 c1
          obtain ⟨v1, v2⟩ := hV.out
          have V1 := Lib.hid v1
          have V2 := Lib.hid v2
          have c5 := v1.b5
          clear v1 v2 hV
          by_cases hgt : place < r
          · have hgi : (place : Int) < (r : Int) := by omega
            have hrm : r < m := by omega
            gi_wp2_with fail
            refine (HX.out place r _ _ wz V1.out V2.out (by omega) hrm).mono ?_
            rintro e W1 ⟨⟨v, rfl⟩, t1, t2⟩
            have T1 := Lib.hid (show It Bm B2 B3 B5 B6 g c m l n1 n2 (exch o' place r) W1 ∧ J (pre ++ (exLoop G place (f + 1) o).1) W1 from ⟨t1, t2⟩)
            clear t1 t2 c5 V1 V2
            gi_wp2
            go_roundw
            case rel => exact ⟨r - 1, exch o' place r, by omega, by omega, by go_num, Lib.hid (by
              obtain ⟨i, rfl⟩ : ∃ i, r = i + 1 := ⟨r - 1, by omega⟩
              rw [Nat.add_sub_cancel, ← exBack_step hgt]; exact hE.out), T1⟩
            case measure => simp [intOf]; omega
          · obtain rfl : place = r := by omega
            have hgi : ¬ (place : Int) < (place : Int) := by omega
            have HO : Hid (o' = exBack place (place + f) oL) := Lib.hid (by rw [← hE.out]; exact exBack_stop.symm)
            gi_wp2
            refine bodyPost_ret (v := .bool true) ?_ rfl ⟨true, rfl, fun _ => ⟨by rw [HFR.out, HOL.out, ← HO.out]; exact V1.out, by rw [HFR.out]; exact V2.out⟩, fun e => (by cases e)⟩
            simp [results, Try.results72, go_sem]
end Go.Proofs.Ytlcegpmhlnilfaa
