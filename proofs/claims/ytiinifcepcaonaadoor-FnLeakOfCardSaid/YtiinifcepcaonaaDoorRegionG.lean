/- A region that draws its order, whose operations read and call, and among which some SPECIAL ones (an alloc, a store) move a ghost: one walk of the text's order serves every order. Own theory, over Derived.Deep.Quiet. -/
import Derived.Test.YtiinifcepcaonaaDoorBTalk
import Derived.Deep.Quiet
namespace Go.Proofs.YtiinifcepcaonaaDoor
open Go.RowKit
section
variable {P : Program} {ops : Array Oper} {md : Region.Mode} {Z : Type} {C : Z → World → Prop} {S : Nat → Bool}

/-- A special operation comes up: one value and a world of the next ghost's class. -/
def spOp (P : Program) (ops : Array Oper) (C : Z → World → Prop) (z : Z) (j : Nat) (K : Z → Act → Prop) (a : Act) : Prop :=
  ∃ o, ops[j]? = some o ∧ Region.wanted o (yielded ops a.tmps) = true ∧
    ∀ w, C z w → ∃ u w' z', ((execOp a.eval o).run P w = .ok (.value u) w' ∨ ((execOp a.eval o).run P w = .ok .skip w' ∧ u = undef)) ∧ C z' w' ∧ K z' (a.put o.dst u)
def gOp (P : Program) (ops : Array Oper) (C : Z → World → Prop) (S : Nat → Bool) (z : Z) (j : Nat) (K : Z → Act → Prop) (a : Act) : Prop :=
  if S j = true then spOp P ops C z j K a else qOp P ops (C z) j (K z) a
def wpAnyG (P : Program) (md : Region.Mode) (ops : Array Oper) (C : Z → World → Prop) (S : Nat → Bool) (Q : Z → Act → Prop) : Nat → Array Bool → Z → Act → Prop
  | 0, listed, z, a => Region.ready md ops listed = [] ∧ Q z a
  | fuel + 1, listed, z, a =>
    (Region.ready md ops listed = [] → Q z a) ∧
    ∀ i ∈ Region.ready md ops listed, gOp P ops C S z i (fun z' => wpAnyG P md ops C S Q fuel (listed.setIfInBounds i true) z') a

theorem wpOp_of_gOp {z : Z} {i : Nat} {a : Act} {K : Z → Act → Prop} {K' : Act → World → Prop} {Q' : Exit → Act → World → Prop} {w : World} (hC : C z w)
    (h : ∀ z' a w', C z' w' → K z' a → K' a w') (hh : gOp P ops C S z i K a) : wpOp P ops Q' i K' a w := by
  unfold gOp at hh
  split at hh
  · obtain ⟨o, ho, hw, hx⟩ := hh
    obtain ⟨u, w', z', hr, hc, hk⟩ := hx w hC
    unfold wpOp
    simp only [ho, hw, if_true]
    refine .inl ?_
    unfold Oper.wp
    rcases hr with hr | ⟨hr, rfl⟩
    · rw [hr]; simp only [Oper.upon]; exact h _ _ _ hc hk
    · rw [hr]; simp only [Oper.upon]; exact h _ _ _ hc hk
  · exact wpOp_of_qOp hC (fun a' w' hw' hk => h z a' w' hw' hk) hh

theorem wpAny_of_G {Q : Z → Act → Prop} {Q' : Exit → Act → World → Prop} (hQ : ∀ z a w, C z w → Q z a → Q' .normal a w) : ∀ (fuel : Nat) (listed : Array Bool) (z : Z) (a : Act) (w : World), C z w →
    wpAnyG P md ops C S Q fuel listed z a → wpAny P md ops Q' fuel listed a w
  | 0, _, _, _, _, hw, h => ⟨h.1, hQ _ _ _ hw h.2⟩
  | fuel + 1, _, _, _, _, hw, h => ⟨fun h0 => hQ _ _ _ hw (h.1 h0), fun i hi => wpOp_of_gOp hw (fun z' a' w' hw' => wpAny_of_G hQ fuel _ z' a' w' hw') (h.2 i hi)⟩

theorem gOp_mono {z : Z} {i : Nat} {a : Act} {K K' : Z → Act → Prop} (h : ∀ z a, K z a → K' z a) (hh : gOp P ops C S z i K a) : gOp P ops C S z i K' a := by
  unfold gOp at *
  split
  · rename_i hs
    rw [if_pos hs] at hh
    obtain ⟨o, ho, hw, hx⟩ := hh
    refine ⟨o, ho, hw, fun w hc => ?_⟩
    obtain ⟨u, w', z', hr, hc', hk⟩ := hx w hc
    exact ⟨u, w', z', hr, hc', h _ _ hk⟩
  · rename_i hs
    rw [if_neg hs] at hh
    exact qOp_mono (fun a => h z a) hh

theorem gOp_put {z : Z} {j : Nat} {oi oj : Oper} {v : Value} (hj : ops[j]? = some oj) (hap : oi.apart ops oj = true)
    (hsi : ∀ cs b, oi.op ≠ .select cs b) (hsj : ∀ cs b, oj.op ≠ .select cs b) {K : Z → Act → Prop} {a : Act}
    (hy : ∀ z, YieldsIn P ops (C z) oi v a) (h : gOp P ops C S z j K (a.put oi.dst v)) :
    gOp P ops C S z j (fun z' a' => (∀ z, YieldsIn P ops (C z) oi v a') ∧ K z' (a'.put oi.dst v)) a := by
  obtain ⟨h1, h2, h3⟩ := Oper.apart_spec hap
  have keep : ∀ u, ∀ z, YieldsIn P ops (C z) oi v (a.put oj.dst u) := fun u z =>
    (hy z).of_same (execOp_put oi hsi a oj.dst u h3) (wanted_put oi a oj.dst u h3)
  unfold gOp at *
  split
  · rename_i hs
    rw [if_pos hs] at h
    obtain ⟨o, ho, hw, hx⟩ := h
    obtain rfl : o = oj := Option.some.inj (ho.symm.trans hj)
    rw [wanted_put o a oi.dst v h1] at hw
    refine ⟨o, ho, hw, fun w hc => ?_⟩
    obtain ⟨u, w', z', hr, hc', hk⟩ := hx w hc
    rw [execOp_put o hsj a oi.dst v h1] at hr
    exact ⟨u, w', z', hr, hc', keep u, by rw [← Act.put_comm a v u h2]; exact hk⟩
  · rename_i hs
    rw [if_neg hs] at h
    unfold qOp at *
    simp only [hj] at *
    rw [wanted_put oj a oi.dst v h1] at h
    split
    · rename_i hw
      simp only [hw, if_true] at h
      obtain ⟨u, hu, hn⟩ := h
      refine ⟨u, fun w hw' => ?_, keep u, by rw [← Act.put_comm a v u h2]; exact hn⟩
      have := hu w hw'
      unfold Oper.quietAt at *
      rwa [execOp_put oj hsj a oi.dst v h1] at this
    · rename_i hw
      simp only [hw] at h
      exact ⟨keep _, by rw [← Act.put_comm a v undef h2]; exact h⟩

theorem YieldsIn.gOp {z : Z} {i : Nat} {o : Oper} {v : Value} {a : Act} (hi : ops[i]? = some o) (hS : S i = false) (hy : YieldsIn P ops (C z) o v a) {K : Z → Act → Prop} (h : K z (a.put o.dst v)) : gOp P ops C S z i K a := by
  unfold Go.Proofs.YtiinifcepcaonaaDoor.gOp
  rw [if_neg (by rw [hS]; decide)]
  exact YieldsIn.qOp hi hy h

/-- A quiet operation that may come up now may be taken first. -/
theorem wpAnyG_first {Q : Z → Act → Prop} {i : Nat} {oi : Oper} {v : Value} (hi : ops[i]? = some oi) (hS : S i = false) (hsel : ∀ (j : Nat) (o : Oper) cs b, ops[j]? = some o → o.op ≠ .select cs b) :
    ∀ (fuel : Nat) (listed : Array Bool) (z : Z) (a : Act),
      (∀ j oj, ops[j]? = some oj → j ≠ i → listed.getD j true = false → (∀ e ∈ oj.after, Region.binds md e = true → e.on ≠ i) → oi.apart ops oj = true) →
      i ∈ Region.ready md ops listed → (∀ z, YieldsIn P ops (C z) oi v a) →
      wpAnyG P md ops C S Q fuel (listed.setIfInBounds i true) z (a.put oi.dst v) → wpAnyG P md ops C S Q (fuel + 1) listed z a := by
  intro fuel
  induction fuel with
  | zero =>
    intro listed z a _ hr hy H
    refine ⟨fun h => (by rw [h] at hr; cases hr), fun j hj => ?_⟩
    by_cases hji : j = i
    · subst hji; exact YieldsIn.gOp hi hS (hy z) H
    · have := ready_mono hj hji
      rw [H.1] at this
      cases this
  | succ fuel ih =>
    intro listed z a hfree hr hy H
    refine ⟨fun h => (by rw [h] at hr; cases hr), fun j hj => ?_⟩
    by_cases hji : j = i
    · subst hji; exact YieldsIn.gOp hi hS (hy z) H
    · have h1 := H.2 j (ready_mono hj hji)
      obtain ⟨hjun, oj, hoj, hall⟩ := mem_ready.1 hj
      have hnot : ∀ e ∈ oj.after, Region.binds md e = true → e.on ≠ i := fun e he hb heq => by
        have h1 := hall e he hb
        have h0 := (mem_ready.1 hr).1
        rw [heq] at h1
        rcases Nat.lt_or_ge i listed.size with h' | h'
        · simp [h'] at h0 h1; rw [h0] at h1; cases h1
        · simp [Array.getElem?_eq_none h'] at h1
      have h2 := gOp_put hoj (hfree j oj hoj hji hjun hnot) (fun cs b => hsel i oi cs b hi) (fun cs b => hsel j oj cs b hoj) hy h1
      have hfree' : ∀ k ok, ops[k]? = some ok → k ≠ i → (listed.setIfInBounds j true).getD k true = false →
          (∀ e ∈ ok.after, Region.binds md e = true → e.on ≠ i) → oi.apart ops ok = true := fun k ok hk hki hun hno => by
        refine hfree k ok hk hki ?_ hno
        by_cases hjk : j = k
        · subst hjk; exact hjun
        · rw [getD_set_ne true hjk] at hun; exact hun
      refine gOp_mono (fun z' a' h3 => ih (listed.setIfInBounds j true) z' a' hfree' (ready_mono hr (Ne.symm hji)) h3.1 ?_) h2
      rw [Array.setIfInBounds_comm _ _ hji]
      exact h3.2

/-- The head of the text's order: n operations from number k on. -/
def headB (md : Region.Mode) (ops : Array Oper) (S : Nat → Bool) : Nat → Nat → Array Bool → Bool
  | 0, _, _ => true
  | n + 1, k, listed => !S k && (Region.ready md ops listed).contains k && Region.free md ops listed k && headB md ops S n (k + 1) (listed.setIfInBounds k true)
def headListed : Nat → Nat → Array Bool → Array Bool
  | 0, _, listed => listed
  | n + 1, k, listed => headListed n (k + 1) (listed.setIfInBounds k true)
/-- Each operation's slot is its own, and lies in the frame. -/
def dstsB : List Oper → Nat → Bool
  | [], _ => true
  | o :: l, n => (match o.dst with | some d => decide (d < n) && l.all (fun o' => o'.dst != some d) | none => false) && dstsB l n

theorem put_size (a : Act) (d : Option Tmp) (v : Value) : (a.put d v).tmps.size = a.tmps.size := by cases d <;> simp [Act.put]
theorem put_same {a : Act} {d : Nat} {v : Value} (h : d < a.tmps.size) : (a.put (some d) v).tmps[d]? = some v := by simp [Act.put, h]
theorem put_other {a : Act} {d : Nat} {x : Option Tmp} {v : Value} (h : x ≠ some d) : (a.put x v).tmps[d]? = a.tmps[d]? := by
  cases x with
  | none => rfl
  | some e => simp [Act.put, Array.getElem?_setIfInBounds_ne (show e ≠ d from fun h' => h (by rw [h']))]

theorem walk_keeps {C : World → Prop} {AF : Act} {d : Nat} : ∀ (l : List Oper) (a : Act), (l.all fun o' => o'.dst != some d) = true → wpQuiet P ops C (fun a' => a' = AF) l a → AF.tmps[d]? = a.tmps[d]?
  | [], a, _, h => by obtain rfl : a = AF := h; rfl
  | o :: l, a, hd, h => by
    simp only [List.all_cons, Bool.and_eq_true] at hd
    have hne : o.dst ≠ some d := by simpa using hd.1
    unfold wpQuiet at h
    split at h
    · obtain ⟨v, _, hn⟩ := h
      rw [walk_keeps l _ hd.2 hn, put_other hne]
    · rw [walk_keeps l _ hd.2 h, put_other hne]

theorem wpAnyG_head (hs : Region.noSelect ops = true) {Q : Z → Act → Prop} {AF : Act} {fuel : Nat} (z0 : Z) : ∀ (l : List Oper) (k : Nat) (listed : Array Bool) (z : Z) (a : Act), (∀ j, j < l.length → l[j]? = ops[k + j]?) →
    headB md ops S l.length k listed = true → dstsB l a.tmps.size = true → (∀ z, wpQuiet P ops (C z) (fun a' => a' = AF) l a) → wpAnyG P md ops C S Q fuel (headListed l.length k listed) z AF →
    wpAnyG P md ops C S Q (l.length + fuel) listed z a
  | [], _, _, _, a, _, _, _, h, H => by
    obtain rfl : a = AF := h z0
    simpa [headListed] using H
  | o :: l, k, listed, z, a, hl, hB, hd, h, H => by
    have h0 : ops[k]? = some o := by simpa using (hl 0 (by simp)).symm
    simp only [List.length_cons, headB, Bool.and_eq_true] at hB
    obtain ⟨⟨⟨hS, hr⟩, hf⟩, hB'⟩ := hB
    simp only [dstsB, Bool.and_eq_true] at hd
    obtain ⟨hd1, hd2⟩ := hd
    cases hdst : o.dst with
    | none => rw [hdst] at hd1; cases hd1
    | some d =>
      rw [hdst] at hd1
      simp only [Bool.and_eq_true, decide_eq_true_eq] at hd1
      obtain ⟨hlt, hno⟩ := hd1
      have key : ∃ v, (∀ z, YieldsIn P ops (C z) o v a) ∧ ∀ z, wpQuiet P ops (C z) (fun a' => a' = AF) l (a.put o.dst v) := by
        by_cases hw : Region.wanted o (yielded ops a.tmps) = true
        · refine ⟨AF.tmps.getD d undef, fun z => ?_, fun z => ?_⟩
          all_goals
            have hz := h z
            unfold wpQuiet at hz
            rw [if_pos hw] at hz
            obtain ⟨v, hv, hn⟩ := hz
            have e := walk_keeps l _ hno hn
            rw [hdst, put_same hlt] at e
            have ev : AF.tmps.getD d undef = v := by rw [Array.getD_eq_getD_getElem?, e]; rfl
            rw [ev]
            first
              | exact .inl ⟨hw, hv⟩
              | exact hn
        · refine ⟨undef, fun z => .inr ⟨by simpa using hw, rfl⟩, fun z => ?_⟩
          have hz := h z
          unfold wpQuiet at hz
          rwa [if_neg hw] at hz
      obtain ⟨v, hy, hn⟩ := key
      rw [show (o :: l).length + fuel = (l.length + fuel) + 1 by simp; omega]
      exact wpAnyG_first h0 (by simpa using hS) (Region.noSelect_spec hs) (l.length + fuel) listed z a (Region.free_spec h0 hf) (by simpa using hr) hy
        (wpAnyG_head hs z0 l (k + 1) _ z _ (fun j hj => by have := hl (j + 1) (by simpa using hj); simpa [Nat.add_assoc, Nat.add_comm 1 j] using this) hB' (by rw [put_size]; exact hd2) hn H)

/-- One operation alone may come up, and it is special. -/
theorem wpAnyG_special {Q : Z → Act → Prop} {fuel i : Nat} {listed : Array Bool} {z : Z} {a : Act} {o : Oper} {d : Option Tmp} (hd : o.dst = d) (hr : Region.ready md ops listed = [i]) (hS : S i = true) (ho : ops[i]? = some o) (hw : Region.wanted o (yielded ops a.tmps) = true)
    (h : ∀ w, C z w → ∃ u w' z', ((execOp a.eval o).run P w = .ok (.value u) w' ∨ ((execOp a.eval o).run P w = .ok .skip w' ∧ u = undef)) ∧ C z' w' ∧ wpAnyG P md ops C S Q fuel (listed.setIfInBounds i true) z' (a.put d u)) :
    wpAnyG P md ops C S Q (fuel + 1) listed z a :=
  ⟨fun h0 => (by rw [hr] at h0; cases h0), fun j hj => by
    rw [hr] at hj
    obtain rfl : j = i := by simpa using hj
    unfold gOp
    rw [if_pos hS]
    subst hd
    exact ⟨o, ho, hw, h⟩⟩
/-- One operation alone may come up: an assignment. -/
theorem wpAnyG_assign {Q : Z → Act → Prop} {fuel i : Nat} {listed : Array Bool} {z : Z} {a : Act} {o : Oper} {d : Option Tmp} (x : Operand) (hd : o.dst = d) (hr : Region.ready md ops listed = [i]) (hS : S i = false) (ho : ops[i]? = some o) (hw : Region.wanted o (yielded ops a.tmps) = true)
    (hx : o.op = .assign x) (h : wpAnyG P md ops C S Q fuel (listed.setIfInBounds i true) z (a.put d (a.eval x))) : wpAnyG P md ops C S Q (fuel + 1) listed z a :=
  ⟨fun h0 => (by rw [hr] at h0; cases h0), fun j hj => by
    rw [hr] at hj
    obtain rfl : j = i := by simpa using hj
    subst hd
    exact YieldsIn.gOp ho hS (.inl ⟨hw, fun w _ => by unfold Oper.quietAt; rw [BigFrame.run_assign x hx]; exact ⟨rfl, rfl⟩⟩) h⟩
/-- The region: its first n operations are quiet in every class, the others follow by hand. -/
theorem wp_region_G {id n : Nat} {l : List Oper} {Q : Exit → Act → World → Prop} {a AF : Act} {w : World} (z0 : Z) (hm : P.follows .mixedOrders = true) (hs : Region.noSelect l.toArray = true)
    (hH : headB .any l.toArray S (l.take n).length 0 (Array.replicate l.toArray.size false) = true) (hd : dstsB (l.take n) a.tmps.size = true) (hC : C z0 w.drew)
    (h : ∀ z, wpQuiet P l.toArray (C z) (fun a' => a' = AF) (l.take n) a)
    (H : wpAnyG P .any l.toArray C S (fun z a' => ∀ w', C z w' → Q .normal a' w') (l.length - (l.take n).length) (headListed (l.take n).length 0 (Array.replicate l.toArray.size false)) z0 AF) :
    (Code.region id l.toArray true).wp P Q a w := by
  refine wp_region_any hm (wpAny_of_G (C := C) (S := S) (Q := fun z a' => ∀ w', C z w' → Q .normal a' w') (fun _ _ w' hc hq => hq w' hc) _ _ z0 _ _ hC ?_)
  have hlen : (l.take n).length ≤ l.length := by simp; omega
  have := wpAnyG_head (P := P) (md := .any) (ops := l.toArray) (C := C) (S := S) hs (Q := fun z a' => ∀ w', C z w' → Q .normal a' w') z0 (l.take n) 0 (Array.replicate l.toArray.size false) z0 a
    (fun j hj => by simp at hj; simp [List.getElem?_take]; omega) hH hd h H
  rwa [show (l.take n).length + (l.length - (l.take n).length) = l.toArray.size by simp; omega] at this
end
end Go.Proofs.YtiinifcepcaonaaDoor
