/- RegionH, RegionI, in one text. -/
import Derived.Test.YtiinifcepcaonaaDoorBTalk
import Derived.Deep.Quiet
import Derived.Test.YtiinifcepcaonaaDoorBRd
/- A region that draws its order, whose operations read and call, and among which some SPECIAL ones (an alloc, a store, a call that answers new memory) move a ghost: the quiet ones are taken first, in any order that fits; then the special ones, one by one. Own theory, over Derived.Deep.Quiet. -/
namespace Go.Proofs.YtiinifcepcaonaaDoor
open Go.RowKit

/-- What a run leaves: a value, and the world behind it. -/
def spUpon (P : Program) (D : Value → World → Prop) : Result Next → Prop
  | .ok (.value v) w' => D v w'
  | .ok .skip w' => D undef w'
  | .ok (.enter f args) w' => Calls P f args w' fun e w'' => ∃ v, e = .returned v ∧ D v w''
  | _ => False
theorem spUpon_mono {P : Program} {D D' : Value → World → Prop} (h : ∀ v w, D v w → D' v w) : ∀ {r : Result Next}, spUpon P D r → spUpon P D' r
  | .ok (.value _) _, hh => h _ _ hh
  | .ok .skip _, hh => h _ _ hh
  | .ok (.enter _ _) _, hh => Calls.mono hh fun _ _ ⟨v, he, hd⟩ => ⟨v, he, h _ _ hd⟩
  | .ok (.defer _) _, hh => hh.elim
  | .ok (.row _ _) _, hh => hh.elim
  | .halt _ _, hh => hh.elim

def nthO : List Oper → Nat → Option Oper
  | [], _ => none
  | o :: _, 0 => some o
  | _ :: l, n + 1 => nthO l n
theorem nthO_get : ∀ (l : List Oper) (n : Nat), nthO l n = l[n]?
  | [], _ => by simp [nthO]
  | _ :: _, 0 => by simp [nthO]
  | _ :: l, n + 1 => by simp [nthO, nthO_get l n]
def pickL (l : List Oper) : List Nat → List Oper
  | [] => []
  | i :: is => match nthO l i with
    | some o => o :: pickL l is
    | none => []

section
variable {P : Program} {ops : Array Oper} {md : Region.Mode} {Z : Type} {C : Z → World → Prop} {S : Nat → Bool}

def spOpH (P : Program) (ops : Array Oper) (C : Z → World → Prop) (z : Z) (j : Nat) (K : Z → Act → Prop) (a : Act) : Prop :=
  ∃ o, ops[j]? = some o ∧ Region.wanted o (yielded ops a.tmps) = true ∧ ∀ w, C z w → spUpon P (fun v w' => ∃ z', C z' w' ∧ K z' (a.put o.dst v)) ((execOp a.eval o).run P w)
def hOp (P : Program) (ops : Array Oper) (C : Z → World → Prop) (S : Nat → Bool) (z : Z) (j : Nat) (K : Z → Act → Prop) (a : Act) : Prop :=
  if S j = true then spOpH P ops C z j K a else qOp P ops (C z) j (K z) a
def wpAnyH (P : Program) (md : Region.Mode) (ops : Array Oper) (C : Z → World → Prop) (S : Nat → Bool) (Q : Z → Act → Prop) : Nat → Array Bool → Z → Act → Prop
  | 0, listed, z, a => Region.ready md ops listed = [] ∧ Q z a
  | fuel + 1, listed, z, a =>
    (Region.ready md ops listed = [] → Q z a) ∧
    ∀ i ∈ Region.ready md ops listed, hOp P ops C S z i (fun z' => wpAnyH P md ops C S Q fuel (listed.setIfInBounds i true) z') a

theorem wp_of_spUpon {o : Oper} {a : Act} {D : Value → World → Prop} {K' : Act → World → Prop} {Q' : Exit → Act → World → Prop} {w : World} (h : ∀ v w', D v w' → K' (a.put o.dst v) w') (hh : spUpon P D ((execOp a.eval o).run P w)) : o.wp P a w K' Q' := by
  unfold Oper.wp
  generalize (execOp a.eval o).run P w = r at *
  match r, hh with
  | .ok (.value _) _, hh => exact h _ _ hh
  | .ok .skip _, hh => exact h _ _ hh
  | .ok (.enter _ _) _, hh => exact Calls.mono hh fun _ _ ⟨_, he, hd⟩ => by subst he; exact h _ _ hd

theorem wpOp_of_hOp {z : Z} {i : Nat} {a : Act} {K : Z → Act → Prop} {K' : Act → World → Prop} {Q' : Exit → Act → World → Prop} {w : World} (hC : C z w)
    (h : ∀ z' a w', C z' w' → K z' a → K' a w') (hh : hOp P ops C S z i K a) : wpOp P ops Q' i K' a w := by
  unfold hOp at hh
  split at hh
  · obtain ⟨o, ho, hw, hx⟩ := hh
    unfold wpOp
    simp only [ho, hw, if_true]
    exact .inl (wp_of_spUpon (fun v w' ⟨z', hc, hk⟩ => h _ _ _ hc hk) (hx w hC))
  · exact wpOp_of_qOp hC (fun a' w' hw' hk => h z a' w' hw' hk) hh

theorem wpAny_of_H {Q : Z → Act → Prop} {Q' : Exit → Act → World → Prop} (hQ : ∀ z a w, C z w → Q z a → Q' .normal a w) : ∀ (fuel : Nat) (listed : Array Bool) (z : Z) (a : Act) (w : World), C z w →
    wpAnyH P md ops C S Q fuel listed z a → wpAny P md ops Q' fuel listed a w
  | 0, _, _, _, _, hw, h => ⟨h.1, hQ _ _ _ hw h.2⟩
  | fuel + 1, _, _, _, _, hw, h => ⟨fun h0 => hQ _ _ _ hw (h.1 h0), fun i hi => wpOp_of_hOp hw (fun z' a' w' hw' => wpAny_of_H hQ fuel _ z' a' w' hw') (h.2 i hi)⟩

theorem hOp_mono {z : Z} {i : Nat} {a : Act} {K K' : Z → Act → Prop} (h : ∀ z a, K z a → K' z a) (hh : hOp P ops C S z i K a) : hOp P ops C S z i K' a := by
  unfold hOp at *
  split
  · rename_i hs
    rw [if_pos hs] at hh
    obtain ⟨o, ho, hw, hx⟩ := hh
    exact ⟨o, ho, hw, fun w hc => spUpon_mono (fun v w' ⟨z', hc', hk⟩ => ⟨z', hc', h _ _ hk⟩) (hx w hc)⟩
  · rename_i hs
    rw [if_neg hs] at hh
    exact qOp_mono (fun a => h z a) hh

theorem hOp_put {z : Z} {j : Nat} {oi oj : Oper} {v : Value} (hj : ops[j]? = some oj) (hap : oi.apart ops oj = true)
    (hsi : ∀ cs b, oi.op ≠ .select cs b) (hsj : ∀ cs b, oj.op ≠ .select cs b) {K : Z → Act → Prop} {a : Act}
    (hy : ∀ z, YieldsIn P ops (C z) oi v a) (h : hOp P ops C S z j K (a.put oi.dst v)) :
    hOp P ops C S z j (fun z' a' => (∀ z, YieldsIn P ops (C z) oi v a') ∧ K z' (a'.put oi.dst v)) a := by
  obtain ⟨h1, h2, h3⟩ := Oper.apart_spec hap
  have keep : ∀ u, ∀ z, YieldsIn P ops (C z) oi v (a.put oj.dst u) := fun u z =>
    (hy z).of_same (execOp_put oi hsi a oj.dst u h3) (wanted_put oi a oj.dst u h3)
  unfold hOp at *
  split
  · rename_i hs
    rw [if_pos hs] at h
    obtain ⟨o, ho, hw, hx⟩ := h
    obtain rfl : o = oj := Option.some.inj (ho.symm.trans hj)
    rw [wanted_put o a oi.dst v h1] at hw
    refine ⟨o, ho, hw, fun w hc => ?_⟩
    have hx' := hx w hc
    rw [execOp_put o hsj a oi.dst v h1] at hx'
    exact spUpon_mono (fun u w' ⟨z', hc', hk⟩ => ⟨z', hc', keep u, by rw [← Act.put_comm a v u h2]; exact hk⟩) hx'
  · rename_i hs
    rw [if_neg hs] at h
    unfold qOp at *
    simp only [hj] at *
    rw [wanted_put oj a oi.dst v h1] at h
    split
    · rename_i hw
      simp only [hw, if_true] at h
      obtain ⟨u, hu, hn⟩ := h
      refine ⟨u, fun w hw' => ?_, keep u, by rw [← Act.put_comm a v u h2]; exact hn⟩
      have := hu w hw'
      unfold Oper.quietAt at *
      rwa [execOp_put oj hsj a oi.dst v h1] at this
    · rename_i hw
      simp only [hw] at h
      exact ⟨keep _, by rw [← Act.put_comm a v undef h2]; exact h⟩

theorem YieldsIn.hOp {z : Z} {i : Nat} {o : Oper} {v : Value} {a : Act} (hi : ops[i]? = some o) (hS : S i = false) (hy : YieldsIn P ops (C z) o v a) {K : Z → Act → Prop} (h : K z (a.put o.dst v)) : hOp P ops C S z i K a := by
  unfold Go.Proofs.YtiinifcepcaonaaDoor.hOp
  rw [if_neg (by rw [hS]; decide)]
  exact YieldsIn.qOp hi hy h

/-- A quiet operation that may come up now may be taken first. -/
theorem wpAnyH_first {Q : Z → Act → Prop} {i : Nat} {oi : Oper} {v : Value} (hi : ops[i]? = some oi) (hS : S i = false) (hsel : ∀ (j : Nat) (o : Oper) cs b, ops[j]? = some o → o.op ≠ .select cs b) :
    ∀ (fuel : Nat) (listed : Array Bool) (z : Z) (a : Act),
      (∀ j oj, ops[j]? = some oj → j ≠ i → listed.getD j true = false → (∀ e ∈ oj.after, Region.binds md e = true → e.on ≠ i) → oi.apart ops oj = true) →
      i ∈ Region.ready md ops listed → (∀ z, YieldsIn P ops (C z) oi v a) →
      wpAnyH P md ops C S Q fuel (listed.setIfInBounds i true) z (a.put oi.dst v) → wpAnyH P md ops C S Q (fuel + 1) listed z a := by
  intro fuel
  induction fuel with
  | zero =>
    intro listed z a _ hr hy H
    refine ⟨fun h => (by rw [h] at hr; cases hr), fun j hj => ?_⟩
    by_cases hji : j = i
    · subst hji; exact YieldsIn.hOp hi hS (hy z) H
    · have := ready_mono hj hji
      rw [H.1] at this
      cases this
  | succ fuel ih =>
    intro listed z a hfree hr hy H
    refine ⟨fun h => (by rw [h] at hr; cases hr), fun j hj => ?_⟩
    by_cases hji : j = i
    · subst hji; exact YieldsIn.hOp hi hS (hy z) H
    · have h1 := H.2 j (ready_mono hj hji)
      obtain ⟨hjun, oj, hoj, hall⟩ := mem_ready.1 hj
      have hnot : ∀ e ∈ oj.after, Region.binds md e = true → e.on ≠ i := fun e he hb heq => by
        have h1 := hall e he hb
        have h0 := (mem_ready.1 hr).1
        rw [heq] at h1
        rcases Nat.lt_or_ge i listed.size with h' | h'
        · simp [h'] at h0 h1; rw [h0] at h1; cases h1
        · simp [Array.getElem?_eq_none h'] at h1
      have h2 := hOp_put hoj (hfree j oj hoj hji hjun hnot) (fun cs b => hsel i oi cs b hi) (fun cs b => hsel j oj cs b hoj) hy h1
      have hfree' : ∀ k ok, ops[k]? = some ok → k ≠ i → (listed.setIfInBounds j true).getD k true = false →
          (∀ e ∈ ok.after, Region.binds md e = true → e.on ≠ i) → oi.apart ops ok = true := fun k ok hk hki hun hno => by
        refine hfree k ok hk hki ?_ hno
        by_cases hjk : j = k
        · subst hjk; exact hjun
        · rw [getD_set_ne true hjk] at hun; exact hun
      refine hOp_mono (fun z' a' h3 => ih (listed.setIfInBounds j true) z' a' hfree' (ready_mono hr (Ne.symm hji)) h3.1 ?_) h2
      rw [Array.setIfInBounds_comm _ _ hji]
      exact h3.2

/-- The quiet operations, by number, in the order in which they are taken. -/
def headI (md : Region.Mode) (ops : Array Oper) (S : Nat → Bool) : List Nat → Array Bool → Bool
  | [], _ => true
  | k :: ks, listed => !S k && (Region.ready md ops listed).contains k && Region.free md ops listed k && headI md ops S ks (listed.setIfInBounds k true)
def listedI : List Nat → Array Bool → Array Bool
  | [], listed => listed
  | k :: ks, listed => listedI ks (listed.setIfInBounds k true)
/-- Each operation's slot is its own, and lies in the frame. -/
def dstsH : List Oper → Nat → Bool
  | [], _ => true
  | o :: l, n => (match o.dst with | some d => decide (d < n) && l.all (fun o' => o'.dst != some d) | none => false) && dstsH l n
def agreeI (l : List Oper) : List Nat → List Oper → Prop
  | [], [] => True
  | k :: ks, o :: os => l[k]? = some o ∧ agreeI l ks os
  | _, _ => False

theorem put_sizeH (a : Act) (d : Option Tmp) (v : Value) : (a.put d v).tmps.size = a.tmps.size := by cases d <;> simp [Act.put]
theorem put_sameH {a : Act} {d : Nat} {v : Value} (h : d < a.tmps.size) : (a.put (some d) v).tmps[d]? = some v := by simp [Act.put, h]
theorem put_otherH {a : Act} {d : Nat} {x : Option Tmp} {v : Value} (h : x ≠ some d) : (a.put x v).tmps[d]? = a.tmps[d]? := by
  cases x with
  | none => rfl
  | some e => simp [Act.put, Array.getElem?_setIfInBounds_ne (show e ≠ d from fun h' => h (by rw [h']))]

theorem walk_keepsH {C : World → Prop} {AF : Act} {d : Nat} : ∀ (l : List Oper) (a : Act), (l.all fun o' => o'.dst != some d) = true → wpQuiet P ops C (fun a' => a' = AF) l a → AF.tmps[d]? = a.tmps[d]?
  | [], a, _, h => by obtain rfl : a = AF := h; rfl
  | o :: l, a, hd, h => by
    simp only [List.all_cons, Bool.and_eq_true] at hd
    have hne : o.dst ≠ some d := by simpa using hd.1
    unfold wpQuiet at h
    split at h
    · obtain ⟨v, _, hn⟩ := h
      rw [walk_keepsH l _ hd.2 hn, put_otherH hne]
    · rw [walk_keepsH l _ hd.2 h, put_otherH hne]

theorem wpAnyH_head {L : List Oper} (hs : Region.noSelect L.toArray = true) {Q : Z → Act → Prop} {AF : Act} {fuel : Nat} (z0 : Z) (is : List Nat) : ∀ (l : List Oper) (listed : Array Bool) (z : Z) (a : Act), agreeI L is l →
    headI md L.toArray S is listed = true → dstsH l a.tmps.size = true → (∀ z, wpQuiet P L.toArray (C z) (fun a' => a' = AF) l a) → wpAnyH P md L.toArray C S Q fuel (listedI is listed) z AF →
    wpAnyH P md L.toArray C S Q (is.length + fuel) listed z a := by
  induction is with
  | nil =>
    intro l listed z a hl _ _ h H
    cases l with
    | nil =>
      obtain rfl : a = AF := h z0
      simpa [listedI] using H
    | cons o l => exact hl.elim
  | cons k ks ih =>
    intro l listed z a hl hB hd h H
    cases l with
    | nil => exact hl.elim
    | cons o l =>
      have h0 : L.toArray[k]? = some o := by simpa using hl.1
      simp only [headI, Bool.and_eq_true] at hB
      obtain ⟨⟨⟨hS, hr⟩, hf⟩, hB'⟩ := hB
      simp only [dstsH, Bool.and_eq_true] at hd
      obtain ⟨hd1, hd2⟩ := hd
      cases hdst : o.dst with
      | none => rw [hdst] at hd1; cases hd1
      | some d =>
        rw [hdst] at hd1
        simp only [Bool.and_eq_true, decide_eq_true_eq] at hd1
        obtain ⟨hlt, hno⟩ := hd1
        have key : ∃ v, (∀ z, YieldsIn P L.toArray (C z) o v a) ∧ ∀ z, wpQuiet P L.toArray (C z) (fun a' => a' = AF) l (a.put o.dst v) := by
          by_cases hw : Region.wanted o (yielded L.toArray a.tmps) = true
          · refine ⟨AF.tmps.getD d undef, fun z => ?_, fun z => ?_⟩
            all_goals
              have hz := h z
              unfold wpQuiet at hz
              rw [if_pos hw] at hz
              obtain ⟨v, hv, hn⟩ := hz
              have e := walk_keepsH l _ hno hn
              rw [hdst, put_sameH hlt] at e
              have ev : AF.tmps.getD d undef = v := by rw [Array.getD_eq_getD_getElem?, e]; rfl
              rw [ev]
              first
                | exact .inl ⟨hw, hv⟩
                | exact hn
          · refine ⟨undef, fun z => .inr ⟨by simpa using hw, rfl⟩, fun z => ?_⟩
            have hz := h z
            unfold wpQuiet at hz
            rwa [if_neg hw] at hz
        obtain ⟨v, hy, hn⟩ := key
        rw [show (k :: ks).length + fuel = (ks.length + fuel) + 1 by simp; omega]
        exact wpAnyH_first h0 (by simpa using hS) (Region.noSelect_spec hs) (ks.length + fuel) listed z a (Region.free_spec h0 hf) (by simpa using hr) hy
          (ih l _ z _ hl.2 hB' (by rw [put_sizeH]; exact hd2) hn H)

/-- One operation alone may come up, and it is special: a value is there at once. -/
theorem wpAnyH_special {Q : Z → Act → Prop} {fuel i : Nat} {listed : Array Bool} {z : Z} {a : Act} {o : Oper} {d : Option Tmp} (hd : o.dst = d) (hr : Region.ready md ops listed = [i]) (hS : S i = true) (ho : ops[i]? = some o) (hw : Region.wanted o (yielded ops a.tmps) = true)
    (h : ∀ w, C z w → ∃ u w' z', ((execOp a.eval o).run P w = .ok (.value u) w' ∨ ((execOp a.eval o).run P w = .ok .skip w' ∧ u = undef)) ∧ C z' w' ∧ wpAnyH P md ops C S Q fuel (listed.setIfInBounds i true) z' (a.put d u)) :
    wpAnyH P md ops C S Q (fuel + 1) listed z a :=
  ⟨fun h0 => (by rw [hr] at h0; cases h0), fun j hj => by
    rw [hr] at hj
    obtain rfl : j = i := by simpa using hj
    unfold hOp
    rw [if_pos hS]
    subst hd
    refine ⟨o, ho, hw, fun w hc => ?_⟩
    obtain ⟨u, w', z', hrun, hc', hk⟩ := h w hc
    rcases hrun with hrun | ⟨hrun, rfl⟩
    · rw [hrun]; exact ⟨z', hc', hk⟩
    · rw [hrun]; exact ⟨z', hc', hk⟩⟩
/-- .. a call. -/
theorem wpAnyH_call {Q : Z → Act → Prop} {fuel i : Nat} {listed : Array Bool} {z : Z} {a : Act} {o : Oper} {d : Option Tmp} (f : FuncId) (args : Array Value) (hd : o.dst = d) (hr : Region.ready md ops listed = [i]) (hS : S i = true) (ho : ops[i]? = some o) (hw : Region.wanted o (yielded ops a.tmps) = true)
    (hrun : ∀ w, (execOp a.eval o).run P w = .ok (.enter f args) w)
    (h : ∀ w, C z w → Calls P f args w fun e w' => ∃ v, e = .returned v ∧ ∃ z', C z' w' ∧ wpAnyH P md ops C S Q fuel (listed.setIfInBounds i true) z' (a.put d v)) :
    wpAnyH P md ops C S Q (fuel + 1) listed z a :=
  ⟨fun h0 => (by rw [hr] at h0; cases h0), fun j hj => by
    rw [hr] at hj
    obtain rfl : j = i := by simpa using hj
    unfold hOp
    rw [if_pos hS]
    subst hd
    refine ⟨o, ho, hw, fun w hc => ?_⟩
    rw [hrun w]
    exact h w hc⟩
/-- One operation alone may come up: an assignment. -/
theorem wpAnyH_assign {Q : Z → Act → Prop} {fuel i : Nat} {listed : Array Bool} {z : Z} {a : Act} {o : Oper} {d : Option Tmp} (x : Operand) (hd : o.dst = d) (hr : Region.ready md ops listed = [i]) (hS : S i = false) (ho : ops[i]? = some o) (hw : Region.wanted o (yielded ops a.tmps) = true)
    (hx : o.op = .assign x) (h : wpAnyH P md ops C S Q fuel (listed.setIfInBounds i true) z (a.put d (a.eval x))) : wpAnyH P md ops C S Q (fuel + 1) listed z a :=
  ⟨fun h0 => (by rw [hr] at h0; cases h0), fun j hj => by
    rw [hr] at hj
    obtain rfl : j = i := by simpa using hj
    subst hd
    exact YieldsIn.hOp ho hS (.inl ⟨hw, fun w _ => by unfold Oper.quietAt; rw [BigFrame.run_assign x hx]; exact ⟨rfl, rfl⟩⟩) h⟩
/-- The region: the operations of 'is' are quiet in every class, the others follow by hand. -/
theorem wp_region_H {id : Nat} {l : List Oper} {Q : Exit → Act → World → Prop} {a AF : Act} {w : World} (is : List Nat) (z0 : Z) (hm : P.follows .mixedOrders = true) (hs : Region.noSelect l.toArray = true)
    (hH : headI .any l.toArray S is (Array.replicate l.toArray.size false) = true) (hA : agreeI l is (pickL l is)) (hd : dstsH (pickL l is) a.tmps.size = true) (hn : is.length ≤ l.length) (hC : C z0 w.drew)
    (h : ∀ z, wpQuiet P l.toArray (C z) (fun a' => a' = AF) (pickL l is) a)
    (H : wpAnyH P .any l.toArray C S (fun z a' => ∀ w', C z w' → Q .normal a' w') (l.length - is.length) (listedI is (Array.replicate l.toArray.size false)) z0 AF) :
    (Code.region id l.toArray true).wp P Q a w := by
  refine wp_region_any hm (wpAny_of_H (C := C) (S := S) (Q := fun z a' => ∀ w', C z w' → Q .normal a' w') (fun _ _ w' hc hq => hq w' hc) _ _ z0 _ _ hC ?_)
  have := wpAnyH_head (P := P) (md := .any) (L := l) (C := C) (S := S) hs (Q := fun z a' => ∀ w', C z w' → Q .normal a' w') z0 is (pickL l is) (Array.replicate l.toArray.size false) z0 a hA hH hd h H
  rwa [show is.length + (l.length - is.length) = l.toArray.size by simp; omega] at this
end
end Go.Proofs.YtiinifcepcaonaaDoor

/- append of one number inside a region that draws its order; a list of the call's own beside boxes. -/
namespace Go.Proofs.YtiinifcepcaonaaDoor
open Go.RowKit

theorem run_append_here {P : Program} {w : World} {o : Oper} {a : Act} (s x : Operand) (t : TypeId) (hop : o.op = .call { callee := .builtin .append, args := #[s, x], argTypes := #[t, t] })
    (base : Nat) (e : TypeId) (i : TypeInfo) (z : Value) (size bytes : Nat) (ht : P.underlying t = some (.slice e)) (hi : P.info? e = some i) (hz : i.zero = some z)
    (hsize : i.size = size) (hby : i.bytes = bytes) (hzs : z.cells.size = size) (hsz : 0 < size)
    (v : Value) (n : Nat) (xs : List Value) (hs : a.eval s = v) (hown : w.ownsRow base e size v n xs)
    (ad : Addr) (m c : Nat) (news : List Value) (hx : a.eval x = .slice (some ad) m c) (hl : news.length = m * size) (hnews : ∀ j u, news[j]? = some u → w.cell? (ad.add j) = some u) (h1 : ∀ u ∈ news, u.oneCell' = true)
    (h63 : n + m ≤ maxLen) (hbytes : (n + m) * bytes ≤ 140737488355328) (hbase : base ≤ w.heap.size) :
    ∃ v' w', (execOp a.eval o).run P w = .ok (.value v') w' ∧ w'.ownsRow base e size v' (n + m) (xs ++ news) ∧ w.grownBy w' v.ownBlock ∧ (v'.ownBlock = v.ownBlock ∨ v'.ownBlock = some w.heap.size) := by
  obtain ⟨v', w', hr, h2, h3, _, h5⟩ := run_append_own_at (P := P) w base t o.type e i z size bytes ht hi hz hsize hby hzs hsz v n xs hown ad m c news hl hnews h1 h63 hbytes hbase
  refine ⟨v', w', ?_, h2, h3, h5⟩
  unfold execOp
  simp only [hop, resolve, invoke, builtin, Sem.run_bind, Sem.run_pure, Result.andThen_ok, List.map_toArray, List.map_cons, List.map_nil, hs, hx, hr]

section
variable {ops : Array Oper} {md : Region.Mode} {Z : Type} {C : Z → World → Prop} {S : Nat → Bool}
/-- One operation alone may come up: one number is appended to an owned list. -/
theorem wpAnyH_app {Q : Z → Act → Prop} {fuel i : Nat} {listed : Array Bool} {z : Z} {a : Act} {o : Oper} {d : Option Tmp} {v : Value} {xs : List Int} {y : Int} {B N : Nat} (s x : Operand)
    (hd : o.dst = d) (hr : Region.ready md ops listed = [i]) (hS : S i = true) (ho : ops[i]? = some o) (hw : Region.wanted o (yielded ops a.tmps) = true)
    (hop : o.op = .call { callee := .builtin .append, args := #[s, x], argTypes := #[33, 33] }) (hs : a.eval s = v) (hx : a.eval x = .slice (some ⟨N, 0, none⟩) 1 1)
    (h : ∀ w, C z w → Own w B v xs ∧ xs.length < 1000000000 ∧ B ≤ w.heap.size ∧ Box w N [.int .i64 y] ∧ ∀ v' w', Own w' B v' (xs ++ [y]) → w.grownBy w' v.ownBlock → ∃ z', C z' w' ∧ wpAnyH Tryd.prog md ops C S Q fuel (listed.setIfInBounds i true) z' (a.put d v')) :
    wpAnyH Tryd.prog md ops C S Q (fuel + 1) listed z a := by
  refine wpAnyH_special hd hr hS ho hw fun w hc => ?_
  obtain ⟨h1, h2, h3, h4, h5⟩ := h w hc
  obtain ⟨i0, hi, hz0, hz1, hz2⟩ := info_parts infoInt
  obtain ⟨v', w', hr, k1, k2, _⟩ := run_append_here (P := Tryd.prog) (w := w) (o := o) (a := a) s x 33 hop B 3 i0 (.int .i64 0) 1 8 Tryd.underlying33 hi hz0 hz1 hz2 rfl (by decide) v xs.length _ hs h1 ⟨N, 0, none⟩ 1 1 [.int .i64 y] hx rfl
    (fun j u hj => by
      match j, hj with
      | 0, hj => simp at hj; subst hj; have := h4.cell 0; simpa [Addr.add] using this) (fun u hu => by simp at hu; subst hu; rfl) (by unfold maxLen; omega) (by omega) h3
  obtain ⟨z', hc', hk⟩ := h5 v' w' (by unfold Own; simpa using k1) k2
  exact ⟨v', w', z', .inl hr, hc', hk⟩
/-! -/
end
section
variable {P : Program} {md : Region.Mode} {Z : Type} {C : Z → World → Prop} {S : Nat → Bool}
/-- A quiet operation that has its value at once is taken now, whatever else may come up. -/
theorem wpAnyH_take {L : List Oper} {Q : Z → Act → Prop} {fuel i : Nat} {listed : Array Bool} {z : Z} {a : Act} {oi : Oper} {d : Option Tmp} (v : Value) (hd : oi.dst = d) (hsel : Region.noSelect L.toArray = true) (hS : S i = false) (hi : L.toArray[i]? = some oi) (hw : Region.wanted oi (yielded L.toArray a.tmps) = true)
    (hr : (Region.ready md L.toArray listed).contains i = true) (hf : Region.free md L.toArray listed i = true) (hrun : ∀ w, (execOp a.eval oi).run P w = .ok (.value v) w)
    (h : wpAnyH P md L.toArray C S Q fuel (listed.setIfInBounds i true) z (a.put d v)) : wpAnyH P md L.toArray C S Q (fuel + 1) listed z a := by
  subst hd
  exact wpAnyH_first hi hS (Region.noSelect_spec hsel) fuel listed z a (Region.free_spec hi hf) (by simpa using hr)
    (fun z => .inl ⟨hw, fun w _ => by unfold Oper.quietAt; rw [hrun w]; exact ⟨rfl, rfl⟩⟩) h
end

/-- Behind the boxes of W (blocks below B): a list of the call's own; the box of what is appended; the longer list. -/
def Kp (W : World) (B : Nat) (v : Value) (xs : List Int) (y : Int) : Option (Nat ⊕ Value) → World → Prop
  | none, w' => Below B W w' ∧ B ≤ w'.heap.size ∧ Own w' B v xs
  | some (.inl b), w' => Below B W w' ∧ B ≤ w'.heap.size ∧ Own w' B v xs ∧ Box w' b [.int .i64 y]
  | some (.inr v'), w' => Below B W w' ∧ B ≤ w'.heap.size ∧ Own w' B v' (xs ++ [y])
theorem Kp.below {W : World} {B : Nat} {v : Value} {xs : List Int} {y : Int} {z : Option (Nat ⊕ Value)} {w' : World} (h : Kp W B v xs y z w') : Below B W w' ∧ B ≤ w'.heap.size := by
  match z, h with
  | none, h => exact ⟨h.1, h.2.1⟩
  | some (.inl _), h => exact ⟨h.1, h.2.1⟩
  | some (.inr _), h => exact ⟨h.1, h.2.1⟩
theorem Kp.on {W : World} {B : Nat} {v : Value} {xs : List Int} {y : Int} {z : Option (Nat ⊕ Value)} {w1 w2 : World} (h : Kp W B v xs y z w1) (hb : Below w1.heap.size w1 w2) : Kp W B v xs y z w2 := by
  have h0 := h.below
  have a1 : Below B W w2 := h0.1.trans (hb.mono h0.2)
  have a2 : B ≤ w2.heap.size := Nat.le_trans h0.2 hb.size
  match z, h with
  | none, h => exact ⟨a1, a2, own_below h.2.2 hb⟩
  | some (.inl _), h => exact ⟨a1, a2, own_below h.2.2.1 hb, h.2.2.2.on hb⟩
  | some (.inr _), h => exact ⟨a1, a2, own_below h.2.2 hb⟩
theorem Kp.build {W : World} {B : Nat} {v : Value} {xs : List Int} {y : Int} {w1 : World} {T : TypeId} (h : Kp W B v xs y none w1) : Kp W B v xs y (some (.inl w1.heap.size)) (w1.alloc (.cells #[.int .i64 y] T)) := by
  have h2 := h.on (below_grow w1 (.cells #[.int .i64 y] T))
  exact ⟨h2.1, h2.2.1, h2.2.2, Box.made w1 [.int .i64 y] T⟩
theorem Kp.app {W : World} {B b : Nat} {v v' : Value} {xs : List Int} {y : Int} {w1 w2 : World} (h : Kp W B v xs y (some (.inl b)) w1) (ho : Own w2 B v' (xs ++ [y])) (hg : w1.grownBy w2 v.ownBlock) : Kp W B v xs y (some (.inr v')) w2 :=
  ⟨h.1.grown hg h.2.1 fun k hk => (h.2.2.1.lt k hk).1, Nat.le_trans h.2.1 hg.size, ho⟩
end Go.Proofs.YtiinifcepcaonaaDoor
