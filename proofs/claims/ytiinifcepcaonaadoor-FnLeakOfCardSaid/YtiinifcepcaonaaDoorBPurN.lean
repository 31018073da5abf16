/- PurB, PurL, in one text. -/
import Derived.Test.YtiinifcepcaonaaDoorBPure
/- Plain mathematics of chapter 10: notes and boards; no program. -/
namespace Go.Proofs.YtiinifcepcaonaaDoor

/-- A note: an element (on is -1), or a talk on one. -/
structure Nt where
  key : Int
  on : Int
  say : Int
  ask : Int
  tell : Int
instance : Inhabited Nt := ⟨⟨0, 0, 0, 0, 0⟩⟩
theorem Nt.ext' {a b : Nt} (h1 : a.key = b.key) (h2 : a.on = b.on) (h3 : a.say = b.say) (h4 : a.ask = b.ask) (h5 : a.tell = b.tell) : a = b := by
  cases a; cases b; simp only at h1 h2 h3 h4 h5; subst h1 h2 h3 h4 h5; rfl
def ntB (a b : Nt) : Bool := decide (a.key = b.key) && decide (a.on = b.on) && decide (a.say = b.say) && decide (a.ask = b.ask) && decide (a.tell = b.tell)
theorem ntB_true {a b : Nt} : ntB a b = true ↔ a = b := by
  unfold ntB
  simp only [Bool.and_eq_true, decide_eq_true_eq]
  exact ⟨fun ⟨⟨⟨⟨h1, h2⟩, h3⟩, h4⟩, h5⟩ => Nt.ext' h1 h2 h3 h4 h5, fun h => by subst h; exact ⟨⟨⟨⟨rfl, rfl⟩, rfl⟩, rfl⟩, rfl⟩⟩
theorem ntB_refl (a : Nt) : ntB a a = true := ntB_true.2 rfl
theorem ntB_symm (a b : Nt) : ntB a b = ntB b a := by
  rw [Bool.eq_iff_iff, ntB_true, ntB_true]; exact ⟨Eq.symm, Eq.symm⟩
def nthN (ns : List Nt) (k : Nat) : Nt := ns.getD k ⟨0, 0, 0, 0, 0⟩
theorem nthN_get {ns : List Nt} {k : Nat} (h : k < ns.length) : nthN ns k = ns[k] := by unfold nthN; rw [List.getD_eq_getElem?_getD, List.getElem?_eq_getElem h]; rfl
theorem nthN_mem {ns : List Nt} {k : Nat} (h : k < ns.length) : nthN ns k ∈ ns := by rw [nthN_get h]; exact List.getElem_mem _
theorem nthN_take {ns : List Nt} {j k : Nat} (h : j < k) : nthN (ns.take k) j = nthN ns j := by
  unfold nthN; rw [List.getD_eq_getElem?_getD, List.getD_eq_getElem?_getD, List.getElem?_take_of_lt h]
theorem nthN_app {ns : List Nt} {x : Nt} {j : Nat} (h : j < ns.length) : nthN (ns ++ [x]) j = nthN ns j := by
  unfold nthN; rw [List.getD_eq_getElem?_getD, List.getD_eq_getElem?_getD, List.getElem?_append_left h]
theorem nthN_last (ns : List Nt) (x : Nt) : nthN (ns ++ [x]) ns.length = x := by
  unfold nthN; rw [List.getD_eq_getElem?_getD, List.getElem?_append_right (Nat.le_refl _)]; simp
theorem take_succN {ns : List Nt} {k : Nat} (h : k < ns.length) : ns.take (k + 1) = ns.take k ++ [nthN ns k] := by
  rw [nthN_get h, List.take_succ_eq_append_getElem h]

/-- The elements among the notes, in their order. -/
def keysN (ns : List Nt) : List Int := (ns.filter fun n => decide (n.on = -1)).map Nt.key
theorem keysN_app (a b : List Nt) : keysN (a ++ b) = keysN a ++ keysN b := by unfold keysN; rw [List.filter_append, List.map_append]
theorem keysN_yes {ns : List Nt} {k : Nat} (h : k < ns.length) (ho : (nthN ns k).on = -1) : keysN (ns.take (k + 1)) = keysN (ns.take k) ++ [(nthN ns k).key] := by
  rw [take_succN h, keysN_app]; simp [keysN, ho]
theorem keysN_no {ns : List Nt} {k : Nat} (h : k < ns.length) (ho : (nthN ns k).on ≠ -1) : keysN (ns.take (k + 1)) = keysN (ns.take k) := by
  rw [take_succN h, keysN_app]; simp [keysN, ho]
theorem keysN_len (ns : List Nt) : (keysN ns).length ≤ ns.length := by unfold keysN; rw [List.length_map]; exact List.length_filter_le _ _
theorem keysN_pre (ns : List Nt) (k : Nat) : ∃ r, keysN ns = keysN (ns.take k) ++ r := ⟨keysN (ns.drop k), by rw [← keysN_app, List.take_append_drop]⟩
theorem keysN_nth {ns : List Nt} {k j : Nat} (h : j < (keysN (ns.take k)).length) : j < (keysN ns).length ∧ nth (keysN ns) j = nth (keysN (ns.take k)) j := by
  obtain ⟨r, hr⟩ := keysN_pre ns k
  refine ⟨by rw [hr, List.length_append]; omega, ?_⟩
  unfold nth
  rw [hr, List.getD_eq_getElem?_getD, List.getD_eq_getElem?_getD, List.getElem?_append_left h]
theorem keysN_mem {ns : List Nt} {x : Int} : x ∈ keysN ns ↔ ∃ n, n ∈ ns ∧ n.on = -1 ∧ n.key = x := by
  unfold keysN; simp [List.mem_map, List.mem_filter, and_assoc]

/-! ### which note may stand behind a board -/
def hasN (ns : List Nt) (n : Nt) : Bool := ns.any (ntB n)
theorem hasN_true {ns : List Nt} {n : Nt} : hasN ns n = true ↔ n ∈ ns := by
  unfold hasN; rw [List.any_eq_true]
  exact ⟨fun ⟨x, hx, h⟩ => by rw [ntB_true.1 h]; exact hx, fun h => ⟨n, h, ntB_refl n⟩⟩
def NotN (ns : List Nt) (n : Nt) (k : Nat) : Prop := ∀ j, j < k → ntB (nthN ns j) n = false
theorem NotN.zero (ns : List Nt) (n : Nt) : NotN ns n 0 := fun _ h => by omega
theorem NotN.succ {ns : List Nt} {n : Nt} {k : Nat} (h : NotN ns n k) (hk : ntB (nthN ns k) n = false) : NotN ns n (k + 1) := fun j hj => by
  by_cases e : j = k
  · rw [e]; exact hk
  · exact h j (by omega)
theorem hasN_yes {ns : List Nt} {n : Nt} {k : Nat} (h : k < ns.length) (he : ntB (nthN ns k) n = true) : hasN ns n = true := by
  rw [hasN_true, ← ntB_true.1 he]; exact nthN_mem h
theorem hasN_no {ns : List Nt} {n : Nt} (h : NotN ns n ns.length) : hasN ns n = false := by
  cases hh : hasN ns n
  · rfl
  · obtain ⟨k, hk, e⟩ := List.getElem_of_mem (hasN_true.1 hh)
    have := h k hk
    rw [nthN_get hk, e, ntB_refl] at this
    cases this
def zerB (n : Nt) : Bool := decide (n.say = 0) && decide (n.ask = 0) && decide (n.tell = 0)
theorem zerB_true {n : Nt} : zerB n = true ↔ n.say = 0 ∧ n.ask = 0 ∧ n.tell = 0 := by unfold zerB; simp [and_assoc]
/-- A talk on an element of a board. -/
def onB (g : Int) (ns : List Nt) (n : Nt) : Bool := decide (n.key = 0) && (decide (0 ≤ n.on) && decide (n.on < ((keysN ns).length : Int))) && tokB g (nth (keysN ns) n.on.toNat) n.say n.ask n.tell
def fitB (g : Int) (ns : List Nt) (n : Nt) : Bool := !hasN ns n && (if n.on = -1 then elB g n.key && zerB n else onB g ns n)
theorem fit_has {g : Int} {ns : List Nt} {n : Nt} (h : hasN ns n = true) : fitB g ns n = false := by simp [fitB, h]
theorem fit_key {g : Int} {ns : List Nt} {n : Nt} (h : hasN ns n = false) (ho : n.on = -1) : fitB g ns n = (elB g n.key && zerB n) := by simp [fitB, h, ho]
theorem fit_on {g : Int} {ns : List Nt} {n : Nt} (h : hasN ns n = false) (ho : n.on ≠ -1) : fitB g ns n = onB g ns n := by simp [fitB, h, ho]
theorem fit_group {g : Int} {ns : List Nt} {n : Nt} (h : fitB g ns n = true) : 0 ≤ g ∧ g < 4 := by
  unfold fitB at h
  simp only [Bool.and_eq_true] at h
  obtain ⟨_, h⟩ := h
  by_cases ho : n.on = -1
  · rw [if_pos ho] at h
    simp only [Bool.and_eq_true] at h
    exact elB_group h.1
  · rw [if_neg ho] at h
    unfold onB at h
    simp only [Bool.and_eq_true] at h
    exact elB_group (tok_yes.1 h.2).1
/-- The first k notes fit, each behind those before it. -/
def FitTo (g : Int) (ns : List Nt) (k : Nat) : Prop := ∀ j, j < k → fitB g (ns.take j) (nthN ns j) = true
theorem FitTo.zero (g : Int) (ns : List Nt) : FitTo g ns 0 := fun _ h => by omega
theorem FitTo.succ {g : Int} {ns : List Nt} {k : Nat} (h : FitTo g ns k) (hk : fitB g (ns.take k) (nthN ns k) = true) : FitTo g ns (k + 1) := fun j hj => by
  by_cases e : j = k
  · rw [e]; exact hk
  · exact h j (by omega)
def fitsB (g : Int) (ns : List Nt) : Bool := (List.range ns.length).all fun j => fitB g (ns.take j) (nthN ns j)
theorem fitsB_true {g : Int} {ns : List Nt} : fitsB g ns = true ↔ FitTo g ns ns.length := by
  unfold fitsB FitTo; rw [List.all_eq_true]; simp
def brdB (g : Int) (ns : List Nt) : Bool := gok g && decide (ns.length ≤ 12) && fitsB g ns
theorem brd_true {g : Int} {ns : List Nt} : brdB g ns = true ↔ (0 ≤ g ∧ g < 4) ∧ ns.length ≤ 12 ∧ FitTo g ns ns.length := by
  unfold brdB; rw [Bool.and_eq_true, Bool.and_eq_true, gok_true, decide_eq_true_eq, fitsB_true, and_assoc]
theorem brd_no {g : Int} {ns : List Nt} {k : Nat} (h : k < ns.length) (hk : fitB g (ns.take k) (nthN ns k) = false) : brdB g ns = false := by
  cases hb : brdB g ns
  · rfl
  · have := (brd_true.1 hb).2.2 k h; rw [hk] at this; cases this
theorem brd_len {g : Int} {ns : List Nt} (h : ¬ ns.length ≤ 12) : brdB g ns = false := by
  cases hb : brdB g ns
  · rfl
  · exact absurd (brd_true.1 hb).2.1 h
theorem brd_gok {g : Int} {ns : List Nt} (h : gok g = false) : brdB g ns = false := by simp [brdB, h]
theorem brd_fits {g : Int} {ns : List Nt} (h : FitTo g ns ns.length) : brdB g ns = (gok g && decide (ns.length ≤ 12)) := by
  unfold brdB; rw [fitsB_true.2 h, Bool.and_true]
theorem FitTo.take {g : Int} {ns : List Nt} {k m : Nat} (h : FitTo g ns k) (hm : k ≤ m) : FitTo g (ns.take m) k := fun j hj => by
  rw [List.take_take, nthN_take (by omega), show min j m = j by omega]; exact h j hj
/-- P85: without its last notes a board is one. -/
theorem brd_take {g : Int} {ns : List Nt} (h : brdB g ns = true) (k : Nat) : brdB g (ns.take k) = true := by
  obtain ⟨h1, h2, h3⟩ := brd_true.1 h
  refine brd_true.2 ⟨h1, by rw [List.length_take]; omega, fun j hj => ?_⟩
  rw [List.length_take] at hj
  rw [List.take_take, nthN_take (by omega), show min j k = j by omega]; exact h3 j (by omega)
theorem brd_app {g : Int} {ns : List Nt} {n : Nt} (h : brdB g ns = true) (hl : ns.length < 12) (hf : fitB g ns n = true) : brdB g (ns ++ [n]) = true := by
  obtain ⟨h1, h2, h3⟩ := brd_true.1 h
  refine brd_true.2 ⟨h1, by simp; omega, fun j hj => ?_⟩
  simp at hj
  by_cases e : j = ns.length
  · rw [e, nthN_last, List.take_left]; exact hf
  · rw [nthN_app (by omega), List.take_append_of_le_length (by omega)]; exact h3 j (by omega)
theorem brd_nil {g : Int} (h0 : 0 ≤ g) (h4 : g < 4) : brdB g [] = true := brd_true.2 ⟨⟨h0, h4⟩, by simp, fun j hj => by simp at hj⟩
/-- P85: each talk on a board is right for its element. -/
theorem brd_talk {g : Int} {ns : List Nt} (h : brdB g ns = true) {k : Nat} (hk : k < ns.length) :
    (nthN ns k).on = -1 ∨ (0 ≤ (nthN ns k).on ∧ (nthN ns k).on < ((keysN ns).length : Int) ∧ tokB g (nth (keysN ns) (nthN ns k).on.toNat) (nthN ns k).say (nthN ns k).ask (nthN ns k).tell = true) := by
  have hf := (brd_true.1 h).2.2 k hk
  unfold fitB at hf
  simp only [Bool.and_eq_true] at hf
  by_cases ho : (nthN ns k).on = -1
  · exact .inl ho
  · rw [if_neg ho] at hf
    unfold onB at hf
    simp only [Bool.and_eq_true, decide_eq_true_eq] at hf
    obtain ⟨_, ⟨_, h1, h2⟩, h3⟩ := hf
    obtain ⟨a, b⟩ := keysN_nth (ns := ns) (k := k) (j := (nthN ns k).on.toNat) (by omega)
    exact .inr ⟨h1, by omega, by rw [b]; exact h3⟩
theorem brd_key {g : Int} {ns : List Nt} (h : brdB g ns = true) {k : Nat} (hk : k < ns.length) (ho : (nthN ns k).on = -1) : elB g (nthN ns k).key = true ∧ zerB (nthN ns k) = true := by
  have hf := (brd_true.1 h).2.2 k hk
  unfold fitB at hf
  simp only [Bool.and_eq_true] at hf
  rw [if_pos ho] at hf
  simpa using hf.2
/-- P87: the elements of a board are such, and none stands twice. -/
theorem brd_keys {g : Int} {ns : List Nt} (h : brdB g ns = true) : ∀ x, x ∈ keysN ns → elB g x = true := fun x hx => by
  obtain ⟨n, hn, ho, rfl⟩ := keysN_mem.1 hx
  obtain ⟨k, hk, rfl⟩ := List.getElem_of_mem hn
  have := brd_key h hk (by rw [nthN_get hk]; exact ho)
  rw [nthN_get hk] at this
  exact this.1
theorem brd_nodupTo {g : Int} {ns : List Nt} (h : brdB g ns = true) : ∀ k, k ≤ ns.length → (keysN (ns.take k)).Nodup
  | 0, _ => by simp [keysN]
  | k + 1, hk => by
    have ih := brd_nodupTo h k (by omega)
    by_cases ho : (nthN ns k).on = -1
    · rw [keysN_yes hk ho]
      refine List.nodup_append.2 ⟨ih, by simp, fun x hx y hy => ?_⟩
      simp at hy
      subst hy
      intro e
      obtain ⟨n, hn, hno, hnk⟩ := keysN_mem.1 hx
      obtain ⟨j, hj, hjn⟩ := List.getElem_of_mem (List.mem_of_mem_take hn)
      have hjk : j < ns.length := hj
      have z1 := (brd_key h hjk (by rw [nthN_get hjk, hjn]; exact hno)).2
      have z2 := (brd_key h hk ho).2
      rw [nthN_get hjk, hjn] at z1
      obtain ⟨a1, a2, a3⟩ := zerB_true.1 z1
      obtain ⟨b1, b2, b3⟩ := zerB_true.1 z2
      have en : n = nthN ns k := Nt.ext' (by rw [hnk, e]) (by rw [hno, ho]) (by rw [a1, b1]) (by rw [a2, b2]) (by rw [a3, b3])
      have hf := (brd_true.1 h).2.2 k hk
      rw [en] at hn
      rw [fit_has (hasN_true.2 hn)] at hf
      cases hf
    · rw [keysN_no hk ho]; exact ih
theorem brd_nodup {g : Int} {ns : List Nt} (h : brdB g ns = true) : (keysN ns).Nodup := by
  have := brd_nodupTo h ns.length (Nat.le_refl _); rwa [List.take_length] at this
end Go.Proofs.YtiinifcepcaonaaDoor

/- Plain mathematics of chapter 10: what two talks on a board tell; no program. -/
namespace Go.Proofs.YtiinifcepcaonaaDoor

/-- Two talks with the same Say and different Ask. -/
def prS (x y : Nt) : Bool := decide (x.say = y.say) && decide (x.ask ≠ y.ask)
theorem prS_true {x y : Nt} : prS x y = true ↔ x.say = y.say ∧ x.ask ≠ y.ask := by unfold prS; simp
theorem prS_symm (x y : Nt) : prS x y = prS y x := by
  rw [Bool.eq_iff_iff, prS_true, prS_true]; exact ⟨fun ⟨a, b⟩ => ⟨a.symm, fun e => b e.symm⟩, fun ⟨a, b⟩ => ⟨a.symm, fun e => b e.symm⟩⟩
theorem prS_self (x : Nt) : prS x x = false := by unfold prS; simp
def onN (on : Int) (ns : List Nt) : List Nt := ns.filter fun n => decide (n.on = on)
theorem onN_yes {on : Int} {ns : List Nt} {k : Nat} (h : k < ns.length) (ho : (nthN ns k).on = on) : onN on (ns.take (k + 1)) = onN on (ns.take k) ++ [nthN ns k] := by
  rw [take_succN h]; unfold onN; rw [List.filter_append]; simp [ho]
theorem onN_no {on : Int} {ns : List Nt} {k : Nat} (h : k < ns.length) (ho : (nthN ns k).on ≠ on) : onN on (ns.take (k + 1)) = onN on (ns.take k) := by
  rw [take_succN h]; unfold onN; rw [List.filter_append]; simp [ho]
theorem onN_len (on : Int) (ns : List Nt) : (onN on ns).length ≤ ns.length := List.length_filter_le _ _
theorem onN_mem {on : Int} {ns : List Nt} {x : Nt} : x ∈ onN on ns ↔ x ∈ ns ∧ x.on = on := by unfold onN; simp [List.mem_filter]
/-- Two of a list of talks tell. -/
def twoB (T : List Nt) : Bool := T.any fun x => T.any fun y => prS x y
theorem twoB_true {T : List Nt} : twoB T = true ↔ ∃ x, x ∈ T ∧ ∃ y, y ∈ T ∧ prS x y = true := by
  unfold twoB; simp only [List.any_eq_true]
theorem two_hit {T : List Nt} {i j : Nat} (hi : i < T.length) (hj : j < T.length) (h : prS (nthN T i) (nthN T j) = true) : twoB T = true := twoB_true.2 ⟨_, nthN_mem hi, _, nthN_mem hj, h⟩
/-- No two of the first k tell. -/
def NoP (T : List Nt) (k : Nat) : Prop := ∀ i, i < k → ∀ j, j < i → prS (nthN T i) (nthN T j) = false
def NoQ (T : List Nt) (i m : Nat) : Prop := ∀ j, j < m → prS (nthN T i) (nthN T j) = false
theorem NoP.zero (T : List Nt) : NoP T 0 := fun _ h => by omega
theorem NoQ.zero (T : List Nt) (i : Nat) : NoQ T i 0 := fun _ h => by omega
theorem NoQ.succ {T : List Nt} {i m : Nat} (h : NoQ T i m) (hm : prS (nthN T i) (nthN T m) = false) : NoQ T i (m + 1) := fun j hj => by
  by_cases e : j = m
  · rw [e]; exact hm
  · exact h j (by omega)
theorem NoP.succ {T : List Nt} {k : Nat} (h : NoP T k) (hk : NoQ T k k) : NoP T (k + 1) := fun i hi => by
  by_cases e : i = k
  · rw [e]; exact hk
  · exact h i (by omega)
theorem two_miss {T : List Nt} (h : NoP T T.length) : twoB T = false := by
  cases ht : twoB T
  · rfl
  · obtain ⟨x, hx, y, hy, hp⟩ := twoB_true.1 ht
    obtain ⟨i, hi, rfl⟩ := List.getElem_of_mem hx
    obtain ⟨j, hj, rfl⟩ := List.getElem_of_mem hy
    rcases Nat.lt_trichotomy i j with hl | he | hl
    · have := h j hj i hl
      rw [nthN_get hi, nthN_get hj, prS_symm, hp] at this; cases this
    · subst he
      rw [prS_self] at hp; cases hp
    · have := h i hi j hl
      rw [nthN_get hi, nthN_get hj, hp] at this; cases this
/-- The same, where all notes are looked through and those on the element alone are compared. -/
def prO (on : Int) (x y : Nt) : Bool := decide (x.on = on) && decide (y.on = on) && prS x y
theorem two_onHit {on : Int} {ns : List Nt} {i j : Nat} (hi : i < ns.length) (hj : j < ns.length) (h1 : (nthN ns i).on = on) (h2 : (nthN ns j).on = on) (h : prS (nthN ns i) (nthN ns j) = true) : twoB (onN on ns) = true :=
  twoB_true.2 ⟨_, onN_mem.2 ⟨nthN_mem hi, h1⟩, _, onN_mem.2 ⟨nthN_mem hj, h2⟩, h⟩
def NoR (on : Int) (ns : List Nt) (k : Nat) : Prop := ∀ i, i < k → ∀ j, j < i → (nthN ns i).on = on → (nthN ns j).on = on → prS (nthN ns i) (nthN ns j) = false
def NoT (on : Int) (ns : List Nt) (i m : Nat) : Prop := ∀ j, j < m → (nthN ns i).on = on → (nthN ns j).on = on → prS (nthN ns i) (nthN ns j) = false
theorem NoR.zero (on : Int) (ns : List Nt) : NoR on ns 0 := fun _ h => by omega
theorem NoT.zero (on : Int) (ns : List Nt) (i : Nat) : NoT on ns i 0 := fun _ h => by omega
theorem NoT.succ {on : Int} {ns : List Nt} {i m : Nat} (h : NoT on ns i m) (hm : (nthN ns i).on = on → (nthN ns m).on = on → prS (nthN ns i) (nthN ns m) = false) : NoT on ns i (m + 1) := fun j hj => by
  by_cases e : j = m
  · rw [e]; exact hm
  · exact h j (by omega)
theorem NoR.succ {on : Int} {ns : List Nt} {k : Nat} (h : NoR on ns k) (hk : NoT on ns k k) : NoR on ns (k + 1) := fun i hi => by
  by_cases e : i = k
  · rw [e]; exact hk
  · exact h i (by omega)
theorem two_onMiss {on : Int} {ns : List Nt} (h : NoR on ns ns.length) : twoB (onN on ns) = false := by
  cases ht : twoB (onN on ns)
  · rfl
  · obtain ⟨x, hx, y, hy, hp⟩ := twoB_true.1 ht
    obtain ⟨hx, ox⟩ := onN_mem.1 hx
    obtain ⟨hy, oy⟩ := onN_mem.1 hy
    obtain ⟨i, hi, rfl⟩ := List.getElem_of_mem hx
    obtain ⟨j, hj, rfl⟩ := List.getElem_of_mem hy
    rcases Nat.lt_trichotomy i j with hl | he | hl
    · have := h j hj i hl (by rw [nthN_get hj]; exact oy) (by rw [nthN_get hi]; exact ox)
      rw [nthN_get hi, nthN_get hj, prS_symm, hp] at this; cases this
    · subst he
      rw [prS_self] at hp; cases hp
    · have := h i hi j hl (by rw [nthN_get hi]; exact ox) (by rw [nthN_get hj]; exact oy)
      rw [nthN_get hi, nthN_get hj, hp] at this; cases this
def onOk (g : Int) (ns : List Nt) (on : Int) : Bool := brdB g ns && (decide (0 ≤ on) && decide (on < ((keysN ns).length : Int)))
def lekB (g : Int) (ns : List Nt) (on : Int) : Bool := onOk g ns on && twoB (onN on ns)
def lekV (g : Int) (ns : List Nt) (on : Int) : Int := if lekB g ns on then glog g (bas g) (nth (keysN ns) on.toNat) else -1
theorem onOk_true {g : Int} {ns : List Nt} {on : Int} : onOk g ns on = true ↔ brdB g ns = true ∧ 0 ≤ on ∧ on < ((keysN ns).length : Int) := by unfold onOk; simp
/-- A talk on an element of a board is right for it. -/
theorem brd_on {g : Int} {ns : List Nt} {on : Int} (h : brdB g ns = true) (h0 : 0 ≤ on) {k : Nat} (hk : k < ns.length) (ho : (nthN ns k).on = on) : tokB g (nth (keysN ns) on.toNat) (nthN ns k).say (nthN ns k).ask (nthN ns k).tell = true := by
  rcases brd_talk h hk with e | ⟨_, _, e⟩
  · omega
  · rw [ho] at e; exact e
theorem brd_nthEl {g : Int} {ns : List Nt} (h : brdB g ns = true) {j : Nat} (hj : j < (keysN ns).length) : elB g (nth (keysN ns) j) = true := brd_keys h _ (nth_mem hj)
/-- Whatever two talks tell is the exponent of the element. -/
theorem secret_log {g key say a1 t1 a2 t2 : Int} (h1 : tokB g key say a1 t1 = true) (h2 : tokB g key say a2 t2 = true) (hne : a1 ≠ a2) : secretOf g a1 t1 a2 t2 = glog g (bas g) key := by
  obtain ⟨hx, hk⟩ := secret_key h1 h2 hne
  rw [← hk, key_log hx]
/-- P48. -/
theorem lek_key {g : Int} {ns : List Nt} {on : Int} (h : lekB g ns on = true) : keyOf g (lekV g ns on) = nth (keysN ns) on.toNat := by
  have h' := h
  unfold lekB at h
  rw [Bool.and_eq_true] at h
  obtain ⟨hb, h0, h1⟩ := onOk_true.1 h.1
  have he := brd_nthEl hb (j := on.toNat) (by omega)
  unfold lekV
  rw [if_pos h', key_yes (glog_ex he), el_gp he]
theorem lek_no {g : Int} {ns : List Nt} {on : Int} (h : lekB g ns on = false) : lekV g ns on = -1 := by unfold lekV; rw [h]; rfl
theorem lek_yes {g : Int} {ns : List Nt} {on : Int} (h : lekB g ns on = true) : lekV g ns on = glog g (bas g) (nth (keysN ns) on.toNat) := by unfold lekV; rw [h]; rfl
theorem onN_tok {g : Int} {ns : List Nt} {on : Int} (h : brdB g ns = true) (h0 : 0 ≤ on) {k : Nat} (hk : k < (onN on ns).length) : tokB g (nth (keysN ns) on.toNat) (nthN (onN on ns) k).say (nthN (onN on ns) k).ask (nthN (onN on ns) k).tell = true := by
  obtain ⟨hm, ho⟩ := onN_mem.1 (nthN_mem hk)
  obtain ⟨j, hj, e⟩ := List.getElem_of_mem hm
  have := brd_on h h0 hj (by rw [nthN_get hj, e]; exact ho)
  rw [nthN_get hj, e] at this
  exact this
theorem prS_of {x y : Nt} (h : prS x y = true) : x.say = y.say ∧ x.ask ≠ y.ask := prS_true.1 h
def konL (g : Int) (ns : List Nt) : List Int := if brdB g ns then keysN ns else []
theorem konL_yes {g : Int} {ns : List Nt} (h : brdB g ns = true) : konL g ns = keysN ns := by unfold konL; rw [h]; rfl
theorem konL_no {g : Int} {ns : List Nt} (h : brdB g ns = false) : konL g ns = [] := by unfold konL; rw [h]; rfl
theorem konL_len (g : Int) (ns : List Nt) : (konL g ns).length ≤ 12 := by
  cases h : brdB g ns
  · rw [konL_no h]; simp
  · rw [konL_yes h]; exact Nat.le_trans (keysN_len ns) (brd_true.1 h).2.1
theorem lek_notOk {g : Int} {ns : List Nt} {on : Int} (h : onOk g ns on = false) : lekB g ns on = false := by unfold lekB; rw [h]; rfl
theorem lek_ok {g : Int} {ns : List Nt} {on : Int} (h : onOk g ns on = true) : lekB g ns on = twoB (onN on ns) := by unfold lekB; rw [h]; rfl
theorem ok_brd {g : Int} {ns : List Nt} {on : Int} (h : brdB g ns = false) : onOk g ns on = false := by unfold onOk; rw [h]; rfl
end Go.Proofs.YtiinifcepcaonaaDoor
