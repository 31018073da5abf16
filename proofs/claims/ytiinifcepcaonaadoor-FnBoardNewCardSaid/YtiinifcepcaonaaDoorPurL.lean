/- Plain mathematics of chapter 10: what two talks on a board tell; no program. -/
import Derived.Test.YtiinifcepcaonaaDoorPurB
namespace Go.Proofs.YtiinifcepcaonaaDoor

/-- Two talks with the same Say and different Ask. -/
def prS (x y : Nt) : Bool := decide (x.say = y.say) && decide (x.ask ≠ y.ask)
theorem prS_true {x y : Nt} : prS x y = true ↔ x.say = y.say ∧ x.ask ≠ y.ask := by unfold prS; simp
theorem prS_symm (x y : Nt) : prS x y = prS y x := by
  rw [Bool.eq_iff_iff, prS_true, prS_true]; exact ⟨fun ⟨a, b⟩ => ⟨a.symm, fun e => b e.symm⟩, fun ⟨a, b⟩ => ⟨a.symm, fun e => b e.symm⟩⟩
theorem prS_self (x : Nt) : prS x x = false := by unfold prS; simp
def onN (on : Int) (ns : List Nt) : List Nt := ns.filter fun n => decide (n.on = on)
theorem onN_yes {on : Int} {ns : List Nt} {k : Nat} (h : k < ns.length) (ho : (nthN ns k).on = on) : onN on (ns.take (k + 1)) = onN on (ns.take k) ++ [nthN ns k] := by
  rw [take_succN h]; unfold onN; rw [List.filter_append]; simp [ho]
theorem onN_no {on : Int} {ns : List Nt} {k : Nat} (h : k < ns.length) (ho : (nthN ns k).on ≠ on) : onN on (ns.take (k + 1)) = onN on (ns.take k) := by
  rw [take_succN h]; unfold onN; rw [List.filter_append]; simp [ho]
theorem onN_len (on : Int) (ns : List Nt) : (onN on ns).length ≤ ns.length := List.length_filter_le _ _
theorem onN_mem {on : Int} {ns : List Nt} {x : Nt} : x ∈ onN on ns ↔ x ∈ ns ∧ x.on = on := by unfold onN; simp [List.mem_filter]
/-- Two of a list of talks tell. -/
def twoB (T : List Nt) : Bool := T.any fun x => T.any fun y => prS x y
theorem twoB_true {T : List Nt} : twoB T = true ↔ ∃ x, x ∈ T ∧ ∃ y, y ∈ T ∧ prS x y = true := by
  unfold twoB; simp only [List.any_eq_true]
theorem two_hit {T : List Nt} {i j : Nat} (hi : i < T.length) (hj : j < T.length) (h : prS (nthN T i) (nthN T j) = true) : twoB T = true := twoB_true.2 ⟨_, nthN_mem hi, _, nthN_mem hj, h⟩
/-- No two of the first k tell. -/
def NoP (T : List Nt) (k : Nat) : Prop := ∀ i, i < k → ∀ j, j < i → prS (nthN T i) (nthN T j) = false
def NoQ (T : List Nt) (i m : Nat) : Prop := ∀ j, j < m → prS (nthN T i) (nthN T j) = false
theorem NoP.zero (T : List Nt) : NoP T 0 := fun _ h => by omega
theorem NoQ.zero (T : List Nt) (i : Nat) : NoQ T i 0 := fun _ h => by omega
theorem NoQ.succ {T : List Nt} {i m : Nat} (h : NoQ T i m) (hm : prS (nthN T i) (nthN T m) = false) : NoQ T i (m + 1) := fun j hj => by
  by_cases e : j = m
  · rw [e]; exact hm
  · exact h j (by omega)
theorem NoP.succ {T : List Nt} {k : Nat} (h : NoP T k) (hk : NoQ T k k) : NoP T (k + 1) := fun i hi => by
  by_cases e : i = k
  · rw [e]; exact hk
  · exact h i (by omega)
theorem two_miss {T : List Nt} (h : NoP T T.length) : twoB T = false := by
  cases ht : twoB T
  · rfl
  · obtain ⟨x, hx, y, hy, hp⟩ := twoB_true.1 ht
    obtain ⟨i, hi, rfl⟩ := List.getElem_of_mem hx
    obtain ⟨j, hj, rfl⟩ := List.getElem_of_mem hy
    rcases Nat.lt_trichotomy i j with hl | he | hl
    · have := h j hj i hl
      rw [nthN_get hi, nthN_get hj, prS_symm, hp] at this; cases this
    · subst he
      rw [prS_self] at hp; cases hp
    · have := h i hi j hl
      rw [nthN_get hi, nthN_get hj, hp] at this; cases this
/-- The same, where all notes are looked through and those on the element alone are compared. -/
def prO (on : Int) (x y : Nt) : Bool := decide (x.on = on) && decide (y.on = on) && prS x y
theorem two_onHit {on : Int} {ns : List Nt} {i j : Nat} (hi : i < ns.length) (hj : j < ns.length) (h1 : (nthN ns i).on = on) (h2 : (nthN ns j).on = on) (h : prS (nthN ns i) (nthN ns j) = true) : twoB (onN on ns) = true :=
  twoB_true.2 ⟨_, onN_mem.2 ⟨nthN_mem hi, h1⟩, _, onN_mem.2 ⟨nthN_mem hj, h2⟩, h⟩
def NoR (on : Int) (ns : List Nt) (k : Nat) : Prop := ∀ i, i < k → ∀ j, j < i → (nthN ns i).on = on → (nthN ns j).on = on → prS (nthN ns i) (nthN ns j) = false
def NoT (on : Int) (ns : List Nt) (i m : Nat) : Prop := ∀ j, j < m → (nthN ns i).on = on → (nthN ns j).on = on → prS (nthN ns i) (nthN ns j) = false
theorem NoR.zero (on : Int) (ns : List Nt) : NoR on ns 0 := fun _ h => by omega
theorem NoT.zero (on : Int) (ns : List Nt) (i : Nat) : NoT on ns i 0 := fun _ h => by omega
theorem NoT.succ {on : Int} {ns : List Nt} {i m : Nat} (h : NoT on ns i m) (hm : (nthN ns i).on = on → (nthN ns m).on = on → prS (nthN ns i) (nthN ns m) = false) : NoT on ns i (m + 1) := fun j hj => by
  by_cases e : j = m
  · rw [e]; exact hm
  · exact h j (by omega)
theorem NoR.succ {on : Int} {ns : List Nt} {k : Nat} (h : NoR on ns k) (hk : NoT on ns k k) : NoR on ns (k + 1) := fun i hi => by
  by_cases e : i = k
  · rw [e]; exact hk
  · exact h i (by omega)
theorem two_onMiss {on : Int} {ns : List Nt} (h : NoR on ns ns.length) : twoB (onN on ns) = false := by
  cases ht : twoB (onN on ns)
  · rfl
  · obtain ⟨x, hx, y, hy, hp⟩ := twoB_true.1 ht
    obtain ⟨hx, ox⟩ := onN_mem.1 hx
    obtain ⟨hy, oy⟩ := onN_mem.1 hy
    obtain ⟨i, hi, rfl⟩ := List.getElem_of_mem hx
    obtain ⟨j, hj, rfl⟩ := List.getElem_of_mem hy
    rcases Nat.lt_trichotomy i j with hl | he | hl
    · have := h j hj i hl (by rw [nthN_get hj]; exact oy) (by rw [nthN_get hi]; exact ox)
      rw [nthN_get hi, nthN_get hj, prS_symm, hp] at this; cases this
    · subst he
      rw [prS_self] at hp; cases hp
    · have := h i hi j hl (by rw [nthN_get hi]; exact ox) (by rw [nthN_get hj]; exact oy)
      rw [nthN_get hi, nthN_get hj, hp] at this; cases this
def onOk (g : Int) (ns : List Nt) (on : Int) : Bool := brdB g ns && (decide (0 ≤ on) && decide (on < ((keysN ns).length : Int)))
def lekB (g : Int) (ns : List Nt) (on : Int) : Bool := onOk g ns on && twoB (onN on ns)
def lekV (g : Int) (ns : List Nt) (on : Int) : Int := if lekB g ns on then glog g (bas g) (nth (keysN ns) on.toNat) else -1
theorem onOk_true {g : Int} {ns : List Nt} {on : Int} : onOk g ns on = true ↔ brdB g ns = true ∧ 0 ≤ on ∧ on < ((keysN ns).length : Int) := by unfold onOk; simp
/-- A talk on an element of a board is right for it. -/
theorem brd_on {g : Int} {ns : List Nt} {on : Int} (h : brdB g ns = true) (h0 : 0 ≤ on) {k : Nat} (hk : k < ns.length) (ho : (nthN ns k).on = on) : tokB g (nth (keysN ns) on.toNat) (nthN ns k).say (nthN ns k).ask (nthN ns k).tell = true := by
  rcases brd_talk h hk with e | ⟨_, _, e⟩
  · omega
  · rw [ho] at e; exact e
theorem brd_nthEl {g : Int} {ns : List Nt} (h : brdB g ns = true) {j : Nat} (hj : j < (keysN ns).length) : elB g (nth (keysN ns) j) = true := brd_keys h _ (nth_mem hj)
/-- Whatever two talks tell is the exponent of the element. -/
theorem secret_log {g key say a1 t1 a2 t2 : Int} (h1 : tokB g key say a1 t1 = true) (h2 : tokB g key say a2 t2 = true) (hne : a1 ≠ a2) : secretOf g a1 t1 a2 t2 = glog g (bas g) key := by
  obtain ⟨hx, hk⟩ := secret_key h1 h2 hne
  rw [← hk, key_log hx]
/-- P48. -/
theorem lek_key {g : Int} {ns : List Nt} {on : Int} (h : lekB g ns on = true) : keyOf g (lekV g ns on) = nth (keysN ns) on.toNat := by
  have h' := h
  unfold lekB at h
  rw [Bool.and_eq_true] at h
  obtain ⟨hb, h0, h1⟩ := onOk_true.1 h.1
  have he := brd_nthEl hb (j := on.toNat) (by omega)
  unfold lekV
  rw [if_pos h', key_yes (glog_ex he), el_gp he]
theorem lek_no {g : Int} {ns : List Nt} {on : Int} (h : lekB g ns on = false) : lekV g ns on = -1 := by unfold lekV; rw [h]; rfl
theorem lek_yes {g : Int} {ns : List Nt} {on : Int} (h : lekB g ns on = true) : lekV g ns on = glog g (bas g) (nth (keysN ns) on.toNat) := by unfold lekV; rw [h]; rfl
theorem onN_tok {g : Int} {ns : List Nt} {on : Int} (h : brdB g ns = true) (h0 : 0 ≤ on) {k : Nat} (hk : k < (onN on ns).length) : tokB g (nth (keysN ns) on.toNat) (nthN (onN on ns) k).say (nthN (onN on ns) k).ask (nthN (onN on ns) k).tell = true := by
  obtain ⟨hm, ho⟩ := onN_mem.1 (nthN_mem hk)
  obtain ⟨j, hj, e⟩ := List.getElem_of_mem hm
  have := brd_on h h0 hj (by rw [nthN_get hj, e]; exact ho)
  rw [nthN_get hj, e] at this
  exact this
theorem prS_of {x y : Nt} (h : prS x y = true) : x.say = y.say ∧ x.ask ≠ y.ask := prS_true.1 h
def konL (g : Int) (ns : List Nt) : List Int := if brdB g ns then keysN ns else []
theorem konL_yes {g : Int} {ns : List Nt} (h : brdB g ns = true) : konL g ns = keysN ns := by unfold konL; rw [h]; rfl
theorem konL_no {g : Int} {ns : List Nt} (h : brdB g ns = false) : konL g ns = [] := by unfold konL; rw [h]; rfl
theorem konL_len (g : Int) (ns : List Nt) : (konL g ns).length ≤ 12 := by
  cases h : brdB g ns
  · rw [konL_no h]; simp
  · rw [konL_yes h]; exact Nat.le_trans (keysN_len ns) (brd_true.1 h).2.1
theorem lek_notOk {g : Int} {ns : List Nt} {on : Int} (h : onOk g ns on = false) : lekB g ns on = false := by unfold lekB; rw [h]; rfl
theorem lek_ok {g : Int} {ns : List Nt} {on : Int} (h : onOk g ns on = true) : lekB g ns on = twoB (onN on ns) := by unfold lekB; rw [h]; rfl
theorem ok_brd {g : Int} {ns : List Nt} {on : Int} (h : brdB g ns = false) : onOk g ns on = false := by unfold onOk; rw [h]; rfl
end Go.Proofs.YtiinifcepcaonaaDoor
