/- Plain mathematics of chapter 9: the talks that are heard are those that are kept. -/
import Derived.Test.YtahegppdfcndkaaDoorPureK
import Derived.Test.YtahegppdfcndkaaDoorSrA
namespace Go.Proofs.YtahegppdfcndkaaDoor

theorem els_asc_all : ∀ g ∈ [(0 : Int), 1, 2, 3], (els g).Pairwise (fun a b => a < b) := by decide +kernel
theorem perm_all : ∀ g ∈ [(0 : Int), 1, 2, 3], ((List.range (ord g).toNat).map fun k : Nat => gp g (bas g) (k : Int)).isPerm (els g) = true := by decide +kernel
theorem perm_els {g : Int} (h0 : 0 ≤ g) (h4 : g < 4) : ((List.range (ord g).toNat).map fun k : Nat => gp g (bas g) (k : Int)).Perm (els g) := List.isPerm_iff.1 (perm_all g (g_mem h0 h4))
/-- The talks that are right, one for each element, asked by a table. -/
def rightA (g x : Int) (Q : Int → Int) : List (Int × Int) := (els g).map fun e => (e, tellOf g x (glog g (bas g) e) (Q e))
theorem rightA_len (g x : Int) (Q : Int → Int) : (rightA g x Q).length = (els g).length := by unfold rightA; simp
theorem leP_trans (a b c : Int × Int) (h1 : (!ltP b a) = true) (h2 : (!ltP c b) = true) : (!ltP c a) = true := by
  simp [ltP] at *; omega
theorem leP_total (a b : Int × Int) : (!ltP b a || !ltP a b) = true := by
  simp [ltP]; omega
theorem leP_anti (a b : Int × Int) (h1 : (!ltP b a) = true) (h2 : (!ltP a b) = true) : a = b :=
  antiP a b (by rw [ltOf_cf]; simpa using h2) (by rw [ltOf_cf]; simpa using h1)
theorem sorted_eq {d L : List (Int × Int)} (hp : d.Perm L) (hs : L.Pairwise (fun a b => (!ltP b a) = true)) : sortP d = L := by
  refine List.Perm.eq_of_pairwise (le := fun a b => (!ltP b a) = true) (fun a b _ _ h1 h2 => leP_anti a b h1 h2) ?_ hs ((List.mergeSort_perm d _).trans hp)
  exact List.pairwise_mergeSort leP_trans leP_total d
theorem rightA_asc {g : Int} (h0 : 0 ≤ g) (h4 : g < 4) (x : Int) (Q : Int → Int) : (rightA g x Q).Pairwise (fun a b => (!ltP b a) = true) := by
  unfold rightA
  rw [List.pairwise_map]
  refine (els_asc_all g (g_mem h0 h4)).imp fun {a b} h => ?_
  simp [ltP]; omega
theorem sortP_len (d : List (Int × Int)) : (sortP d).length = d.length := by unfold sortP; exact List.length_mergeSort _

/-! ### heard -/
def heardL (g s : Int) (Q : Int → Int) (n : Nat) : List (Int × Int) := (List.range n).map fun k : Nat => (gp g (bas g) (k : Int), tellOf g s (k : Int) (Q (gp g (bas g) (k : Int))))
theorem heardL_succ (g s : Int) (Q : Int → Int) (n : Nat) : heardL g s Q (n + 1) = heardL g s Q n ++ [(gp g (bas g) (n : Int), tellOf g s (n : Int) (Q (gp g (bas g) (n : Int))))] := by unfold heardL; rw [List.range_succ, List.map_append]; rfl
theorem heardL_len (g s : Int) (Q : Int → Int) (n : Nat) : (heardL g s Q n).length = n := by unfold heardL; simp
theorem heard_is {g s : Int} (Q : Int → Int) (h0 : 0 ≤ g) (h4 : g < 4) : sortP (heardL g s Q (ord g).toNat) = rightA g s Q := by
  refine sorted_eq ?_ (rightA_asc h0 h4 _ _)
  have hp := (perm_els h0 h4).map (fun e => (e, tellOf g s (glog g (bas g) e) (Q e)))
  rw [List.map_map] at hp
  refine List.Perm.trans (List.Perm.of_eq ?_) hp
  unfold heardL
  refine List.map_congr_left fun k hk => ?_
  have hk' : k < (ord g).toNat := List.mem_range.1 hk
  show _ = (gp g (bas g) (k : Int), tellOf g s (glog g (bas g) (gp g (bas g) (k : Int))) (Q (gp g (bas g) (k : Int))))
  rw [glog_gp (bas_el h0 h4) (bas_one h0 h4), Int.emod_eq_of_lt (by omega) (by omega)]

/-! ### kept -/
def kepIn (g key a : Int) (Q : Int → Int) (n : Nat) : List (Int × Int) := ((List.range n).filter fun t : Nat => decide (Q (sayUp g key a (t : Int)) = a)).map fun t : Nat => (sayUp g key a (t : Int), (t : Int))
theorem kepIn_zero (g key a : Int) (Q : Int → Int) : kepIn g key a Q 0 = [] := rfl
theorem kepIn_yes {g key a : Int} {Q : Int → Int} {n : Nat} (h : Q (sayUp g key a (n : Int)) = a) : kepIn g key a Q (n + 1) = kepIn g key a Q n ++ [(sayUp g key a (n : Int), (n : Int))] := by
  unfold kepIn; rw [List.range_succ, List.filter_append, List.map_append]; simp [h]
theorem kepIn_no {g key a : Int} {Q : Int → Int} {n : Nat} (h : ¬ Q (sayUp g key a (n : Int)) = a) : kepIn g key a Q (n + 1) = kepIn g key a Q n := by
  unfold kepIn; rw [List.range_succ, List.filter_append, List.map_append]; simp [h]
theorem kepIn_len (g key a : Int) (Q : Int → Int) (n : Nat) : (kepIn g key a Q n).length ≤ n := by
  unfold kepIn; rw [List.length_map]; exact Nat.le_trans (List.length_filter_le _ _) (by simp)
def kepTo (g key : Int) (Q : Int → Int) (q m : Nat) : List (Int × Int) := (List.range m).flatMap fun a : Nat => kepIn g key (a : Int) Q q
theorem kepTo_zero (g key : Int) (Q : Int → Int) (q : Nat) : kepTo g key Q q 0 = [] := rfl
theorem kepTo_succ (g key : Int) (Q : Int → Int) (q m : Nat) : kepTo g key Q q (m + 1) = kepTo g key Q q m ++ kepIn g key (m : Int) Q q := by
  unfold kepTo; rw [List.range_succ, List.flatMap_append]; simp
theorem kepTo_len (g key : Int) (Q : Int → Int) (q : Nat) : ∀ m, (kepTo g key Q q m).length ≤ m * q
  | 0 => by simp [kepTo]
  | m + 1 => by
    rw [kepTo_succ, List.length_append, Nat.succ_mul]
    have := kepTo_len g key Q q m
    have := kepIn_len g key (m : Int) Q q
    omega
theorem kepIn_mem {g key a : Int} {Q : Int → Int} {n : Nat} {x : Int × Int} : x ∈ kepIn g key a Q n ↔ ∃ t : Nat, t < n ∧ Q (sayUp g key a (t : Int)) = a ∧ x = (sayUp g key a (t : Int), (t : Int)) := by
  unfold kepIn
  rw [List.mem_map]
  constructor
  · rintro ⟨t, ht, rfl⟩
    rw [List.mem_filter, List.mem_range] at ht
    exact ⟨t, ht.1, by simpa using ht.2, rfl⟩
  · rintro ⟨t, h1, h2, rfl⟩
    exact ⟨t, List.mem_filter.2 ⟨List.mem_range.2 h1, by simpa using h2⟩, rfl⟩
theorem kepTo_nodup (g key : Int) (Q : Int → Int) (q m : Nat) : (kepTo g key Q q m).Nodup := by
  unfold kepTo List.Nodup
  rw [List.pairwise_flatMap]
  refine ⟨fun a _ => ?_, ?_⟩
  · unfold kepIn
    rw [List.pairwise_map]
    refine List.Pairwise.imp ?_ (List.Pairwise.filter _ (List.nodup_range (n := q)))
    intro x y h e
    have := congrArg Prod.snd e
    simp at this
    exact h (by omega)
  · refine List.Pairwise.imp ?_ (List.nodup_range (n := m))
    intro a b h x hx y hy e
    obtain ⟨t, _, h1, rfl⟩ := kepIn_mem.1 hx
    obtain ⟨u, _, h2, rfl⟩ := kepIn_mem.1 hy
    have e3 : sayUp g key (a : Int) (t : Int) = sayUp g key (b : Int) (u : Int) := congrArg Prod.fst e
    rw [e3, h2] at h1
    exact h (by omega)
theorem rightA_nodup {g : Int} (h0 : 0 ≤ g) (h4 : g < 4) (x : Int) (Q : Int → Int) : (rightA g x Q).Nodup := by
  unfold rightA List.Nodup
  rw [List.pairwise_map]
  refine (els_asc_all g (g_mem h0 h4)).imp fun {a b} h e => ?_
  have := congrArg Prod.fst e
  simp at this
  omega
theorem kept_is {g key : Int} {Q : Int → Int} (h1 : elB g key = true) (hQ : ∀ e, elB g e = true → exB g (Q e) = true) : sortP (kepTo g key Q (ord g).toNat (ord g).toNat) = rightA g (glog g (bas g) key) Q := by
  obtain ⟨h0, h4⟩ := elB_group h1
  have ho := ord_bd h0 h4
  refine sorted_eq ((List.perm_ext_iff_of_nodup (kepTo_nodup _ _ _ _ _) (rightA_nodup h0 h4 _ _)).2 fun x => ?_) (rightA_asc h0 h4 _ _)
  unfold kepTo rightA
  rw [List.mem_flatMap, List.mem_map]
  constructor
  · rintro ⟨a, ha, hx⟩
    have ha' := List.mem_range.1 ha
    obtain ⟨t, ht, hq, rfl⟩ := kepIn_mem.1 hx
    have he := sayUp_el (g := g) (key := key) (ask := (a : Int)) (tell := (t : Int)) h1
    have xa : exB g (a : Int) = true := exB_true.2 ⟨⟨h0, h4⟩, by omega, by omega⟩
    have xt : exB g (t : Int) = true := exB_true.2 ⟨⟨h0, h4⟩, by omega, by omega⟩
    refine ⟨_, elB_mem.1 he, ?_⟩
    rw [hq, ← (tok_tell h1 he xa xt).1 (made_ok h1 xa xt)]
  · rintro ⟨e, he, rfl⟩
    have he' := elB_mem.2 he
    have xa := hQ e he'
    obtain ⟨t, ht⟩ : ∃ t, tellOf g (glog g (bas g) key) (glog g (bas g) e) (Q e) = t := ⟨_, rfl⟩
    have xt : exB g t = true := by rw [← ht]; exact tell_ex h0 h4 _ _ _
    have hk := made_only h1 he' xa xt
    rw [(tok_tell h1 he' xa xt).2 ht.symm] at hk
    have hs : e = sayUp g key (Q e) t := by simpa using hk.symm
    obtain ⟨_, a0, a1⟩ := exB_true.1 xa
    obtain ⟨_, t0, t1⟩ := exB_true.1 xt
    refine ⟨(Q e).toNat, List.mem_range.2 (by omega), kepIn_mem.2 ⟨t.toNat, by omega, ?_, ?_⟩⟩
    · rw [Int.toNat_of_nonneg a0, Int.toNat_of_nonneg t0, ← hs]
    · rw [Int.toNat_of_nonneg a0, Int.toNat_of_nonneg t0, ← hs, ht]
theorem right_at {g x : Int} {Q : Int → Int} {k : Nat} (hk : k < (els g).length) : ((rightA g x Q)[k]!).1 = nth (els g) k ∧ ((rightA g x Q)[k]!).2 = tellOf g x (glog g (bas g) (nth (els g) k)) (Q (nth (els g) k)) := by
  have h : k < (rightA g x Q).length := by rw [rightA_len]; exact hk
  have e : (rightA g x Q)[k] = ((els g)[k], tellOf g x (glog g (bas g) (els g)[k]) (Q (els g)[k])) := by simp [rightA]
  rw [getElem!_pos _ k h, nth_get hk, e]
  exact ⟨rfl, rfl⟩
theorem right_ok {g key : Int} {Q : Int → Int} (h1 : elB g key = true) {k : Nat} (hk : k < (els g).length) (h3 : exB g (Q (nth (els g) k)) = true) :
    tokB g key (nth (els g) k) (Q (nth (els g) k)) (tellOf g (glog g (bas g) key) (glog g (bas g) (nth (els g) k)) (Q (nth (els g) k))) = true := by
  obtain ⟨h0, h4⟩ := elB_group h1
  exact (tok_tell h1 (elB_mem.2 (nth_mem hk)) h3 (tell_ex h0 h4 _ _ _)).2 rfl
end Go.Proofs.YtahegppdfcndkaaDoor
