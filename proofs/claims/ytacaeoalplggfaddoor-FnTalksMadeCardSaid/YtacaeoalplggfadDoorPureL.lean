/- The sorted lists of talks as one list over the elements. -/
import Derived.Test.YtacaeoalplggfadDoorRowJ
import Derived.Test.YtacaeoalplggfadDoorSortI
namespace Go.Proofs.YtacaeoalplggfadDoor

theorem els_asc_all : ∀ g ∈ [(0 : Int), 1, 2, 3], (els g).Pairwise (fun a b => a < b) := by decide +kernel
theorem perm_all : ∀ g ∈ [(0 : Int), 1, 2, 3], ∀ c ∈ (List.range 23).map (fun k : Nat => (k : Int)), ((List.range (ord g).toNat).map fun k : Nat => gp g (bas g) ((k : Int) + c)).isPerm (els g) = true := by decide +kernel
theorem perm_els {g : Int} (h0 : 0 ≤ g) (h4 : g < 4) (c : Int) : ((List.range (ord g).toNat).map fun k : Nat => gp g (bas g) ((k : Int) + c)).Perm (els g) := by
  have hb := ord_bd h0 h4
  have h1 := Int.emod_nonneg c (show ord g ≠ 0 by omega)
  have h2 := Int.emod_lt_of_pos c (show 0 < ord g by omega)
  have h := List.isPerm_iff.1 (perm_all g (g_mem h0 h4) (c % ord g) (List.mem_map.2 ⟨(c % ord g).toNat, List.mem_range.2 (by omega), by omega⟩))
  refine List.Perm.trans (List.Perm.of_eq ?_) h
  refine List.map_congr_left fun k _ => gp_congr ?_
  rw [Int.add_emod, Int.add_emod (k : Int) (c % ord g), Int.emod_emod_of_dvd _ (Int.dvd_refl _)]
def rightL (g x ask : Int) : List (Int × Int) := (els g).map fun e => (e, tellOf g x (glog g (bas g) e) ask)
theorem rightL_len (g x ask : Int) : (rightL g x ask).length = (els g).length := by unfold rightL; simp
theorem leP_trans (a b c : Int × Int) (h1 : (!ltP b a) = true) (h2 : (!ltP c b) = true) : (!ltP c a) = true := by
  simp [ltP] at *; omega
theorem leP_total (a b : Int × Int) : (!ltP b a || !ltP a b) = true := by
  simp [ltP]; omega
theorem leP_anti (a b : Int × Int) (h1 : (!ltP b a) = true) (h2 : (!ltP a b) = true) : a = b :=
  antiP a b (by rw [ltOf_cf]; simpa using h2) (by rw [ltOf_cf]; simpa using h1)
theorem sorted_eq {d L : List (Int × Int)} (hp : d.Perm L) (hs : L.Pairwise (fun a b => (!ltP b a) = true)) : sortP d = L := by
  refine List.Perm.eq_of_pairwise (le := fun a b => (!ltP b a) = true) (fun a b _ _ h1 h2 => leP_anti a b h1 h2) ?_ hs ((List.mergeSort_perm d _).trans hp)
  exact List.pairwise_mergeSort leP_trans leP_total d
theorem rightL_asc {g : Int} (h0 : 0 ≤ g) (h4 : g < 4) (x ask : Int) : (rightL g x ask).Pairwise (fun a b => (!ltP b a) = true) := by
  unfold rightL
  rw [List.pairwise_map]
  refine (els_asc_all g (g_mem h0 h4)).imp fun {a b} h => ?_
  simp [ltP]; omega
theorem true_is {g s ask : Int} (h1 : exB g s = true) (h3 : exB g ask = true) : sortP (trueAll g s ask) = rightL g s ask := by
  obtain ⟨⟨h0, h4⟩, _⟩ := exB_true.1 h1
  refine sorted_eq ?_ (rightL_asc h0 h4 _ _)
  have hp := (perm_els h0 h4 0).map (fun e => (e, tellOf g s (glog g (bas g) e) ask))
  rw [List.map_map] at hp
  refine List.Perm.trans (List.Perm.of_eq ?_) hp
  unfold trueAll trueL
  rw [h1, h3]
  refine List.map_congr_left fun k hk => ?_
  have hk' : k < (ord g).toNat := List.mem_range.1 hk
  show _ = (gp g (bas g) ((k : Int) + 0), tellOf g s (glog g (bas g) (gp g (bas g) ((k : Int) + 0))) ask)
  rw [Int.add_zero, glog_gp (bas_el h0 h4) (bas_one h0 h4), Int.emod_eq_of_lt (by omega) (by omega)]
theorem say_shift {g key ask : Int} (hk : elB g key = true) (k : Int) : sayUp g key ask k = gp g (bas g) (k + glog g (bas g) key * (-ask)) := by
  obtain ⟨h0, h4⟩ := elB_group hk
  unfold sayUp
  rw [gp_add (bas_el h0 h4), ← gp_gp (bas_el h0 h4), el_gp hk]
theorem made_is {g key ask : Int} (h1 : elB g key = true) (h3 : exB g ask = true) : sortP (madeAll g key ask) = rightL g (glog g (bas g) key) ask := by
  obtain ⟨h0, h4⟩ := elB_group h1
  refine sorted_eq ?_ (rightL_asc h0 h4 _ _)
  have hp := (perm_els h0 h4 (glog g (bas g) key * (-ask))).map (fun e => (e, tellOf g (glog g (bas g) key) (glog g (bas g) e) ask))
  rw [List.map_map] at hp
  refine List.Perm.trans (List.Perm.of_eq ?_) hp
  unfold madeAll madeL
  rw [h1, h3]
  refine List.map_congr_left fun k hk => ?_
  have hk' : k < (ord g).toNat := List.mem_range.1 hk
  have hx : exB g (k : Int) = true := exB_true.2 ⟨⟨h0, h4⟩, by omega, by omega⟩
  show _ = (gp g (bas g) ((k : Int) + glog g (bas g) key * (-ask)), tellOf g (glog g (bas g) key) (glog g (bas g) (gp g (bas g) ((k : Int) + glog g (bas g) key * (-ask)))) ask)
  rw [← say_shift h1, ← (tok_tell h1 (sayUp_el h1) h3 hx).1 (made_ok h1 h3 hx)]
theorem true_made {g s ask : Int} (h1 : exB g s = true) (h3 : exB g ask = true) : sortP (madeAll g (keyOf g s) ask) = sortP (trueAll g s ask) := by
  rw [made_is (key_el h1) h3, true_is h1 h3, key_log h1]
theorem right_at {g x ask : Int} {k : Nat} (hk : k < (els g).length) : ((rightL g x ask)[k]!).1 = nth (els g) k ∧ ((rightL g x ask)[k]!).2 = tellOf g x (glog g (bas g) (nth (els g) k)) ask := by
  have h : k < (rightL g x ask).length := by rw [rightL_len]; exact hk
  have e : (rightL g x ask)[k] = ((els g)[k], tellOf g x (glog g (bas g) (els g)[k]) ask) := by simp [rightL]
  rw [getElem!_pos _ k h, nth_get hk, e]
  exact ⟨rfl, rfl⟩
theorem right_ok {g key ask : Int} (h1 : elB g key = true) (h3 : exB g ask = true) {k : Nat} (hk : k < (els g).length) :
    tokB g key (nth (els g) k) ask (tellOf g (glog g (bas g) key) (glog g (bas g) (nth (els g) k)) ask) = true := by
  obtain ⟨h0, h4⟩ := elB_group h1
  exact (tok_tell h1 (elB_mem.2 (nth_mem hk)) h3 (tell_ex h0 h4 _ _ _)).2 rfl
theorem true_none {g s ask : Int} (h : ¬ (exB g s = true ∧ exB g ask = true)) : sortP (trueAll g s ask) = [] := by
  unfold trueAll
  cases h1 : exB g s
  · exact sortP_nil
  · cases h3 : exB g ask
    · exact sortP_nil
    · exact absurd ⟨h1, h3⟩ h
theorem made_none {g key ask : Int} (h : ¬ (elB g key = true ∧ exB g ask = true)) : sortP (madeAll g key ask) = [] := by
  unfold madeAll
  cases h1 : elB g key
  · exact sortP_nil
  · cases h3 : exB g ask
    · exact sortP_nil
    · exact absurd ⟨h1, h3⟩ h
end Go.Proofs.YtacaeoalplggfadDoor
