/- Plain mathematics of chapter 9: talks on two graphs, asked by a table; a talk as its question and the order that is told. -/
import Derived.Test.YtlcegpmhlnilfaaPurN
namespace Go.Proofs.Ytlcegpmhlnilfaa

/-- By ascending question, then by what is told. -/
def TLt (x y : Int × List Int) : Prop := x.1 < y.1 ∨ (x.1 = y.1 ∧ RowLt x.2 y.2)
theorem TLt.ne {x y : Int × List Int} (h : TLt x y) : x ≠ y := by
  rintro rfl
  rcases h with h | ⟨_, h⟩
  · omega
  · exact h.ne rfl
theorem TLt.asymm {x y : Int × List Int} (h : TLt x y) (k : TLt y x) : False := by
  rcases h with h | ⟨e, h⟩ <;> rcases k with k | ⟨f, k⟩
  · omega
  · omega
  · omega
  · exact h.asymm k
/-- What is said in the talk. -/
def sayT (g h : List Int) (x : Int × List Int) : List Int := mov x.2 (frm x.1 g h)
def askT (l : List Int) (p : Int) (g f : List Int) : Int := gasB l p (mov f g)
def hrEl (l : List Int) (p : Int) (g known f : List Int) : Int × List Int := (askT l p g f, toldT known f (askT l p g f))
def hrL (l : List Int) (p : Int) (g known : List Int) : List (Int × List Int) := (ords p.toNat).map (hrEl l p g known)
def kpIn (l : List Int) (p : Int) (g h : List Int) (a : Int) (T : List (List Int)) : List (Int × List Int) := (T.filter fun t => decide (gasB l p (mov t (frm a g h)) = a)).map fun t => (a, t)
def kpL (l : List Int) (p : Int) (g h : List Int) : List (Int × List Int) := kpIn l p g h 0 (ords p.toNat) ++ kpIn l p g h 1 (ords p.toNat)
def hrB (p : Int) (g : List Int) (q : Int) (h known l : List Int) : Bool := ofT p g q h known known 0 && fouB l
def kpB (p : Int) (g : List Int) (q : Int) (h l : List Int) : Bool := btB p g q h && fouB l
theorem hrL_len (l : List Int) (p : Int) (g known : List Int) : (hrL l p g known).length = (ords p.toNat).length := by unfold hrL; simp
theorem kpIn_mem {l : List Int} {p : Int} {g h : List Int} {a : Int} {T : List (List Int)} {x : Int × List Int} : x ∈ kpIn l p g h a T ↔ x.1 = a ∧ x.2 ∈ T ∧ gasB l p (mov x.2 (frm a g h)) = a := by
  unfold kpIn
  rw [List.mem_map]
  constructor
  · rintro ⟨t, ht, rfl⟩
    rw [List.mem_filter] at ht
    exact ⟨rfl, ht.1, by simpa using ht.2⟩
  · rintro ⟨rfl, h1, h2⟩
    exact ⟨x.2, List.mem_filter.2 ⟨h1, by simpa using h2⟩, rfl⟩
theorem kpIn_snoc_yes {l : List Int} {p : Int} {g h : List Int} {a : Int} {T : List (List Int)} {t : List Int} (e : gasB l p (mov t (frm a g h)) = a) : kpIn l p g h a (T ++ [t]) = kpIn l p g h a T ++ [(a, t)] := by
  unfold kpIn; rw [List.filter_append, List.map_append]; simp [e]
theorem kpIn_snoc_no {l : List Int} {p : Int} {g h : List Int} {a : Int} {T : List (List Int)} {t : List Int} (e : ¬ gasB l p (mov t (frm a g h)) = a) : kpIn l p g h a (T ++ [t]) = kpIn l p g h a T := by
  unfold kpIn; rw [List.filter_append, List.map_append]; simp [e]
theorem kpIn_len (l : List Int) (p : Int) (g h : List Int) (a : Int) (T : List (List Int)) : (kpIn l p g h a T).length ≤ T.length := by
  unfold kpIn; rw [List.length_map]; exact List.length_filter_le _ _
theorem kpIn_asc {l : List Int} {p : Int} {g h : List Int} {a : Int} {T : List (List Int)} (hT : T.Pairwise RowLt) : (kpIn l p g h a T).Pairwise TLt := by
  unfold kpIn
  rw [List.pairwise_map]
  exact (hT.filter _).imp fun h => .inr ⟨rfl, h⟩
theorem kpL_asc (l : List Int) (p : Int) (g h : List Int) : (kpL l p g h).Pairwise TLt := by
  unfold kpL
  rw [List.pairwise_append]
  refine ⟨kpIn_asc (ords_asc _), kpIn_asc (ords_asc _), fun x hx y hy => .inl ?_⟩
  rw [(kpIn_mem.1 hx).1, (kpIn_mem.1 hy).1]; decide
theorem kpL_mem {l : List Int} {p : Int} {g h : List Int} {x : Int × List Int} : x ∈ kpL l p g h ↔ (x.1 = 0 ∨ x.1 = 1) ∧ x.2 ∈ ords p.toNat ∧ gasB l p (mov x.2 (frm x.1 g h)) = x.1 := by
  unfold kpL
  rw [List.mem_append, kpIn_mem, kpIn_mem]
  constructor
  · rintro (⟨h1, h2, h3⟩ | ⟨h1, h2, h3⟩)
    · exact ⟨.inl h1, h2, by rw [h1]; exact h3⟩
    · exact ⟨.inr h1, h2, by rw [h1]; exact h3⟩
  · rintro ⟨h1 | h1, h2, h3⟩
    · rw [h1] at h3; exact .inl ⟨h1, h2, h3⟩
    · rw [h1] at h3; exact .inr ⟨h1, h2, h3⟩
theorem fur_told {p : Int} {known f : List Int} {a : Int} (hk : Od known p) (hf : Od f p) : (if a = 1 then thn known (toldT known f a) else toldT known f a) = f := by
  unfold toldT
  by_cases e : a = 1
  · rw [if_pos e, if_pos e]
    have := bck_thn (bck_od hk) hf
    rwa [bck_bck hk] at this
  · rw [if_neg e, if_neg e]
/-- P44: the talks that are heard are those that are kept. -/
theorem hr_kp {l : List Int} {p q : Int} {g h known : List Int} (k : OfT p g q h known known 0) (hl : fouB l = true) : (hrL l p g known).Perm (kpL l p g h) := by
  have p1 := k.gg.p1
  have p5 := k.gg.p5
  have hod : ∀ {x : List Int}, x ∈ ords p.toNat ↔ Od x p := fun {x} => by
    have := ords_mem (m := p.toNat) (by omega) (by omega) (ys := x)
    rwa [Int.toNat_of_nonneg (by omega)] at this
  have hbit : ∀ f, Od f p → askT l p g f = 0 ∨ askT l p g f = 1 := fun f hf => gas_bit hl (gkB_true.2 (mov_gk hf k.gg))
  have hof : ∀ f, Od f p → OfT p g q h known f (askT l p g f) := fun f hf => ⟨k.gg, k.gh, k.e, k.ok, hf, by rcases hbit f hf with e | e <;> omega, by rcases hbit f hf with e | e <;> omega, k.lead⟩
  have hh : Gk p h := by rw [k.e]; exact k.gh
  refine (List.perm_ext_iff_of_nodup ?_ ((kpL_asc l p g h).imp fun h => h.ne)).2 fun x => ?_
  · unfold hrL List.Nodup
    rw [List.pairwise_map]
    refine List.Pairwise.imp_of_mem ?_ ((ords_asc p.toNat).imp fun h => h.ne)
    intro a b ha hb hne e
    have ea := congrArg Prod.fst e
    have eb := congrArg Prod.snd e
    simp only [hrEl] at ea eb
    rw [ea] at eb
    have f1 := fur_told (a := askT l p g b) k.ok (hod.1 ha)
    have f2 := fur_told (a := askT l p g b) k.ok (hod.1 hb)
    rw [eb] at f1
    exact hne (f1.symm.trans f2)
  · rw [kpL_mem]
    unfold hrL
    rw [List.mem_map]
    constructor
    · rintro ⟨f, hf, rfl⟩
      have hf' := hod.1 hf
      have ko := hof f hf'
      have hr := (tkT_true.1 ko.right).2.2
      refine ⟨hbit f hf', hod.2 ko.told, ?_⟩
      show gasB l p (mov (toldT known f (askT l p g f)) (frm (askT l p g f) g h)) = askT l p g f
      rw [hr]; rfl
    · rintro ⟨h1, h2, h3⟩
      obtain ⟨a, t⟩ := x
      simp only at h1 h2 h3
      have ht := hod.1 h2
      have hb : btB p g q h = true := btB_true.2 ⟨k.gg, k.gh, k.e⟩
      have hm : MdT p g q h a t := ⟨k.gg, k.gh, k.e, ht, by rcases h1 with e | e <;> omega, by rcases h1 with e | e <;> omega⟩
      obtain ⟨k2, e1, e2⟩ := hm.true_ (btw_mem.2 ⟨hb, k.ok, k.lead⟩)
      refine ⟨_, hod.2 k2.of, ?_⟩
      have ea : askT l p g (if a = 1 then thn known t else t) = a := by unfold askT; rw [e1]; exact h3
      unfold hrEl
      rw [ea, e2]
/-- Sorted lists of the same talks are the same. -/
theorem turns_ext {a b : List (Int × List Int)} (ha : a.Pairwise TLt) (hb : b.Pairwise TLt) (h : a.Perm b) : a = b := by
  refine List.Perm.eq_of_pairwise (le := TLt) (fun x y _ _ h1 h2 => (h1.asymm h2).elim) ha hb h
theorem hr_ok {l : List Int} {p q : Int} {g h known : List Int} (k : OfT p g q h known known 0) (hl : fouB l = true) {f : List Int} (hf : Od f p) : OfT p g q h known f (askT l p g f) ∧ mov (toldT known f (askT l p g f)) (frm (askT l p g f) g h) = mov f g := by
  have hbit : askT l p g f = 0 ∨ askT l p g f = 1 := gas_bit hl (gkB_true.2 (mov_gk hf k.gg))
  have ko : OfT p g q h known f (askT l p g f) := ⟨k.gg, k.gh, k.e, k.ok, hf, by rcases hbit with e | e <;> omega, by rcases hbit with e | e <;> omega, k.lead⟩
  exact ⟨ko, (tkT_true.1 ko.right).2.2⟩
end Go.Proofs.Ytlcegpmhlnilfaa
