/- laws.markIntS, markIntSS, markClaim, markWords, heldIntS, heldIntSS, heldWords. -/
import Derived.Test.YtipndddmjgjgpabDoorHelp
import Derived.Test.YtipndddmjgjgpabDoorExactList
import Derived.Test.YtipndddmjgjgpabDoorBCl
namespace Go.Proofs.YtipndddmjgjgpabDoor
open Go.RowKit

/-- The first k lists marked. -/
def markS (xss : List (List Int)) (m : Int) : Nat → List (List Int)
  | 0 => xss
  | k + 1 => (markS xss m k).set k (markTo (row xss k) (m + cnt xss k) (row xss k).length)
theorem markS_len (xss : List (List Int)) (m : Int) : ∀ k, (markS xss m k).length = xss.length
  | 0 => rfl
  | k + 1 => by unfold markS; rw [List.length_set]; exact markS_len xss m k
theorem markS_rest (xss : List (List Int)) (m : Int) : ∀ k j, k ≤ j → row (markS xss m k) j = row xss j
  | 0, j, _ => rfl
  | k + 1, j, h => by unfold markS; rw [row_set_ne (by omega)]; exact markS_rest xss m k j (by omega)
theorem markS_row (xss : List (List Int)) (m : Int) : ∀ k, k ≤ xss.length → ∀ j, j < k → row (markS xss m k) j = markTo (row xss j) (m + cnt xss j) (row xss j).length
  | 0, _, j, hj => by omega
  | k + 1, hk, j, hj => by
    unfold markS
    by_cases e : k = j
    · subst e; rw [row_set (by rw [markS_len]; omega)]
    · rw [row_set_ne e]; exact markS_row xss m k (by omega) j (by omega)
theorem OwnSS.grown_out {w w' : World} {lo hi j : Nat} {v : Value} {us : List Value} {xss : List (List Int)} (h : OwnSS w lo hi v us xss) (hj : j < us.length) (hg : w.grownBy w' (val us j).ownBlock) : Outside lo hi w w' :=
  Outside.of_grown hg fun k hk => ⟨((h.rows j hj).lt k hk).1, h.his j hj k hk⟩

theorem Outside.alloc {lo hi : Nat} {w w' : World} (o : Obj) (h : Outside lo hi (w.alloc o) w') : Outside lo hi w w' :=
  ⟨h.os, h.tape, h.output, Nat.le_trans (by simp) h.size, fun k hk hr => (h.block k (by simp; omega) hr).trans (Below.heap_alloc w o k hk)⟩
theorem Outside.wider {lo lo' hi hi' : Nat} {w w' : World} (h : Outside lo hi w w') (h1 : lo' ≤ lo) (h2 : hi ≤ hi') : Outside lo' hi' w w' :=
  ⟨h.os, h.tape, h.output, h.size, fun k hk hr => h.block k hk (by omega)⟩
theorem Outside.box {lo hi N : Nat} {w w' : World} {cs : List Value} (h : Outside lo hi w w') (hb : Box w N cs) (hN : hi ≤ N) : Box w' N cs := by
  have hl := hb.lt
  obtain ⟨T, hb⟩ := hb
  exact ⟨T, by rw [h.block N hl (.inr hN)]; exact hb⟩

theorem small {n : Nat} (h : n ≤ 1048576) : n ≤ maxLen := by unfold maxLen; omega
theorem small3 {n : Nat} (h : n ≤ 1000) : n ≤ maxLen := by unfold maxLen; omega
theorem OwnW.lower {w : World} {lo lo' hi : Nat} {sv tv : Value} {ss ts : List Int} (h : OwnW w lo hi sv tv ss ts) (hl : lo' ≤ lo) : OwnW w lo' hi sv tv ss ts := ⟨own_mono h.s hl, own_mono h.t hl, h.apart, h.his, h.hit⟩
theorem OwnW.far {w w' : World} {lo hi lo' hi' : Nat} {sv tv : Value} {ss ts : List Int} (h : Outside lo hi w w') (ho : OwnW w lo' hi' sv tv ss ts) (hB : hi ≤ lo') : OwnW w' lo' hi' sv tv ss ts := ⟨h.own ho.s hB, h.own ho.t hB, ho.apart, ho.his, ho.hit⟩
theorem OwnCl.cw {w : World} {lo hi : Nat} {rv mv : Value} {us : List Value} {xss : List (List Int)} {ms : List Int} (h : OwnCl w lo hi rv mv us xss ms) (s1 : xss.length ≤ 1048576) (s2 : ∀ j, j < xss.length → (row xss j).length ≤ 1048576) (s3 : ms.length ≤ 1048576) : Cw w rv mv xss ms := by
  obtain ⟨mid, _, _, c, d⟩ := h.parts
  exact ⟨c.ints (small s1) fun j hj => small (s2 j hj), Ints.of_own d (small s3)⟩
theorem OwnCl.form {w : World} {lo hi : Nat} {rv mv : Value} {us : List Value} {xss : List (List Int)} {ms : List Int} (h : OwnCl w lo hi rv mv us xss ms) : (∃ a c, rv = .slice a xss.length c) ∧ ∃ a c, mv = .slice a ms.length c := by
  obtain ⟨mid, _, _, c, d⟩ := h.parts
  exact ⟨c.form, Own.form d⟩
theorem bne_self (b : Bool) : (b != b) = false := by cases b <;> rfl
end Go.Proofs.YtipndddmjgjgpabDoor
