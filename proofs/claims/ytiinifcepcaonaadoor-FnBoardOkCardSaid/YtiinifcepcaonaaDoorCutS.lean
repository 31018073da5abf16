/- spec's cut of a text at its commas. -/
import Derived.Test.YtiinifcepcaonaaDoorTextS
import Derived.Test.YtiinifcepcaonaaDoorBWalk
namespace Go.Proofs.YtiinifcepcaonaaDoor
open Go.RowKit

def stepC (p : List (List UInt8) × List UInt8) (c : UInt8) : List (List UInt8) × List UInt8 := if c = 44 then (p.1 ++ [p.2], []) else (p.1, p.2 ++ [c])
def stC (l : List UInt8) : List (List UInt8) × List UInt8 := l.foldl stepC ([], [])
def wordsC (l : List UInt8) : List (List UInt8) := (stC l).1 ++ [(stC l).2]
theorem stC_snoc (l : List UInt8) (c : UInt8) : stC (l ++ [c]) = stepC (stC l) c := by unfold stC; rw [List.foldl_append]; rfl
theorem stC_take {l : List UInt8} {k : Nat} (h : k < l.length) : stC (l.take (k + 1)) = stepC (stC (l.take k)) l[k] := by rw [List.take_succ_eq_append_getElem h, stC_snoc]
theorem stC_hit {l : List UInt8} {k : Nat} (h : k < l.length) (hc : l[k] = 44) : stC (l.take (k + 1)) = ((stC (l.take k)).1 ++ [(stC (l.take k)).2], []) := by rw [stC_take h]; unfold stepC; rw [if_pos hc]
theorem stC_miss {l : List UInt8} {k : Nat} (h : k < l.length) (hc : l[k] ≠ 44) : stC (l.take (k + 1)) = ((stC (l.take k)).1, (stC (l.take k)).2 ++ [l[k]]) := by rw [stC_take h]; unfold stepC; rw [if_neg hc]
theorem ext_eq (s : ByteArray) (i j : Nat) : s.extract i j = ⟨((s.data.toList.take j).drop i).toArray⟩ := by
  apply ByteArray.ext
  rw [ByteArray.data_extract]
  apply Array.toList_inj.1
  rw [Array.toList_extract, List.drop_take]
theorem byte_at (s : ByteArray) (k : Nat) (hk : k < s.size) (h : k < s.data.toList.length) : s[k]'hk = s.data.toList[k]'h := by rw [Array.getElem_toList]; rfl
def bytesV (p : List UInt8) : Value := .string ⟨p.toArray⟩
abbrev OwnS (w : World) (B : Nat) (v : Value) (ps : List (List UInt8)) : Prop := w.ownsRow B 9 1 v ps.length (ps.map bytesV)
theorem ownS_below {w w' : World} {B : Nat} {v : Value} {ps : List (List UInt8)} (h : OwnS w B v ps) (hb : Below w.heap.size w w') : OwnS w' B v ps := by
  have hg : w.grownBy w' none := ⟨hb.os, hb.tape, hb.output, hb.size, fun k hk _ => hb.block k hk⟩
  exact h.kept hg (by cases hv : v.ownBlock <;> simp)
theorem ownS_made (w : World) (T : TypeId) (hT : T = 9) : OwnS (w.alloc (.cells #[] T)) w.heap.size (.slice (some ⟨w.heap.size, 0, none⟩) 0 0) [] := by
  subst hT
  exact World.ownsRow_made w #[] 0 (Nat.le_refl _) (Nat.zero_le _) rfl
theorem infoStr : (Tryd.prog.info? 9).map (fun i => (i.zero, i.size, i.bytes)) = some (some (.string ⟨#[]⟩), 1, 16) := by kernel_rfl
theorem ownS_step {w w3 w4 : World} {v v' : Value} {ps : List (List UInt8)} {p : List UInt8} {o : Obj} (hown : OwnS w3 w.heap.size v ps) (hb : Below w.heap.size w w3)
    (hown' : w4.ownsRow w.heap.size 9 1 v' (ps.length + 1) (ps.map bytesV ++ [bytesV p])) (hg : (w3.alloc o).grownBy w4 v.ownBlock) :
    OwnS w4 w.heap.size v' (ps ++ [p]) ∧ Below w.heap.size w w4 :=
  ⟨by unfold OwnS; simpa using hown', (hb.alloc hb.size o).grown hg (by simp; have := hb.size; omega) (fun j hj => (hown.lt j hj).1)⟩

set_option maxRecDepth 20000 in
set_option maxHeartbeats 1600000 in
theorem scut_any (s : ByteArray) (hs : s.size ≤ 1048576) (w : World) : Calls Tryd.prog 90 #[.string s, .int .u8 44] w fun e w' => ∃ v, e = .returned v ∧ OwnS w' w.heap.size v (wordsC s.data.toList) ∧ Below w.heap.size w w' := by
  obtain ⟨i0, hi, hz0, hz1, hz2⟩ := info_parts infoStr
  obtain ⟨l, hl⟩ : ∃ l, s.data.toList = l := ⟨_, rfl⟩
  have hlen : l.length = s.size := by rw [← hl, Array.length_toList]; rfl
  have HE := Lib.hid (fun (i j : Nat) => show s.extract i j = ⟨((l.take j).drop i).toArray⟩ by rw [ext_eq, hl])
  have HLN := Lib.hid hlen
  rw [hl]
  clear hlen
  go_enter Tryd.func90, Tryd.ntmps90
  go_wp2
  go_loopw [5, 6, 7] (fun v f x wr => ∃ k i : Nat, k ≤ l.length ∧ x = .int .i64 k ∧ f = .int .i64 i ∧ i ≤ k ∧ (stC (l.take k)).1.length ≤ k ∧ (stC (l.take k)).2 = (l.take k).drop i ∧ OwnS wr w.heap.size v (stC (l.take k)).1 ∧ Below w.heap.size w wr) (fun _ _ x _ => l.length - (intOf x).toNat)
  case atStart => exact ⟨0, 0, by omega, rfl, rfl, by omega, by simp [stC], by simp [stC], by simpa [stC] using ownS_made _ _ rfl, (Below.refl _ _).alloc (Nat.le_refl _) _⟩
  case round =>
    obtain ⟨k, i, hk, rfl, rfl, hik, hcnt, hcur, hown, hb⟩ := hrel
    have HC := Lib.hid hcur
    have HLK := HLN.out
    clear hcur
    by_cases hlt : k < l.length
    · have hks : k < s.size := by omega
      have hsk : s[k]'hks = l[k]'hlt := by subst hl; exact byte_at s k hks hlt
      have c1 : (0 : Int) ≤ (i : Int) := by omega
      have c2 : (i : Int) ≤ (k : Int) := by omega
      have c3 : (k : Int) ≤ (s.size : Int) := by omega
      by_cases hc : l[k]'hlt = 44
      · have hq : (((s[k]'hks).toNat : Int) == 44) = true := by rw [hsk, hc]; rfl
        have hst := Lib.hid (stC_hit hlt hc)
        have hx := HE.out i k
        rw [← HC.out] at hx
        clear hsk hc HLK
        go_wp2_with (at_builtin; refine wpList_append_own _ rfl _ _ 98 rfl w.heap.size 9 i0 (.string ⟨#[]⟩) 1 16 Tryd.underlying98 hi hz0 hz1 hz2 rfl (by decide) _ _ _ rfl (hown.alloc _) ⟨wr.heap.size, 0, none⟩ 1 1 [bytesV (stC (l.take k)).2] rfl rfl ?c1 ?c2 ?c3 ?c4 ?c5 ?_)
        case c1 =>
          intro j u hj
          match j, hj with
          | 0, hj => simp at hj; subst hj; simp [Addr.add, bytesV]
        case c2 => intro u hu; simp at hu; subst hu; rfl
        case c3 => unfold maxLen; omega
        case c4 => omega
        case c5 => have := hb.size; simp; omega
        · intro v' w4 hown' hgrow _
          have R := ownS_step hown hb hown' hgrow
          clear hown' hgrow hown hb
          go_wp2
          go_roundw
          case rel => exact ⟨k + 1, k + 1, by omega, by go_num, by go_num, by omega, by rw [hst.out]; simp; omega, by rw [hst.out]; simp, by rw [hst.out]; exact R.1, R.2⟩
          case measure => simp [intOf]; omega
      · have hne : (s[k]'hks).toNat ≠ 44 := fun h => hc (by rw [← hsk]; exact UInt8.toNat_inj.1 h)
        have hq : (((s[k]'hks).toNat : Int) == 44) = false := by rw [beq_eq_false_iff_ne]; omega
        have hst := Lib.hid (stC_miss hlt hc)
        have htk := Lib.hid (List.take_succ_eq_append_getElem hlt)
        clear hsk hc hne HLK
        go_wp2
        go_roundw
        case rel => exact ⟨k + 1, i, by omega, by go_num, rfl, by omega, by rw [hst.out]; simp only; omega, by rw [hst.out, htk.out]; simp only; rw [HC.out, List.drop_append_of_le_length (by rw [List.length_take]; omega)], by rw [hst.out]; exact hown, hb⟩
        case measure => simp [intOf]; omega
    · obtain ⟨K, hK⟩ : ∃ K, l.length = K := ⟨_, rfl⟩
      obtain rfl : k = K := by omega
      have htl : l.take k = l := by rw [← hK, List.take_length]
      have hks : s.size = k := by omega
      have c1 : (0 : Int) ≤ (i : Int) := by omega
      have c2 : (i : Int) ≤ (k : Int) := by omega
      have hx := HE.out i k
      rw [← HC.out, htl] at hx
      have HW := Lib.hid (show wordsC l = (stC (l.take k)).1 ++ [(stC l).2] by rw [htl]; rfl)
      clear htl HLK hK
      go_wp2_with (at_builtin; refine wpList_append_own _ rfl _ _ 98 rfl w.heap.size 9 i0 (.string ⟨#[]⟩) 1 16 Tryd.underlying98 hi hz0 hz1 hz2 rfl (by decide) _ _ _ rfl (hown.alloc _) ⟨wr.heap.size, 0, none⟩ 1 1 [bytesV (stC l).2] rfl rfl ?c1 ?c2 ?c3 ?c4 ?c5 ?_)
      case c1 =>
        intro j u hj
        match j, hj with
        | 0, hj => simp at hj; subst hj; simp [Addr.add, bytesV]
      case c2 => intro u hu; simp at hu; subst hu; rfl
      case c3 => unfold maxLen; omega
      case c4 => omega
      case c5 => have := hb.size; simp; omega
      · intro v' w4 hown' hgrow _
        have R := ownS_step hown hb hown' hgrow
        clear hown' hgrow hown hb
        go_wp2
        go_ret
        exact ⟨_, rfl, by rw [HW.out]; exact R.1, R.2⟩
end Go.Proofs.YtiinifcepcaonaaDoor
