/- TurnOf and TurnMade, their answers in one form; how long the answers of chapter 7 are. -/
import Derived.Test.YtipndddmjgjgpabDoorTrnK
namespace Go.Proofs.YtipndddmjgjgpabDoor
open Go.RowKit

theorem thL_few {a b : List Int} : (thL a b).length ≤ 5 := by
  cases h : thB a b
  · rw [thL_no h]; simp
  · rw [thL_yes h, thn_len]
    have := (thB_true.1 h).1.len; have := (thB_true.1 h).1.m5; omega
theorem bkL_few {a : List Int} : (bkL a).length ≤ 5 := by
  cases h : odB a a.length
  · rw [bkL_no h]; simp
  · rw [bkL_yes h, bck_len]
    have := (odB_true.1 h).len; have := (odB_true.1 h).m5; omega
theorem ofrL_few {p q s1 a1 s2 a2 : Int} {g h e1 t1 e2 t2 : List Int} : (ofrL p g q h s1 e1 a1 t1 s2 e2 a2 t2).length ≤ 5 := by
  unfold ofrL; split
  · exact thL_few
  · simp
section
variable (p : Int) (g : List Int) (q : Int) (h known further : List Int) (ask : Int) (tell : List Int)
def ofPx : Int := if ofT p g q h known further ask then p else 0
def ofEx : List Int := if ofT p g q h known further ask then mov further g else []
def ofNx : Int := if ofT p g q h known further ask then ask else 0
def ofYx : List Int := if ofT p g q h known further ask then toldT known further ask else []
def mdPx : Int := if mdT p g q h ask tell then p else 0
def mdEx : List Int := if mdT p g q h ask tell then mov tell (frm ask g h) else []
def mdNx : Int := if mdT p g q h ask tell then ask else 0
def mdYx : List Int := if mdT p g q h ask tell then tell else []
end
section
variable {p q ask : Int} {g h known further tell : List Int} {w w' : World} {e : Ending}
theorem OfPost.x (k : OfPost p g q h known further ask w e w') : TrnPost w (ofPx p g q h known further ask) (ofEx p g q h known further ask) (ofNx p g q h known further ask) (ofYx p g q h known further ask) (ofT p g q h known further ask) e w' := by
  unfold OfPost at k
  cases b : ofT p g q h known further ask <;> (rw [b] at k; simpa [ofPx, ofEx, ofNx, ofYx, b] using k)
theorem MdPost.x (k : MdPost p g q h ask tell w e w') : TrnPost w (mdPx p g q h ask tell) (mdEx p g q h ask tell) (mdNx p g q h ask tell) (mdYx p g q h ask tell) (mdT p g q h ask tell) e w' := by
  unfold MdPost at k
  cases b : mdT p g q h ask tell <;> (rw [b] at k; simpa [mdPx, mdEx, mdNx, mdYx, b] using k)
theorem ofEx_few : (ofEx p g q h known further ask).length ≤ 50 := by
  unfold ofEx; split
  · rename_i k; have k := ofT_true.1 k; rw [mov_len k.of k.gg]; exact k.gg.few
  · simp
theorem ofYx_few : (ofYx p g q h known further ask).length ≤ 5 := by
  unfold ofYx; split
  · rename_i k; have k := (ofT_true.1 k).told; have := k.len; have := k.m5; omega
  · simp
theorem mdEx_few : (mdEx p g q h ask tell).length ≤ 50 := by
  unfold mdEx; split
  · rename_i k; have k := mdT_true.1 k; have hg := frm_gk (ask := ask) k.gg (by rw [k.e]; exact k.gh : Gk p h); rw [mov_len k.o hg]; exact hg.few
  · simp
theorem mdYx_few : (mdYx p g q h ask tell).length ≤ 5 := by
  unfold mdYx; split
  · rename_i k; have k := (mdT_true.1 k).o; have := k.len; have := k.m5; omega
  · simp
end
theorem few5 {n : Nat} (h : n ≤ 5) : n ≤ maxLen := by unfold maxLen; omega
theorem few50 {n : Nat} (h : n ≤ 50) : n ≤ maxLen := by unfold maxLen; omega
end Go.Proofs.YtipndddmjgjgpabDoor
