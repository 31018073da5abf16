/- impl.ReadTalk. -/
import Derived.Test.YtiinifcepcaonaaDoorReadI
namespace Go.Proofs.YtiinifcepcaonaaDoor
open Go.RowKit

theorem bytes_inj {a b : ByteArray} (h : a.toList = b.toList) : a = b := by
  rw [ByteArray.toList_eq, ByteArray.toList_eq] at h
  exact ByteArray.ext (Array.toList_inj.1 h)
theorem cutZ_size (s : ByteArray) : (cutZ s).size ≤ s.size := by
  show ((Lib.cut s.data.toList [44]).2.1.toArray).size ≤ s.size
  unfold Lib.cut
  split
  · show (List.drop _ s.data.toList).toArray.size ≤ s.data.size
    rw [List.size_toArray, List.length_drop, Array.length_toList]
    exact Nat.sub_le _ _
  · exact Nat.zero_le _

end Go.Proofs.YtiinifcepcaonaaDoor
