/-
  The walks of image.Find at whatever arguments, Name, hasPart, checkPart, Holds.
-/
import Derived.Test.YtlbgkpibaahglacDoorWa
namespace Go.Proofs.YtlbgkpibaahglacDoor
open Go.RowKit
theorem all_take_snoc {s : ByteArray} {f : UInt8 → Bool} {k : Nat} (h : k < s.size) : (s.toList.take (k + 1)).all f = ((s.toList.take k).all f && f s[k]) := by
  rw [ByteArray.toList_eq, List.take_succ_eq_append_getElem (by simpa using h), List.all_append]
  simp
  rfl
theorem len_toList (s : ByteArray) : s.toList.length = s.size := by rw [ByteArray.toList_eq]; cases s; rfl
def ltr (c : UInt8) : Bool := decide (97 ≤ c.toNat) && decide (c.toNat ≤ 122)
theorem isNmB_eq (s : ByteArray) : Img.isNmB s.toList = (decide (1 ≤ s.size) && decide (s.size ≤ 6) && s.toList.all ltr) := by
  unfold Img.isNmB; rw [len_toList]; rfl
theorem nm_false_of {s : ByteArray} {k : Nat} (h : k < s.size) (hc : ltr s[k] = false) : Img.isNmB s.toList = false := by
  have h1 := all_take_snoc (f := ltr) h
  rw [hc, Bool.and_false] at h1
  have h2 : s.toList.all ltr = false := by
    rw [← List.take_append_drop (k + 1) s.toList, List.all_append, h1, Bool.false_and]
  rw [isNmB_eq, h2, Bool.and_false]
end Go.Proofs.YtlbgkpibaahglacDoor
