/-
  Images in boxes; the walk of eiderdownlaw.safeBegun.
-/
import Derived.Test.YtmbpckmpnnmnmabGreatQTf
namespace Go.Proofs.YtmbpckmpnnmnmabGreat
open Go.RowKit
section
variable {w wr w1 : World} {l : List (Nat × Array Value)}
end
theorem zero_size {cs : Array Value} {m : Img} (h : IsImg cs m) : zeroCells.size = cs.size := by rw [h.size]; exact size_newTo 0
def blankI : Img := imgOf blankCells
theorem blank_kinds : Kinds blankCells := .of size_blank (by kernel_rfl)
theorem blank_is : IsImg blankCells blankI := blank_kinds.isImg
end Go.Proofs.YtmbpckmpnnmnmabGreat
