/-
  The walk of image.Exact.
-/
import Derived.Test.YtlbgkpibaahglacDoorWg
namespace Go.Proofs.YtlbgkpibaahglacDoor
open Go.RowKit
def inexact (m : Img) (n : Nat) : Bool := m.live n && (decide (m.links n < 1) || !(m.links n == (m.refs n : Int)))
end Go.Proofs.YtlbgkpibaahglacDoor
