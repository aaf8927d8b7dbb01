/-
  The walk of image.checkInode at a live inode, and joined.
-/
import Derived.Test.YtlbgkpibaahglacDoorWe
namespace Go.Proofs.YtlbgkpibaahglacDoor
open Go.RowKit
end Go.Proofs.YtlbgkpibaahglacDoor
