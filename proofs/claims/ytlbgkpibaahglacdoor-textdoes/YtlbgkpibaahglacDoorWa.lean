/-
  The walks of image.isData, isInode, Find, Refs.
-/
import Derived.Test.YtlbgkpibaahglacDoorMem
namespace Go.Proofs.YtlbgkpibaahglacDoor
open Go.RowKit
end Go.Proofs.YtlbgkpibaahglacDoor
