/-
  The walks of image.isData, isInode, Find, Refs.
-/
import Derived.Test.YtlbgkpibaahgladDoorMem
namespace Go.Proofs.YtlbgkpibaahgladDoor
open Go.RowKit
end Go.Proofs.YtlbgkpibaahgladDoor
