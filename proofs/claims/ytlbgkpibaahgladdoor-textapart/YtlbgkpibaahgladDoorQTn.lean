/-
  The walks of eiderdownref.BlockOf, InodeAs.
-/
import Derived.Test.YtlbgkpibaahgladDoorQTm
namespace Go.Proofs.YtlbgkpibaahgladDoor
open Go.RowKit
end Go.Proofs.YtlbgkpibaahgladDoor
