/-
  The walk of eiderdownref.EntryAs.
-/
import Derived.Test.YtlbgkpibaahgladDoorQTo
import Derived.RegionTactic
import Derived.BigRegion
import Derived.ChangeAlike
namespace Go.Proofs.YtlbgkpibaahgladDoor
open Go.RowKit
end Go.Proofs.YtlbgkpibaahgladDoor
