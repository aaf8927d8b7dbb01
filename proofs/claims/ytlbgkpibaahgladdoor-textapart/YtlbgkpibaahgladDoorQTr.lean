/-
  The walk of eiderdownref.EntryAs where a name comes.
-/
import Derived.Test.YtlbgkpibaahgladDoorQTq
namespace Go.Proofs.YtlbgkpibaahgladDoor
open Go.RowKit
end Go.Proofs.YtlbgkpibaahgladDoor
