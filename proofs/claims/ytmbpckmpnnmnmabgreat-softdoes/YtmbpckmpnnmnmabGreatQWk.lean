/-
  The walk of eiderdownlaw.one.
-/
import Derived.Test.YtmbpckmpnnmnmabGreatQWj
namespace Go.Proofs.YtmbpckmpnnmnmabGreat
open Go.RowKit
theorem size_blank : blankCells.size = 94 := size_newTo 8
theorem blank_all : blankCells.all (·.oneCell') = true := new_all
end Go.Proofs.YtmbpckmpnnmnmabGreat
