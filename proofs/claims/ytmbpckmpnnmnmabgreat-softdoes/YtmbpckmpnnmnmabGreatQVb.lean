/-
  The walks of ideal.World.place's function, of sort.Search over such a one, and of place.
-/
import Derived.Test.YtmbpckmpnnmnmabGreatQVa
import Derived.Deep.LoopGhost
import Derived.Shelf.Abstract
namespace Go.Proofs.YtmbpckmpnnmnmabGreat
open Go.RowKit
namespace Idl
section
variable {own : Nat → Prop} {sv : Nat → Value} {loc : Nat → Nat} {b : Nat} {S : St}
theorem belowD {B : Nat} {a w : World} (h : Below B a w) {n : Nat} : Below B a (w.drewN n) := ⟨h.os, h.tape, h.output, h.size, h.block⟩
end
end Idl
end Go.Proofs.YtmbpckmpnnmnmabGreat
