/-
  The walks of image.Free, checkSlot.
-/
import Derived.Test.YtlbgkpibaahglacDoorWb
import Derived.Deep.QuietTactic
import Derived.BigQuiet
namespace Go.Proofs.YtlbgkpibaahglacDoor
open Go.RowKit
theorem belowN {B : Nat} {a w : World} (h : Below B a w) : ∀ {n : Nat}, Below B a (w.drewN n) := fun {n} => by
  induction n with
  | zero => exact h
  | succ n ih => exact ih.drew
end Go.Proofs.YtlbgkpibaahglacDoor
