/-
  The walks of safe.part, mayCome, mayGo.
-/
import Derived.Test.YtlbgkpibaahglacDoorTa
namespace Go.Proofs.YtlbgkpibaahglacDoor
open Go.RowKit
theorem drewNs {w : World} {a b : Nat} : (w.drewN a).drewN b = w.drewN (a + b) := drewNN w a b
theorem drewN3 {w : World} {a b c : Nat} : ((w.drewN a).drewN b).drewN c = w.drewN (a + (b + c)) := by rw [drewNN, drewNN]
theorem quiet_same2 {P : Program} {f : FuncId} {args : Array Value} {w : World} {a n : Nat} {v : Value}
    (h : Calls P f args (w.drewN (a + n)) fun e w' => e = .returned v ∧ w' = w.drewN (a + n)) : Calls P f args (w.drewN (a + n)) fun e w'' => e = .returned v ∧ ∃ m, w'' = w.drewN (a + m) :=
  h.mono fun _ _ ⟨he, hm⟩ => ⟨he, n, hm⟩
end Go.Proofs.YtlbgkpibaahglacDoor
