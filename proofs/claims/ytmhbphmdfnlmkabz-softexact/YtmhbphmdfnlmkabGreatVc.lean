/-
  The walks of ideal.World.file and check.
-/
import Derived.Test.YtmhbphmdfnlmkabGreatVb
namespace Go.Proofs.YtmhbphmdfnlmkabGreat
open Go.RowKit
namespace Idl
def fptr (loc : Nat → Nat) : Option Nat → Value
  | none => .pointer none
  | some n => .pointer (some ⟨loc n, 0, none⟩)
theorem ret_val {a c : Value} (h : a = c) : Ending.returned a = .returned c := by rw [h]
section
variable {own : Nat → Prop} {sv : Nat → Value} {loc : Nat → Nat} {b : Nat} {S : St}
theorem stp_cells (w : World) (x : Stp) (bx : Nat) (hbx : bx = w.heap.size) : ∀ j v, (stpA x)[j]? = some v → (w.alloc (.cells (stpA x) 37)).cell? ⟨bx, j, none⟩ = some v := fun j v hj => by
  rw [World.cell?_alloc_at _ _ _ _ hbx]; exact hj
theorem stp_kept (w : World) (x : Stp) (W : World) (bW : Below (w.alloc (.cells (stpA x) 37)).heap.size (w.alloc (.cells (stpA x) 37)) W) (j : Nat) (v : Value) (hj : (stpA x)[j]? = some v) : W.cell? ⟨w.heap.size, j, none⟩ = some v := by
  rw [bW.cell (p := ⟨w.heap.size, j, none⟩) (by simp)]
  exact stp_cells w x w.heap.size rfl j v hj
end
end Idl
end Go.Proofs.YtmhbphmdfnlmkabGreat
