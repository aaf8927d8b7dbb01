/-
  The walks of ideal.World.place's function, of sort.Search over such a one, and of place.
-/
import Derived.Test.YtmhbphmdfnlmkabGreatVa
import Derived.Deep.LoopGhost
import Derived.Shelf.Abstract
namespace Go.Proofs.YtmhbphmdfnlmkabGreat
open Go.RowKit
namespace Idl
section
variable {own : Nat → Prop} {sv : Nat → Value} {loc : Nat → Nat} {b : Nat} {S : St}
theorem belowD {B : Nat} {a w : World} (h : Below B a w) {n : Nat} : Below B a (w.drewN n) := ⟨h.os, h.tape, h.output, h.size, h.block⟩
def boxes (w : World) (b : Nat) (d : Int) (s : ByteArray) : World :=
  ((w.alloc (Obj.cells #[Value.pointer (some { block := b, off := 0 })] 0)).alloc (Obj.cells #[Value.int IntKind.i64 d] 3)).alloc (Obj.cells #[Value.string s] 9)
theorem boxes_cells (w : World) (b : Nat) (d : Int) (s : ByteArray) :
    (boxes w b d s).cell? ⟨w.heap.size, 0, none⟩ = some (.pointer (some ⟨b, 0, none⟩)) ∧ (boxes w b d s).cell? ⟨w.heap.size + 1, 0, none⟩ = some (.int .i64 d) ∧ (boxes w b d s).cell? ⟨w.heap.size + 1 + 1, 0, none⟩ = some (.string s) := by
  have e1 : (w.alloc (Obj.cells #[Value.pointer (some { block := b, off := 0 })] 0)).heap.size = w.heap.size + 1 := by simp
  have e2 : ((w.alloc (Obj.cells #[Value.pointer (some { block := b, off := 0 })] 0)).alloc (Obj.cells #[Value.int IntKind.i64 d] 3)).heap.size = w.heap.size + 1 + 1 := by simp
  refine ⟨?_, ?_, ?_⟩
  · unfold boxes
    rw [World.cell?_alloc_past _ _ _ (by rw [e2]; omega), World.cell?_alloc_past _ _ _ (by rw [e1]; omega), World.cell?_alloc_at _ _ _ _ rfl]; rfl
  · unfold boxes
    rw [World.cell?_alloc_past _ _ _ (by rw [e2]; omega), World.cell?_alloc_at _ _ _ _ e1.symm]; rfl
  · unfold boxes
    rw [World.cell?_alloc_at _ _ _ _ e2.symm]; rfl
theorem boxes_below (w : World) (b : Nat) (d : Int) (s : ByteArray) : Below w.heap.size w (boxes w b d s) :=
  (((Below.refl _ w).alloc (Nat.le_refl _) _).alloc (by simp) _).alloc (by simp; omega) _
end
end Idl
end Go.Proofs.YtmhbphmdfnlmkabGreat
