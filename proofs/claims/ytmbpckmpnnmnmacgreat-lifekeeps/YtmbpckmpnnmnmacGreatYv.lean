/-
  The walks of ideal.World.place's function, of sort.Search over such a one, and of place.
-/
import Derived.Test.YtmbpckmpnnmnmacGreatVa
import Derived.Deep.LoopGhost
import Derived.Shelf.Abstract
import Derived.Maps.AppendAt
namespace Go.Proofs.YtmbpckmpnnmnmacGreat
open Go.RowKit
namespace Idl
section
variable {own : Nat → Prop} {sv : Nat → Value} {loc : Nat → Nat} {b : Nat} {S : St}
theorem belowD {B : Nat} {a w : World} (h : Below B a w) {n : Nat} : Below B a (w.drewN n) := ⟨h.os, h.tape, h.output, h.size, h.block⟩
def boxes (w : World) (b : Nat) (d : Int) (s : ByteArray) : World :=
  ((w.alloc (Obj.cells #[Value.pointer (some { block := b, off := 0 })] 0)).alloc (Obj.cells #[Value.int IntKind.i64 d] 3)).alloc (Obj.cells #[Value.string s] 9)
theorem boxes_cells (w : World) (b : Nat) (d : Int) (s : ByteArray) :
    (boxes w b d s).cell? ⟨w.heap.size, 0, none⟩ = some (.pointer (some ⟨b, 0, none⟩)) ∧ (boxes w b d s).cell? ⟨w.heap.size + 1, 0, none⟩ = some (.int .i64 d) ∧ (boxes w b d s).cell? ⟨w.heap.size + 1 + 1, 0, none⟩ = some (.string s) := by
  have e1 : (w.alloc (Obj.cells #[Value.pointer (some { block := b, off := 0 })] 0)).heap.size = w.heap.size + 1 := by simp
  have e2 : ((w.alloc (Obj.cells #[Value.pointer (some { block := b, off := 0 })] 0)).alloc (Obj.cells #[Value.int IntKind.i64 d] 3)).heap.size = w.heap.size + 1 + 1 := by simp
  refine ⟨?_, ?_, ?_⟩
  · unfold boxes
    rw [World.cell?_alloc_past _ _ _ (by rw [e2]; omega), World.cell?_alloc_past _ _ _ (by rw [e1]; omega), World.cell?_alloc_at _ _ _ _ rfl]; rfl
  · unfold boxes
    rw [World.cell?_alloc_past _ _ _ (by rw [e2]; omega), World.cell?_alloc_at _ _ _ _ e1.symm]; rfl
  · unfold boxes
    rw [World.cell?_alloc_at _ _ _ _ e2.symm]; rfl
theorem boxes_below (w : World) (b : Nat) (d : Int) (s : ByteArray) : Below w.heap.size w (boxes w b d s) :=
  (((Below.refl _ w).alloc (Nat.le_refl _) _).alloc (by simp) _).alloc (by simp; omega) _
end
end Idl
end Go.Proofs.YtmbpckmpnnmnmacGreat
namespace Go.Proofs.YtmbpckmpnnmnmacGreat
open Go.RowKit
namespace Idl
def fptr (loc : Nat → Nat) : Option Nat → Value
  | none => .pointer none
  | some n => .pointer (some ⟨loc n, 0, none⟩)
theorem ret_val {a c : Value} (h : a = c) : Ending.returned a = .returned c := by rw [h]
section
variable {own : Nat → Prop} {sv : Nat → Value} {loc : Nat → Nat} {b : Nat} {S : St}
theorem stp_cells (w : World) (x : Stp) (bx : Nat) (hbx : bx = w.heap.size) : ∀ j v, (stpA x)[j]? = some v → (w.alloc (.cells (stpA x) 31)).cell? ⟨bx, j, none⟩ = some v := fun j v hj => by
  rw [World.cell?_alloc_at _ _ _ _ hbx]; exact hj
theorem stp_kept (w : World) (x : Stp) (W : World) (bW : Below (w.alloc (.cells (stpA x) 31)).heap.size (w.alloc (.cells (stpA x) 31)) W) (j : Nat) (v : Value) (hj : (stpA x)[j]? = some v) : W.cell? ⟨w.heap.size, j, none⟩ = some v := by
  rw [bW.cell (p := ⟨w.heap.size, j, none⟩) (by simp)]
  exact stp_cells w x w.heap.size rfl j v hj
end
end Idl
end Go.Proofs.YtmbpckmpnnmnmacGreat
namespace Go.Proofs.YtmbpckmpnnmnmacGreat
open Go.RowKit
namespace Idl
theorem str_info : ∃ i, Tryz.prog.info? 9 = some i ∧ i.zero = some (.string ⟨#[]⟩) ∧ i.size = 1 ∧ i.bytes = 16 := by
  have h : (Tryz.prog.info? 9).map (fun i => (i.zero, i.size, i.bytes)) = some (some (.string ⟨#[]⟩), 1, 16) := by kernel_rfl
  cases hq : Tryz.prog.info? 9 with
  | none => rw [hq] at h; cases h
  | some i =>
    rw [hq] at h
    simp only [Option.map_some, Option.some.injEq, Prod.mk.injEq] at h
    exact ⟨i, rfl, h.1, h.2.1, h.2.2⟩
theorem one_new (W : World) (x : Value) (t : TypeId) (k : Nat) (hk : k = W.heap.size) : ∀ j u, [x][j]? = some u → (W.alloc (.cells #[x] t)).cell? ((⟨k, 0, none⟩ : Addr).add j) = some u := fun j u hj => by
  cases j with
  | zero =>
    rw [Addr.add_lit, World.cell?_alloc_at _ _ _ _ hk]
    simpa using hj
  | succ j => simp at hj
theorem one_str (s : ByteArray) : ∀ u ∈ [Value.string s], u.oneCell' = true := fun u hu => by
  rcases List.mem_cons.1 hu with rfl | hu
  · rfl
  · cases hu
def strs (l : List ByteArray) : List Value := l.map .string
theorem strs_len (l : List ByteArray) : (strs l).length = l.length := by simp [strs]
section
variable {own : Nat → Prop} {sv : Nat → Value} {loc : Nat → Nat} {w : World} {b : Nat} {S : St}
end
end Idl
end Go.Proofs.YtmbpckmpnnmnmacGreat
