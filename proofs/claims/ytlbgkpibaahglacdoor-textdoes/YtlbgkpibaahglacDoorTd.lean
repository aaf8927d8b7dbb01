/-
  The walk of safe.Entry.
-/
import Derived.Test.YtlbgkpibaahglacDoorTc
import Derived.RegionTactic
import Derived.BigRegion
import Derived.ChangeAlike
namespace Go.Proofs.YtlbgkpibaahglacDoor
open Go.RowKit
theorem eqEnt (na : ByteArray) (ia sa : Int) (nb : ByteArray) (ib sb : Int) (w : World) : (binOp .eql 27 (.agg #[.string na, .int .i64 ia, .int .i64 sa]) (.agg #[.string nb, .int .i64 ib, .int .i64 sb])).run Tryd.prog w = .ok (.bool (na.toList == nb.toList && ia == ib && sa == sb)) w := by
  have u1 := Tryd.underlying3
  have u2 := Tryd.underlying9
  go_simp
  cases h1 : na.toList == nb.toList <;> cases h2 : ia == ib <;> cases h3 : sa == sb <;> simp_all
theorem neqEnt (na : ByteArray) (ia sa : Int) (nb : ByteArray) (ib sb : Int) (w : World) : (binOp .neq 27 (.agg #[.string na, .int .i64 ia, .int .i64 sa]) (.agg #[.string nb, .int .i64 ib, .int .i64 sb])).run Tryd.prog w = .ok (.bool (!(na.toList == nb.toList && ia == ib && sa == sb))) w := by
  have u1 := Tryd.underlying3
  have u2 := Tryd.underlying9
  go_simp
  cases h1 : na.toList == nb.toList <;> cases h2 : ia == ib <;> cases h3 : sa == sb <;> simp_all
def entC (e : Ent) : Array Value := #[.string e.name, .int .i64 e.ino, .int .i64 e.est]
/-- the slots of both, and the answer's, in boxes -/
structure Ents (w W : World) (g1 g2 : Nat) (a b r : Ent) : Prop where
  below : Below w.heap.size w W
  b0 : W.heap[w.heap.size]? = some (.cells (entC r) 27)
  b1 : W.heap[g1]? = some (.cells (entC a) 27)
  b2 : W.heap[g2]? = some (.cells (entC b) 27)
  gt1 : w.heap.size < g1
  gt2 : w.heap.size < g2
theorem Ents.ab (w : World) (a b : Ent) : Ents w (((w.alloc (.cells (entC Ent.none) 27)).alloc (.cells (entC a) 27)).alloc (.cells (entC b) 27)).drew (w.alloc (.cells (entC Ent.none) 27)).heap.size ((w.alloc (.cells (entC Ent.none) 27)).heap.size + 1) a b Ent.none := by
  refine ⟨((((Below.refl _ _).alloc (Nat.le_refl _) _).alloc (by simp) _).alloc (by simp; omega) _).drew, ?_, ?_, ?_, by simp, by simp; omega⟩
  · show ((w.alloc _).alloc _ |>.alloc _).heap[w.heap.size]? = _
    rw [Below.heap_alloc _ _ _ (by simp; omega), Below.heap_alloc _ _ _ (by simp)]; exact heap_alloc_last _ _
  · show ((w.alloc _).alloc _ |>.alloc _).heap[_]? = _
    rw [Below.heap_alloc _ _ _ (by simp)]; exact heap_alloc_last _ _
  · show ((w.alloc _).alloc _ |>.alloc _).heap[_]? = _
    have := heap_alloc_last ((w.alloc (.cells (entC Ent.none) 27)).alloc (.cells (entC a) 27)) (.cells (entC b) 27)
    simpa using this
theorem Ents.ba (w : World) (a b : Ent) : Ents w (((w.alloc (.cells (entC Ent.none) 27)).alloc (.cells (entC b) 27)).alloc (.cells (entC a) 27)).drew ((w.alloc (.cells (entC Ent.none) 27)).heap.size + 1) (w.alloc (.cells (entC Ent.none) 27)).heap.size a b Ent.none :=
  have h := Ents.ab w b a
  ⟨h.below, h.b0, h.b2, h.b1, h.gt2, h.gt1⟩
theorem Ents.call {w W W1 : World} {g1 g2 : Nat} {a b r : Ent} (h : Ents w W g1 g2 a b r) (hb : Below W.heap.size W W1) : Ents w W1 g1 g2 a b r :=
  have l1 := (Array.getElem?_eq_some_iff.1 h.b1).1
  have l2 := (Array.getElem?_eq_some_iff.1 h.b2).1
  have l0 := (Array.getElem?_eq_some_iff.1 h.b0).1
  ⟨h.below.trans (hb.mono h.below.size), by rw [hb.block _ l0]; exact h.b0, by rw [hb.block _ l1]; exact h.b1, by rw [hb.block _ l2]; exact h.b2, h.gt1, h.gt2⟩
theorem Ents.draw {w W : World} {g1 g2 : Nat} {a b r : Ent} (h : Ents w W g1 g2 a b r) (q : Nat) : Ents w (W.drewN q) g1 g2 a b r := h.call (belowN (Below.refl _ _))
theorem Ents.cell1 {w W : World} {g1 g2 : Nat} {a b r : Ent} (h : Ents w W g1 g2 a b r) : W.cell? ⟨g1, 0, none⟩ = some (.string a.name) ∧ W.cell? ⟨g1, 1, none⟩ = some (.int .i64 a.ino) ∧ W.cell? ⟨g1, 2, none⟩ = some (.int .i64 a.est) :=
  ⟨by rw [cell_of_row _ _ _ _ _ _ h.b1]; rfl, by rw [cell_of_row _ _ _ _ _ _ h.b1]; rfl, by rw [cell_of_row _ _ _ _ _ _ h.b1]; rfl⟩
theorem Ents.cell2 {w W : World} {g1 g2 : Nat} {a b r : Ent} (h : Ents w W g1 g2 a b r) : W.cell? ⟨g2, 0, none⟩ = some (.string b.name) ∧ W.cell? ⟨g2, 1, none⟩ = some (.int .i64 b.ino) ∧ W.cell? ⟨g2, 2, none⟩ = some (.int .i64 b.est) :=
  ⟨by rw [cell_of_row _ _ _ _ _ _ h.b2]; rfl, by rw [cell_of_row _ _ _ _ _ _ h.b2]; rfl, by rw [cell_of_row _ _ _ _ _ _ h.b2]; rfl⟩
theorem Ents.cell0 {w W : World} {g1 g2 : Nat} {a b r : Ent} (h : Ents w W g1 g2 a b r) : W.cell? ⟨w.heap.size, 0, none⟩ = some (.string r.name) ∧ W.cell? ⟨w.heap.size, 1, none⟩ = some (.int .i64 r.ino) ∧ W.cell? ⟨w.heap.size, 2, none⟩ = some (.int .i64 r.est) ∧ ∀ i, W.frozen? ⟨w.heap.size, i, none⟩ = false :=
  ⟨by rw [cell_of_row _ _ _ _ _ _ h.b0]; rfl, by rw [cell_of_row _ _ _ _ _ _ h.b0]; rfl, by rw [cell_of_row _ _ _ _ _ _ h.b0]; rfl, fun i => frozen_of_row _ _ _ _ _ h.b0⟩
theorem Ents.ret {w W : World} {g1 g2 : Nat} {a b r : Ent} (h : Ents w W g1 g2 a b r) (e : Ent) :
    Below w.heap.size w (((W.setCell ⟨w.heap.size, 0, none⟩ (.string e.name)).setCell ⟨w.heap.size, 1, none⟩ (.int .i64 e.ino)).setCell ⟨w.heap.size, 2, none⟩ (.int .i64 e.est)) ∧
    (((W.setCell ⟨w.heap.size, 0, none⟩ (.string e.name)).setCell ⟨w.heap.size, 1, none⟩ (.int .i64 e.ino)).setCell ⟨w.heap.size, 2, none⟩ (.int .i64 e.est)).heap[w.heap.size]? = some (.cells (entC e) 27) :=
  ⟨((h.below.setCell (by simp) _).setCell (by simp) _).setCell (by simp) _, heap_setCell_same _ _ _ _ _ _ (heap_setCell_same _ _ _ _ _ _ (heap_setCell_same _ _ _ _ _ _ h.b0))⟩
end Go.Proofs.YtlbgkpibaahglacDoor
