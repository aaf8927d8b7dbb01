/-
  The walk of eiderdownlaw.imageBegun.
-/
import Derived.Test.YtlbgkpibaahglacDoorWl
namespace Go.Proofs.YtlbgkpibaahglacDoor
open Go.RowKit
theorem eq_blank (w : World) : (binOp .eql 34 (.agg blankCells) (.agg blankCells)).run Tryd.prog w = .ok (.bool true) w := by kernel_rfl
theorem eq_free (w : World) : (binOp .eql 24 (.agg #[.bool false, .int .i64 0, .int .i64 0, .int .i64 (-1), .int .i64 (-1)]) (.agg #[.bool false, .int .i64 0, .int .i64 0, .int .i64 (-1), .int .i64 (-1)])).run Tryd.prog w = .ok (.bool true) w := by kernel_rfl
/-- the two images of imageBegun, in memory -/
structure Duo (w wr : World) (g1 g2 : Nat) (c1 c2 : Array Value) : Prop where
  below : Below w.heap.size w wr
  lo : w.heap.size ≤ g1
  lt : g1 < g2
  size : g2 < wr.heap.size
  b1 : wr.heap[g1]? = some (.cells c1 34)
  b2 : wr.heap[g2]? = some (.cells c2 34)
theorem Duo.call {w wr w1 : World} {g1 g2 : Nat} {c1 c2 : Array Value} (h : Duo w wr g1 g2 c1 c2) (hb : Below wr.heap.size wr w1) : Duo w w1 g1 g2 c1 c2 :=
  have := h.size
  have := h.lt
  have := h.lo
  have := hb.size
  ⟨h.below.trans (hb.mono (by omega)), h.lo, h.lt, by omega, by rw [hb.block _ (by omega)]; exact h.b1, by rw [hb.block _ (by omega)]; exact h.b2⟩
theorem has_of_row {w : World} {g : Nat} {cs : Array Value} {m : Img} (hg : w.heap[g]? = some (.cells cs 34)) (h : IsImg cs m) : HasImg w g m := by
  have hlt : g < w.heap.size := (Array.getElem?_eq_some_iff.1 hg).1
  have hc : ∀ i, w.cell? ⟨g, i, none⟩ = cs[i]? := fun i => cell_of_row _ _ _ _ _ _ hg
  exact ⟨hlt, fun n h1 => by rw [hc]; exact h.live n h1, fun n h1 => by rw [hc]; exact h.stamp n h1, fun n h1 => by rw [hc]; exact h.links n h1,
    fun n p h1 h2 => by rw [hc]; exact h.part n p h1 h2, fun d s h1 h2 => by rw [hc]; exact h.name d s h1 h2, fun d s h1 h2 => by rw [hc]; exact h.ino d s h1 h2,
    fun d s h1 h2 => by rw [hc]; exact h.est d s h1 h2, fun x h1 => by rw [hc]; exact h.of x h1, fun x h1 => by rw [hc]; exact h.text x h1, h.small, h.short⟩
theorem Duo.has1 {w wr : World} {g1 g2 : Nat} (h : Duo w wr g1 g2 oneCells lessCells) : HasImg wr g1 (imgOf oneCells) := has_of_row h.b1 one_kinds.isImg
theorem Duo.has2 {w wr : World} {g1 g2 : Nat} (h : Duo w wr g1 g2 oneCells lessCells) : HasImg wr g2 (imgOf lessCells) := has_of_row h.b2 less_kinds.isImg
structure Uno (w wr : World) (g : Nat) (c : Array Value) : Prop where
  below : Below w.heap.size w wr
  lo : w.heap.size ≤ g
  size : g < wr.heap.size
  b : wr.heap[g]? = some (.cells c 34)
theorem Uno.start {w w1 : World} (hb : Below w.heap.size w w1) (c : Array Value) : Uno w ((w1.alloc (.cells zeroCells 34)).setRow w1.heap.size c) w1.heap.size c :=
  ⟨below_setRow (hb.alloc hb.size _) hb.size _, hb.size, by simp, setRow_heap _ _ _ _ _ _ (heap_alloc_last _ _)⟩
theorem Uno.more {w W : World} {g : Nat} {c : Array Value} (h : Uno w W g c) (c' : Array Value) : Duo w ((W.alloc (.cells zeroCells 34)).setRow W.heap.size c') g W.heap.size c c' :=
  have := h.size
  have := h.lo
  ⟨below_setRow (h.below.alloc (by omega) _) (by omega) _, h.lo, h.size, by simp, by rw [setRow_other _ _ _ _ (by omega), Below.heap_alloc _ _ _ (by omega)]; exact h.b, setRow_heap _ _ _ _ _ _ (heap_alloc_last _ _)⟩
theorem Duo.less {w wr : World} {g1 g2 : Nat} (h : Duo w wr g1 g2 oneCells oneCells) : Duo w (wr.setCell ⟨g2, 12, none⟩ (.int .i64 0)) g1 g2 oneCells lessCells :=
  have := h.lt
  have := h.lo
  ⟨h.below.setCell (by simp; omega) _, h.lo, h.lt, by simpa using h.size, by rw [heap_setCell_other _ _ _ _ (by simp; omega)]; exact h.b1, heap_setCell_same _ _ _ _ _ _ h.b2⟩
theorem Duo.cell {w wr : World} {g1 g2 : Nat} {c1 c2 : Array Value} (h : Duo w wr g1 g2 c1 c2) {i : Nat} (hi : i < c2.size) : ∃ v, wr.cell? ⟨g2, i, none⟩ = some v :=
  ⟨c2[i], by rw [cell_of_row _ _ _ _ _ _ h.b2]; simp [hi]⟩
theorem Duo.frozen {w wr : World} {g1 g2 : Nat} {c1 c2 : Array Value} (h : Duo w wr g1 g2 c1 c2) (i : Nat) : wr.frozen? ⟨g2, i, none⟩ = false := frozen_of_row _ _ _ _ _ h.b2
end Go.Proofs.YtlbgkpibaahglacDoor
