/-
  The walk of eiderdownlaw.one.
-/
import Derived.Test.YtmbpckmpnnmnmacGreatWj
namespace Go.Proofs.YtmbpckmpnnmnmacGreat
open Go.RowKit
theorem Two.second {w w1 : World} {c0 c1 : Array Value} (hb : Below (w.heap.size + 1) (w.alloc (.cells c0 44)) w1) : Two w (w1.alloc (.cells c1 44)) w1.heap.size c0 c1 := by
  have hs : w.heap.size + 1 ≤ w1.heap.size := by have := hb.size; simpa using this
  refine ⟨?_, by omega, by simp, ?_, heap_alloc_last _ _⟩
  · exact (((Below.refl w.heap.size w).alloc (Nat.le_refl _) _).trans (hb.mono (by omega))).alloc (by omega) _
  · rw [Below.heap_alloc _ _ _ (by omega), hb.block _ (by omega)]; exact heap_alloc_last _ _
def oneCells : Array Value := ((((((((blankCells.setIfInBounds 10 (.bool true)).setIfInBounds 11 (.int .i64 5)).setIfInBounds 12 (.int .i64 1)).setIfInBounds 14 (.int .i64 3)).setIfInBounds 82 (.int .i64 5)).setIfInBounds 83 (.string ⟨#[120]⟩)).setIfInBounds 58 (.string ⟨#[97]⟩)).setIfInBounds 59 (.int .i64 2)).setIfInBounds 60 (.int .i64 5)
theorem Two.one {w W : World} {g : Nat} (h : Two w W g zeroCells blankCells) : Two w (((((((((W.setCell ⟨g, 10, none⟩ (.bool true)).setCell ⟨g, 11, none⟩ (.int .i64 5)).setCell ⟨g, 12, none⟩ (.int .i64 1)).setCell ⟨g, 14, none⟩ (.int .i64 3)).setCell ⟨g, 82, none⟩ (.int .i64 5)).setCell ⟨g, 83, none⟩ (.string ⟨#[120]⟩)).setCell ⟨g, 58, none⟩ (.string ⟨#[97]⟩)).setCell ⟨g, 59, none⟩ (.int .i64 2)).setCell ⟨g, 60, none⟩ (.int .i64 5)) g zeroCells oneCells := by
  unfold oneCells
  exact (((((((((h.set 10 (.bool true)).set 11 (.int .i64 5)).set 12 (.int .i64 1)).set 14 (.int .i64 3)).set 82 (.int .i64 5)).set 83 (.string ⟨#[120]⟩)).set 58 (.string ⟨#[97]⟩)).set 59 (.int .i64 2)).set 60 (.int .i64 5))
theorem size_one : oneCells.size = 94 := by kernel_rfl
theorem one_all : oneCells.all (·.oneCell') = true := by kernel_rfl
theorem size_blank : blankCells.size = 94 := size_newTo 8
theorem blank_all : blankCells.all (·.oneCell') = true := new_all
end Go.Proofs.YtmbpckmpnnmnmacGreat
