/-
  The walk of eiderdownlaw.one.
-/
import Derived.Test.YtlbgkpibaahglacDoorWj
namespace Go.Proofs.YtlbgkpibaahglacDoor
open Go.RowKit
theorem Two.second {w w1 : World} {c0 c1 : Array Value} (hb : Below (w.heap.size + 1) (w.alloc (.cells c0 34)) w1) : Two w (w1.alloc (.cells c1 34)) w1.heap.size c0 c1 := by
  have hs : w.heap.size + 1 ≤ w1.heap.size := by have := hb.size; simpa using this
  refine ⟨?_, by omega, by simp, ?_, heap_alloc_last _ _⟩
  · exact (((Below.refl w.heap.size w).alloc (Nat.le_refl _) _).trans (hb.mono (by omega))).alloc (by omega) _
  · rw [Below.heap_alloc _ _ _ (by omega), hb.block _ (by omega)]; exact heap_alloc_last _ _
def oneCells : Array Value := ((((((((blankCells.setIfInBounds 10 (.bool true)).setIfInBounds 11 (.int .i64 5)).setIfInBounds 12 (.int .i64 1)).setIfInBounds 14 (.int .i64 3)).setIfInBounds 82 (.int .i64 5)).setIfInBounds 83 (.string ⟨#[120]⟩)).setIfInBounds 58 (.string ⟨#[97]⟩)).setIfInBounds 59 (.int .i64 2)).setIfInBounds 60 (.int .i64 5)
theorem Two.one {w W : World} {g : Nat} (h : Two w W g zeroCells blankCells) : Two w (((((((((W.setCell ⟨g, 10, none⟩ (.bool true)).setCell ⟨g, 11, none⟩ (.int .i64 5)).setCell ⟨g, 12, none⟩ (.int .i64 1)).setCell ⟨g, 14, none⟩ (.int .i64 3)).setCell ⟨g, 82, none⟩ (.int .i64 5)).setCell ⟨g, 83, none⟩ (.string ⟨#[120]⟩)).setCell ⟨g, 58, none⟩ (.string ⟨#[97]⟩)).setCell ⟨g, 59, none⟩ (.int .i64 2)).setCell ⟨g, 60, none⟩ (.int .i64 5)) g zeroCells oneCells := by
  unfold oneCells
  exact (((((((((h.set 10 (.bool true)).set 11 (.int .i64 5)).set 12 (.int .i64 1)).set 14 (.int .i64 3)).set 82 (.int .i64 5)).set 83 (.string ⟨#[120]⟩)).set 58 (.string ⟨#[97]⟩)).set 59 (.int .i64 2)).set 60 (.int .i64 5))
theorem size_one : oneCells.size = 94 := by kernel_rfl
theorem one_all : oneCells.all (·.oneCell') = true := by kernel_rfl
theorem size_blank : blankCells.size = 94 := size_newTo 8
theorem blank_all : blankCells.all (·.oneCell') = true := new_all
set_option maxHeartbeats 1000000 in
theorem one_any (w : World) :
    Calls Tryd.prog 13 #[] w fun e w' => e = .returned (.agg oneCells) ∧ Below w.heap.size w w' := by
  have z := zero_img.1
  have hzb : zeroCells.size = blankCells.size := by rw [size_blank]; exact size_newTo 0
  have hib := img_info size_blank
  have Z := hide hzb
  have I := hide hib
  clear hzb hib
  go_enter Tryd.func13, Tryd.ntmps13
  go_wp2_with (first | (go_at_call 22; refine (blank_any _).mono ?_; rintro e w1 ⟨rfl, hb1⟩; have ht0 := hide (Two.second (w := w) (w1 := w1) (c0 := zeroCells) (c1 := zeroCells) (by simpa using hb1))) | (have hx := unhide ht0; refine wpList_store_row rfl 34 _ _ rfl w1.heap.size blankCells rfl rfl 34 zeroCells hx.b1 (unhide I) (unhide Z) blank_all ?_; have ht1 := hide ((unhide ht0).row blankCells); clear hx ht0 hb1; generalize (w1.alloc (.cells zeroCells 34)).setRow w1.heap.size blankCells = W at ht1 ⊢; generalize w1.heap.size = g at ht1 ⊢; obtain ⟨v10, f10⟩ := (unhide ht1).cell (i := 10) (by rw [size_blank]; omega); obtain ⟨v11, f11⟩ := (unhide ht1).cell (i := 11) (by rw [size_blank]; omega); obtain ⟨v12, f12⟩ := (unhide ht1).cell (i := 12) (by rw [size_blank]; omega); obtain ⟨v14, f14⟩ := (unhide ht1).cell (i := 14) (by rw [size_blank]; omega); obtain ⟨v82, f82⟩ := (unhide ht1).cell (i := 82) (by rw [size_blank]; omega); obtain ⟨v83, f83⟩ := (unhide ht1).cell (i := 83) (by rw [size_blank]; omega); obtain ⟨v58, f58⟩ := (unhide ht1).cell (i := 58) (by rw [size_blank]; omega); obtain ⟨v59, f59⟩ := (unhide ht1).cell (i := 59) (by rw [size_blank]; omega); obtain ⟨v60, f60⟩ := (unhide ht1).cell (i := 60) (by rw [size_blank]; omega); have fz := (unhide ht1).frozen; have ht2 := hide (unhide ht1).one; clear ht1) | (refine wpList_load_row rfl 34 _ rfl g rfl 34 oneCells (0, 0) _ ?hg img_under rfl (img_info size_one) ?_; exact (unhide ht2).b1) | (refine wpList_store_row rfl 34 _ _ rfl w.heap.size oneCells rfl rfl 34 zeroCells ?hgs (img_info size_one) (by rw [size_one]; exact size_newTo 0) one_all ?_; exact (unhide ht2).b0))
  refine bodyPost_ret (v := .agg oneCells) ?_ rfl ⟨rfl, below_setRow (unhide ht2).below (Nat.le_refl _) _⟩
  exact results_cell_row (P := Tryd.prog) Tryd.results13 _ _ w.heap.size 34 oneCells (0, 0) _ rfl (setRow_heap _ _ _ _ _ _ (unhide ht2).b0) img_under rfl (img_info size_one)
end Go.Proofs.YtlbgkpibaahglacDoor
