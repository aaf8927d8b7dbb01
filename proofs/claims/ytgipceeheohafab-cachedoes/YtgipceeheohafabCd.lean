/-
  The walks of package cache: New, Of, Disk, Clean, Write.
-/
import Derived.Test.YtgipceeheohafabCc
import Derived.Deep.DeepCutAuto
import Derived.Deep.Cut
import Derived.Deep.CutRange
import Derived.Great.BuildSlice
namespace Go.Proofs.Ytgipceeheohafab
open Go.RowKit
theorem run_exec_load_part {P : Program} {o : Oper} {ρ : Operand → Value} (ty : TypeId) (x : Operand) (ho : o.op = .load ty x) (g off n : Nat) (hx : ρ x = .pointer (some ⟨g, off, none⟩)) (w : World) (t : TypeId) (cs vs : Array Value) (d : TypeDesc)
    (hg : w.heap[g]? = some (.cells cs t (0, 0))) (hu : P.underlying ty = some d) (hd : (match d with | .struct _ | .array _ _ => true | _ => false) = true) (hi : (P.info? ty).map (·.size) = some n) (hn : off + n ≤ cs.size) (hv : cs.extract off (off + n) = vs) :
    (execOp ρ o).run P w = .ok (.value (.agg vs)) w := by
  subst hv
  unfold execOp
  simp only [ho, hx, Instr.loadAt, Instr.sureAddr, Sem.run_bind, Sem.run_pure, Result.andThen_ok, run_loadVar_part w g off n t ty cs d hg hu hd hi hn]
theorem run_exec_eql {P : Program} {o : Oper} {ρ : Operand → Value} (ty tz : TypeId) (x y : Operand) (ho : o.op = .binOp .eql ty x y tz) (cs ds : Array Value) (hx : ρ x = .agg cs) (hy : ρ y = .agg ds) (v : Bool)
    (hm : P.eqGuardType P.depth ty = false) (hq : ∀ w, (binOp .eql ty (.agg cs) (.agg ds)).run P w = .ok (.bool v) w) (w : World) : (execOp ρ o).run P w = .ok (.value (.bool v)) w := by
  unfold execOp
  rw [ho]
  go_simp
/-- what Of answers -/
def OfIs (cs : Array Value) (m : Img) (w : World) (e : Ending) (w' : World) : Prop :=
  (m.check = 0 ∧ ∃ g, e = .returned (.pointer (some ⟨g, 0, none⟩)) ∧ w.heap.size ≤ g ∧ w'.heap[g]? = some (.cells (cs ++ cs) 51)) ∨ (m.check ≠ 0 ∧ e = .returned (.pointer none))
set_option maxRecDepth 100000 in
set_option maxHeartbeats 2000000 in
theorem of_any (cs : Array Value) (m : Img) (hi : IsImg cs m) (w : World) :
    Calls Try.prog 16 #[.agg cs] w fun e w' => OfIs cs m w e w' ∧ Below w.heap.size w w' := by
  have hH := hi.has w 34
  have hB0 : Below w.heap.size w (w.alloc (.cells cs 34)) := (Below.refl _ _).alloc (Nat.le_refl _) _
  go_enter Try.func16, Try.ntmps16
  go_wp2_with fail
  refine (check_any w.heap.size m _ hH).mono ?_
  rintro e w1 ⟨rfl, hb⟩
  have hs : (w.alloc (.cells cs 34)).heap.size = w.heap.size + 1 := by simp
  have hB1 : Below w.heap.size w w1 := hB0.trans (hb.mono (by omega))
  have r1 := hide (show w1.heap[w.heap.size]? = some (.cells cs 34) by rw [hb.block _ (by omega)]; exact heap_alloc_last _ _)
  have r2 := r1
  have hz := hb.size
  clear hH hb hB0
  cases gc : m.check == 0
  · have gn : (m.check != 0) = true := by simpa using gc
    go_wp2_with fail
    go_ret
    exact ⟨.inr ⟨by simpa using gc, rfl⟩, hB1⟩
  · have gn : (m.check != 0) = false := by simpa using gc
    go_wp2_with (first | (refine wpList_build_two rfl 51 _ _ rfl cs cs (cs ++ cs) rfl rfl (built_two hi.size hi.size) ?_) | (have hx := unhide r1; refine wpList_load_row rfl 34 _ rfl w.heap.size rfl 34 cs (0, 0) _ hx img_under rfl (img_info hi.size) ?_; clear hx r1) | (have hx := unhide r2; refine wpList_load_row rfl 34 _ rfl w.heap.size rfl 34 cs (0, 0) _ hx img_under rfl (img_info hi.size) ?_; clear hx r2))
    go_ret
    exact ⟨.inl ⟨by simpa using gc, _, rfl, hB1.size, heap_alloc_last _ _⟩, hB1.alloc hB1.size _⟩
set_option maxRecDepth 100000 in
set_option maxHeartbeats 2000000 in
theorem cNew_any (w : World) :
    Calls Try.prog 43 #[] w fun e w' => (∃ g, e = .returned (.pointer (some ⟨g, 0, none⟩)) ∧ w.heap.size ≤ g ∧ w'.heap[g]? = some (.cells (blankCells ++ blankCells) 51)) ∧ Below w.heap.size w w' := by
  have z := zero_img.1
  go_enter Try.func43, Try.ntmps43
  go_wp2_with fail
  refine (new_any _).mono ?_
  rintro e w1 ⟨rfl, hb⟩
  have s1 := hide (heap_alloc_last w1 (.cells zeroCells 34))
  have hB1 : Below w.heap.size w ((w1.alloc (.cells zeroCells 34)).setRow w1.heap.size blankCells) := below_setRow (hb.alloc hb.size _) hb.size _
  have r1 := hide (show ((w1.alloc (.cells zeroCells 34)).setRow w1.heap.size blankCells).heap[w1.heap.size]? = some (.cells blankCells 34) from setRow_heap _ _ _ _ _ _ (heap_alloc_last _ _))
  have r2 := r1
  go_wp2_with (first | (refine wpList_build_two rfl 51 _ _ rfl blankCells blankCells (blankCells ++ blankCells) rfl rfl (built_two size_blank size_blank) ?_) | (have hx := unhide s1; refine wpList_store_row rfl 34 _ _ rfl w1.heap.size blankCells rfl rfl 34 zeroCells hx (img_info size_blank) (zero_size blank_is) blank_all ?_; clear hx s1; generalize (w1.alloc (.cells zeroCells 34)).setRow w1.heap.size blankCells = X at hB1 r1 r2 ⊢) | (have hx := unhide r1; refine wpList_load_row rfl 34 _ rfl w1.heap.size rfl 34 blankCells (0, 0) _ hx img_under rfl (img_info size_blank) ?_; clear hx r1) | (have hx := unhide r2; refine wpList_load_row rfl 34 _ rfl w1.heap.size rfl 34 blankCells (0, 0) _ hx img_under rfl (img_info size_blank) ?_; clear hx r2))
  go_ret
  exact ⟨⟨_, rfl, hB1.size, heap_alloc_last _ _⟩, hB1.alloc hB1.size _⟩
set_option maxRecDepth 100000 in
set_option maxHeartbeats 2000000 in
theorem disk_any (g : Nat) (cs ds : Array Value) (m k : Img) (hi : IsImg cs m) (hj : IsImg ds k) (w : World) (hg : w.heap[g]? = some (.cells (cs ++ ds) 51)) :
    Calls Try.prog 18 #[.pointer (some ⟨g, 0, none⟩)] w fun e w' => e = .returned (.agg ds) ∧ Below w.heap.size w w' := by
  have z := zero_img.1
  have hl : g < w.heap.size := (Array.getElem?_eq_some_iff.1 hg).1
  have r1 := hide (show (w.alloc (.cells zeroCells 34)).heap[g]? = some (.cells (cs ++ ds) 51) by rw [Below.heap_alloc _ _ _ hl]; exact hg)
  have s1 := hide (heap_alloc_last w (.cells zeroCells 34))
  have hle : 94 + 94 ≤ (cs ++ ds).size := by simp [hi.size, hj.size]
  go_enter Try.func18, Try.ntmps18
  go_wp2_with (first | (have hx := unhide r1; refine wpList_load_part rfl 34 _ rfl g 94 94 rfl 51 (cs ++ ds) _ hx img_under rfl zero_img.2 hle ?_; rw [app_snd hi.size hj.size]; clear hx r1) | (have hx := unhide s1; refine wpList_store_row rfl 34 _ _ rfl w.heap.size ds rfl rfl 34 zeroCells hx (img_info hj.size) (zero_size hj) hj.all ?_; clear hx s1))
  refine bodyPost_ret (v := .agg ds) ?_ rfl ⟨rfl, below_setRow ((Below.refl _ _).alloc (Nat.le_refl _) _) (Nat.le_refl _) _⟩
  exact results_cell_row (P := Try.prog) Try.results18 _ _ w.heap.size 34 _ (0, 0) _ rfl (setRow_heap _ _ _ _ _ _ (heap_alloc_last _ _)) img_under rfl (img_info hj.size)
end Go.Proofs.Ytgipceeheohafab
