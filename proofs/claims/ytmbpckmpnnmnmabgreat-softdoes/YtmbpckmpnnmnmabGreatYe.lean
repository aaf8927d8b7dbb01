/-
  A cache in memory.
-/
import Derived.Test.YtmbpckmpnnmnmabGreatZz
import Derived.Test.YtmbpckmpnnmnmabGreatYa
import Derived.Test.YtmbpckmpnnmnmabGreatYc
import Derived.Deep.RegionHeld
import Derived.Great.BuildSlice
import Derived.Deep.DeepCutAuto
import Derived.Deep.Cut
import Derived.Deep.CutRange
import Derived.Shelf.Abstract
import Derived.BigQuiet
namespace Go.Proofs.YtmbpckmpnnmnmabGreat
open Go.RowKit
theorem foldSet_list (off : Nat) : ∀ (l : List Value) (s : Nat) (cells : Array Value), off + s + l.length ≤ cells.size → ∀ i,
    ((l.zipIdx s).foldl (fun cs (p : Value × Nat) => cs.setIfInBounds (off + p.2) p.1) cells)[i]? = if off + s ≤ i ∧ i < off + s + l.length then l[i - off - s]? else cells[i]?
  | [], s, cells, _, i => by simp; omega
  | v :: l, s, cells, h, i => by
    simp only [List.zipIdx_cons, List.foldl_cons]
    rw [foldSet_list off l (s + 1) _ (by simp at h ⊢; omega) i, Array.getElem?_setIfInBounds]
    simp only [List.length_cons] at h ⊢
    by_cases e : i = off + s
    · subst e
      rw [if_neg (by omega), if_pos rfl, if_pos (by omega), if_pos (by omega)]
      simp
    · by_cases h1 : off + (s + 1) ≤ i ∧ i < off + (s + 1) + l.length
      · rw [if_pos h1, if_pos (by omega), show i - off - s = (i - off - (s + 1)) + 1 by omega]; simp
      · rw [if_neg h1, if_neg (by omega), if_neg (by omega)]
theorem foldSet_get (vs : Array Value) (off : Nat) (cells : Array Value) (h : off + vs.size ≤ cells.size) (i : Nat) :
    (vs.zipIdx.foldl (fun cs (p : Value × Nat) => cs.setIfInBounds (off + p.2) p.1) cells)[i]? = if off ≤ i ∧ i < off + vs.size then vs[i - off]? else cells[i]? := by
  rw [← Array.foldl_toList]
  have e : vs.zipIdx.toList = vs.toList.zipIdx := by simp
  rw [e]
  have := foldSet_list off vs.toList 0 cells (by simpa using h) i
  simpa using this
theorem foldSet_size (vs : Array Value) (off : Nat) (cells : Array Value) (h : off + vs.size ≤ cells.size) : (vs.zipIdx.foldl (fun cs (p : Value × Nat) => cs.setIfInBounds (off + p.2) p.1) cells).size = cells.size := by
  have h1 : ∀ i, ((vs.zipIdx.foldl (fun cs (p : Value × Nat) => cs.setIfInBounds (off + p.2) p.1) cells)[i]?).isSome = (cells[i]?).isSome := fun i => by
    rw [foldSet_get vs off cells h i]
    split
    · rename_i z
      rw [Array.getElem?_eq_getElem (by omega), Array.getElem?_eq_getElem (by omega)]; rfl
    · rfl
  have h2 := h1 cells.size
  have h3 := h1 (vs.zipIdx.foldl (fun cs (p : Value × Nat) => cs.setIfInBounds (off + p.2) p.1) cells).size
  rw [Array.getElem?_eq_none (Nat.le_refl cells.size)] at h2
  rw [Array.getElem?_eq_none (Nat.le_refl (vs.zipIdx.foldl (fun cs (p : Value × Nat) => cs.setIfInBounds (off + p.2) p.1) cells).size)] at h3
  have h4 : ¬ (cells.size < (vs.zipIdx.foldl (fun cs (p : Value × Nat) => cs.setIfInBounds (off + p.2) p.1) cells).size) := fun z => by rw [Array.getElem?_eq_getElem z] at h2; simp at h2
  have h5 : ¬ ((vs.zipIdx.foldl (fun cs (p : Value × Nat) => cs.setIfInBounds (off + p.2) p.1) cells).size < cells.size) := fun z => by rw [Array.getElem?_eq_getElem z] at h3; simp at h3
  omega
theorem fill_cons {place : Nat → Option (Nat × Nat)} {cells vs : Array Value} {i off size : Nat} {v : Value} {rest : List (Nat × Value)} (hp : place i = some (off, size)) (hv : v.cells = vs) (h1 : vs.size = size) (h2 : off + vs.size ≤ cells.size) :
    Instr.fill place cells ((i, v) :: rest) = Instr.fill place (vs.zipIdx.foldl (fun cs (p : Value × Nat) => cs.setIfInBounds (off + p.2) p.1) cells) rest := by
  subst hv
  rw [Instr.fill, hp]
  simp only
  rw [if_neg (by simp [h1]; omega)]
theorem fill_two {z cs ds : Array Value} (hz : z.size = 188) (h1 : cs.size = 94) (h2 : ds.size = 94) : Instr.fill (fun i => #[(0, 94), (94, 94)][i]?) z [(0, .agg cs), (1, .agg ds)] = some (cs ++ ds) := by
  have s1 := foldSet_size cs 0 z (by omega)
  have s2 := foldSet_size ds 94 (cs.zipIdx.foldl (fun cs (p : Value × Nat) => cs.setIfInBounds (0 + p.2) p.1) z) (by omega)
  rw [fill_cons (i := 0) (vs := cs) (off := 0) (size := 94) rfl rfl h1 (by omega), fill_cons (i := 1) (vs := ds) (off := 94) (size := 94) rfl rfl h2 (by omega)]
  show some _ = some _
  congr 1
  refine Array.ext_getElem? fun i => ?_
  rw [foldSet_get ds 94 _ (by rw [s1]; omega), foldSet_get cs 0 z (by omega), Array.getElem?_append]
  by_cases hi : i < 94
  · rw [if_neg (by omega), if_pos (by omega), if_pos (by omega)]; simp
  · by_cases hj : i < 188
    · rw [if_pos (by omega), if_neg (by omega), h1]
    · rw [if_neg (by omega), if_neg (by omega), if_neg (by omega), Array.getElem?_eq_none (by omega), Array.getElem?_eq_none (by omega)]
theorem cache_built (parts : List (Nat × Value)) : Tryz.prog.built 57 parts = Instr.fill (fun i => #[(0, 94), (94, 94)][i]?) (zeroCells ++ zeroCells) parts := by kernel_rfl
theorem built_two {cs ds : Array Value} (h1 : cs.size = 94) (h2 : ds.size = 94) : Tryz.prog.built 57 [(0, .agg cs), (1, .agg ds)] = some (cs ++ ds) := by rw [cache_built]; exact fill_two (by kernel_rfl) h1 h2
theorem wpList_build_two {P : Program} {ops : Array Oper} {rest : List Oper} {o : Oper} {a : Act} {w : World} {Q : Exit → Act → World → Prop} (hgd : o.guard = none) (ty : TypeId) (x y : Operand) (ho : o.op = .build ty #[(0, x), (1, y)]) (cs ds es : Array Value)
    (hx : a.eval x = .agg cs) (hy : a.eval y = .agg ds) (hb : P.built ty [(0, .agg cs), (1, .agg ds)] = some es) (h : wpList P ops Q rest (a.put o.dst (.agg es)) w) : wpList P ops Q (o :: rest) a w := by
  refine wpList_buildTo hgd ty _ ho _ rfl es ?_ h
  have e : ((#[(0, x), (1, y)] : Array (Nat × Operand)).map fun (p : Nat × Operand) => (p.1, a.eval p.2)).toList = [(0, .agg cs), (1, .agg ds)] := by simp [hx, hy]
  exact (congrArg (P.built ty) e).trans hb
section
variable {cs ds : Array Value}
theorem app_fst (h1 : cs.size = 94) : (cs ++ ds).extract 0 (0 + 94) = cs := by
  rw [Nat.zero_add, ← h1]; simp
theorem app_snd (h1 : cs.size = 94) (h2 : ds.size = 94) : (cs ++ ds).extract 94 (94 + 94) = ds := by
  refine Array.ext_getElem? fun i => ?_
  rw [Array.getElem?_extract, Array.getElem?_append]
  by_cases hi : i < 94
  · rw [if_pos (by simp; omega), if_neg (by omega)]; congr 1; omega
  · rw [if_neg (by omega), Array.getElem?_eq_none (by omega)]
theorem splice_fst {es : Array Value} (h1 : cs.size = 94) (h3 : es.size = 94) : splice (cs ++ ds) 0 es = es ++ ds := by
  refine Array.ext_getElem? fun i => ?_
  rw [splice_get (by simp; omega), Array.getElem?_append, Array.getElem?_append]
  by_cases hi : i < 94
  · rw [if_neg (by omega), if_pos (by omega), if_pos (by omega)]; rfl
  · rw [if_neg (by omega), if_neg (by omega), if_neg (by omega), if_neg (by omega), h1, h3]
theorem splice_snd {es : Array Value} (h1 : cs.size = 94) (h2 : ds.size = 94) (h3 : es.size = 94) : splice (cs ++ ds) 94 es = cs ++ es := by
  refine Array.ext_getElem? fun i => ?_
  rw [splice_get (by simp; omega), Array.getElem?_append, Array.getElem?_append]
  by_cases hi : i < 94
  · rw [if_pos hi, if_pos (by omega), if_pos (by omega)]
  · by_cases hj : i < 188
    · rw [if_neg hi, if_pos (by omega), if_neg (by omega), h1]
    · rw [if_neg hi, if_neg (by omega), if_neg (by omega), if_neg (by omega), Array.getElem?_eq_none (by omega), Array.getElem?_eq_none (by omega)]
end
/-- one block is another row now; the others that were there are as they were -/
structure Mut (w w' : World) (g : Nat) (c : Array Value) (t : TypeId) : Prop where
  below : ∀ B, B ≤ g → B ≤ w.heap.size → Below B w w'
  row : w'.heap[g]? = some (.cells c t)
  old : ∀ j, j < w.heap.size → j ≠ g → w'.heap[j]? = w.heap[j]?
section
variable {w w1 w2 wr : World} {g : Nat} {c c' : Array Value} {t : TypeId} {l : List (Nat × Array Value × TypeId)}
theorem Mut.of {w3 : World} (h : Below w.heap.size w w1) (hg : g < w.heap.size) (e : w3 = w1.setRow g c') (hr : w.heap[g]? = some (.cells c t)) : Mut w w3 g c' t := by
  subst e
  refine ⟨fun B h1 h2 => below_setRow (h.mono h2) h1 _, ?_, fun j hj hne => ?_⟩
  · exact setRow_heap _ _ _ _ _ _ (by rw [h.block _ hg]; exact hr)
  · rw [setRow_other _ _ _ _ hne, h.block _ hj]
theorem Mut.refl' (hb : Below w.heap.size w w1) (hg : g < w.heap.size) (hr : w.heap[g]? = some (.cells c t)) : Mut w w1 g c t :=
  ⟨fun B _ h2 => hb.mono h2, by rw [hb.block _ hg]; exact hr, fun j hj _ => hb.block _ hj⟩
theorem Mut.size (h : Mut w w1 g c t) : w.heap.size ≤ w1.heap.size := (h.below 0 (Nat.zero_le _) (Nat.zero_le _)).size
theorem Mut.trans (h : Mut w w1 g c t) (h' : Mut w1 w2 g c' t) : Mut w w2 g c' t :=
  ⟨fun B h1 h2 => (h.below B h1 h2).trans (h'.below B h1 (Nat.le_trans h2 h.size)), h'.row, fun j hj hne => by rw [h'.old j (Nat.lt_of_lt_of_le hj h.size) hne, h.old j hj hne]⟩
theorem Mut.call (h : Mut w w1 g c t) (hg : g < w.heap.size) (hb : Below w1.heap.size w1 w2) : Mut w w2 g c t :=
  ⟨fun B h1 h2 => (h.below B h1 h2).trans (hb.mono (Nat.le_trans h2 h.size)), by rw [hb.block _ (Nat.lt_of_lt_of_le hg h.size)]; exact h.row, fun j hj hne => by rw [hb.block _ (Nat.lt_of_lt_of_le hj h.size), h.old j hj hne]⟩
end
end Go.Proofs.YtmbpckmpnnmnmabGreat
namespace Go.Proofs.YtmbpckmpnnmnmabGreat
open Go.RowKit
theorem run_exec_load_part {P : Program} {o : Oper} {ρ : Operand → Value} (ty : TypeId) (x : Operand) (ho : o.op = .load ty x) (g off n : Nat) (hx : ρ x = .pointer (some ⟨g, off, none⟩)) (w : World) (t : TypeId) (cs vs : Array Value) (d : TypeDesc)
    (hg : w.heap[g]? = some (.cells cs t (0, 0))) (hu : P.underlying ty = some d) (hd : (match d with | .struct _ | .array _ _ => true | _ => false) = true) (hi : (P.info? ty).map (·.size) = some n) (hn : off + n ≤ cs.size) (hv : cs.extract off (off + n) = vs) :
    (execOp ρ o).run P w = .ok (.value (.agg vs)) w := by
  subst hv
  unfold execOp
  simp only [ho, hx, Instr.loadAt, Instr.sureAddr, Sem.run_bind, Sem.run_pure, Result.andThen_ok, run_loadVar_part w g off n t ty cs d hg hu hd hi hn]
theorem run_exec_eql {P : Program} {o : Oper} {ρ : Operand → Value} (ty tz : TypeId) (x y : Operand) (ho : o.op = .binOp .eql ty x y tz) (cs ds : Array Value) (hx : ρ x = .agg cs) (hy : ρ y = .agg ds) (v : Bool)
    (hm : P.eqGuardType P.depth ty = false) (hq : ∀ w, (binOp .eql ty (.agg cs) (.agg ds)).run P w = .ok (.bool v) w) (w : World) : (execOp ρ o).run P w = .ok (.value (.bool v)) w := by
  unfold execOp
  rw [ho]
  go_simp
/-- what Of answers -/
def OfIs (cs : Array Value) (m : Img) (w : World) (e : Ending) (w' : World) : Prop :=
  (m.check = 0 ∧ ∃ g, e = .returned (.pointer (some ⟨g, 0, none⟩)) ∧ w.heap.size ≤ g ∧ w'.heap[g]? = some (.cells (cs ++ cs) 57)) ∨ (m.check ≠ 0 ∧ e = .returned (.pointer none))
set_option maxRecDepth 100000 in
set_option maxHeartbeats 2000000 in
theorem of_any (cs : Array Value) (m : Img) (hi : IsImg cs m) (w : World) :
    Calls Tryz.prog 41 #[.agg cs] w fun e w' => OfIs cs m w e w' ∧ Below w.heap.size w w' := by
  have hH := hi.has w 34
  have hB0 : Below w.heap.size w (w.alloc (.cells cs 34)) := (Below.refl _ _).alloc (Nat.le_refl _) _
  go_enter Tryz.func41, Tryz.ntmps41
  go_wp2_with fail
  refine (check_any w.heap.size m _ hH).mono ?_
  rintro e w1 ⟨rfl, hb⟩
  have hs : (w.alloc (.cells cs 34)).heap.size = w.heap.size + 1 := by simp
  have hB1 : Below w.heap.size w w1 := hB0.trans (hb.mono (by omega))
  have r1 := hide (show w1.heap[w.heap.size]? = some (.cells cs 34) by rw [hb.block _ (by omega)]; exact heap_alloc_last _ _)
  have r2 := r1
  have hz := hb.size
  clear hH hb hB0
  cases gc : m.check == 0
  · have gn : (m.check != 0) = true := by simpa using gc
    go_wp2_with fail
    go_ret
    exact ⟨.inr ⟨by simpa using gc, rfl⟩, hB1⟩
  · have gn : (m.check != 0) = false := by simpa using gc
    go_wp2_with (first | (refine wpList_build_two rfl 57 _ _ rfl cs cs (cs ++ cs) rfl rfl (built_two hi.size hi.size) ?_) | (have hx := unhide r1; refine wpList_load_row rfl 34 _ rfl w.heap.size rfl 34 cs (0, 0) _ hx img_under rfl (img_info hi.size) ?_; clear hx r1) | (have hx := unhide r2; refine wpList_load_row rfl 34 _ rfl w.heap.size rfl 34 cs (0, 0) _ hx img_under rfl (img_info hi.size) ?_; clear hx r2))
    go_ret
    exact ⟨.inl ⟨by simpa using gc, _, rfl, hB1.size, heap_alloc_last _ _⟩, hB1.alloc hB1.size _⟩
set_option maxRecDepth 100000 in
set_option maxHeartbeats 2000000 in
theorem cNew_any (w : World) :
    Calls Tryz.prog 39 #[] w fun e w' => (∃ g, e = .returned (.pointer (some ⟨g, 0, none⟩)) ∧ w.heap.size ≤ g ∧ w'.heap[g]? = some (.cells (blankCells ++ blankCells) 57)) ∧ Below w.heap.size w w' := by
  have z := zero_img.1
  go_enter Tryz.func39, Tryz.ntmps39
  go_wp2_with fail
  refine (new_any _).mono ?_
  rintro e w1 ⟨rfl, hb⟩
  have s1 := hide (heap_alloc_last w1 (.cells zeroCells 34))
  have hB1 : Below w.heap.size w ((w1.alloc (.cells zeroCells 34)).setRow w1.heap.size blankCells) := below_setRow (hb.alloc hb.size _) hb.size _
  have r1 := hide (show ((w1.alloc (.cells zeroCells 34)).setRow w1.heap.size blankCells).heap[w1.heap.size]? = some (.cells blankCells 34) from setRow_heap _ _ _ _ _ _ (heap_alloc_last _ _))
  have r2 := r1
  go_wp2_with (first | (refine wpList_build_two rfl 57 _ _ rfl blankCells blankCells (blankCells ++ blankCells) rfl rfl (built_two size_blank size_blank) ?_) | (have hx := unhide s1; refine wpList_store_row rfl 34 _ _ rfl w1.heap.size blankCells rfl rfl 34 zeroCells hx (img_info size_blank) (zero_size blank_is) blank_all ?_; clear hx s1; generalize (w1.alloc (.cells zeroCells 34)).setRow w1.heap.size blankCells = X at hB1 r1 r2 ⊢) | (have hx := unhide r1; refine wpList_load_row rfl 34 _ rfl w1.heap.size rfl 34 blankCells (0, 0) _ hx img_under rfl (img_info size_blank) ?_; clear hx r1) | (have hx := unhide r2; refine wpList_load_row rfl 34 _ rfl w1.heap.size rfl 34 blankCells (0, 0) _ hx img_under rfl (img_info size_blank) ?_; clear hx r2))
  go_ret
  exact ⟨⟨_, rfl, hB1.size, heap_alloc_last _ _⟩, hB1.alloc hB1.size _⟩
set_option maxRecDepth 100000 in
set_option maxHeartbeats 2000000 in
theorem disk_any (g : Nat) (cs ds : Array Value) (m k : Img) (hi : IsImg cs m) (hj : IsImg ds k) (w : World) (hg : w.heap[g]? = some (.cells (cs ++ ds) 57)) :
    Calls Tryz.prog 18 #[.pointer (some ⟨g, 0, none⟩)] w fun e w' => e = .returned (.agg ds) ∧ Below w.heap.size w w' := by
  have z := zero_img.1
  have hl : g < w.heap.size := (Array.getElem?_eq_some_iff.1 hg).1
  have r1 := hide (show (w.alloc (.cells zeroCells 34)).heap[g]? = some (.cells (cs ++ ds) 57) by rw [Below.heap_alloc _ _ _ hl]; exact hg)
  have s1 := hide (heap_alloc_last w (.cells zeroCells 34))
  have hle : 94 + 94 ≤ (cs ++ ds).size := by simp [hi.size, hj.size]
  go_enter Tryz.func18, Tryz.ntmps18
  go_wp2_with (first | (have hx := unhide r1; refine wpList_load_part rfl 34 _ rfl g 94 94 rfl 57 (cs ++ ds) _ hx img_under rfl zero_img.2 hle ?_; rw [app_snd hi.size hj.size]; clear hx r1) | (have hx := unhide s1; refine wpList_store_row rfl 34 _ _ rfl w.heap.size ds rfl rfl 34 zeroCells hx (img_info hj.size) (zero_size hj) hj.all ?_; clear hx s1))
  refine bodyPost_ret (v := .agg ds) ?_ rfl ⟨rfl, below_setRow ((Below.refl _ _).alloc (Nat.le_refl _) _) (Nat.le_refl _) _⟩
  exact results_cell_row (P := Tryz.prog) Tryz.results18 _ _ w.heap.size 34 _ (0, 0) _ rfl (setRow_heap _ _ _ _ _ _ (heap_alloc_last _ _)) img_under rfl (img_info hj.size)
end Go.Proofs.YtmbpckmpnnmnmabGreat
namespace Go.Proofs.YtmbpckmpnnmnmabGreat
open Go.RowKit
set_option maxRecDepth 100000 in
set_option maxHeartbeats 2000000 in
theorem clean_any (g : Nat) (cs ds : Array Value) (m k : Img) (hi : IsImg cs m) (hj : IsImg ds k) (w : World) (hg : w.heap[g]? = some (.cells (cs ++ ds) 57)) :
    Calls Tryz.prog 58 #[.pointer (some ⟨g, 0, none⟩)] w fun e w' => e = .returned (.bool (Img.sameImg m k)) ∧ Below w.heap.size w w' := by
  have q := eqlImg hi hj
  have z1 := hi.size
  have z2 := hj.size
  go_enter Tryz.func58, Tryz.ntmps58
  go_wp2_with fail
  refine wp_region_held_drew (S := fun W => W.heap[g]? = some (.cells (cs ++ ds) 57)) (by kernel_rfl) hg (fun hS => ?_)
  refine tkP (i := 0) (oi := ⟨some 3, .move (.tmp 0), 53, "cache.go:62", #[], none⟩) (v := .pointer (some ⟨g, 0, none⟩)) hS ?_
  refine tkP (i := 1) (oi := ⟨some 4, .nilCheck (.tmp 3), 0, "cache.go:62", #[⟨0, .data⟩], none⟩) (v := .pointer (some ⟨g, 0, none⟩)) hS ?_
  refine tkP (i := 2) (oi := ⟨some 5, .fieldAddr 57 (.tmp 4) 0, 0, "cache.go:62", #[⟨1, .data⟩], none⟩) (v := .pointer (some ⟨g, 0, none⟩)) hS ?_
  refine tkH (i := 3) (oi := ⟨some 6, .load 34 (.tmp 5), 34, "cache.go:62", #[⟨2, .data⟩], none⟩) (v := .agg cs) (fun W h => run_exec_load_part 34 (.tmp 5) (by kernel_rfl) g 0 94 (by kernel_rfl) W 57 (cs ++ ds) cs _ h img_under rfl zero_img.2 (by simp; omega) (app_fst hi.size)) hS ?_
  refine tkP (i := 4) (oi := ⟨some 7, .move (.tmp 0), 53, "cache.go:62", #[], none⟩) (v := .pointer (some ⟨g, 0, none⟩)) hS ?_
  refine tkP (i := 5) (oi := ⟨some 8, .nilCheck (.tmp 7), 0, "cache.go:62", #[⟨4, .data⟩], none⟩) (v := .pointer (some ⟨g, 0, none⟩)) hS ?_
  refine tkP (i := 6) (oi := ⟨some 9, .fieldAddr 57 (.tmp 8) 1, 0, "cache.go:62", #[⟨5, .data⟩], none⟩) (v := .pointer (some ⟨g, 94, none⟩)) hS ?_
  refine tkH (i := 7) (oi := ⟨some 10, .load 34 (.tmp 9), 34, "cache.go:62", #[⟨6, .data⟩], none⟩) (v := .agg ds) (fun W h => run_exec_load_part 34 (.tmp 9) (by kernel_rfl) g 94 94 (by kernel_rfl) W 57 (cs ++ ds) ds _ h img_under rfl zero_img.2 (by simp; omega) (app_snd hi.size hj.size)) hS ?_
  refine tkH (i := 8) (oi := ⟨some 11, .binOp .eql 34 (.tmp 6) (.tmp 10) 34, 4, "cache.go:62", #[⟨3, .data⟩, ⟨7, .data⟩], none⟩) (v := .bool (Img.sameImg m k)) (fun W h => run_exec_eql 34 34 (.tmp 6) (.tmp 10) (by kernel_rfl) cs ds (by kernel_rfl) (by kernel_rfl) _ Tryz.eqGuardType34 q W) hS ?_
  refine tkH (i := 9) (oi := ⟨some 2, .assign (.tmp 11), 4, "cache.go:62", #[⟨8, .data⟩, ⟨0, .phase⟩, ⟨1, .phase⟩, ⟨2, .phase⟩, ⟨3, .phase⟩, ⟨4, .phase⟩, ⟨5, .phase⟩, ⟨6, .phase⟩, ⟨7, .phase⟩, ⟨8, .phase⟩], none⟩) (v := .bool (Img.sameImg m k)) (fun W h => (by kernel_rfl)) hS ?_
  refine wpAnyH_done (by kernel_rfl) ?_ _
  simp only [Act.put, List.setIfInBounds_toArray, List.set_cons_zero, List.set_cons_succ]
  go_wp2_with fail
  go_ret
  exact ⟨rfl, (Below.refl _ _).drew⟩
set_option maxRecDepth 100000 in
set_option maxHeartbeats 2000000 in
theorem cWrite_any (g : Nat) (cs ds : Array Value) (m k : Img) (hi : IsImg cs m) (hj : IsImg ds k) (b : Int) (w : World) (hg : w.heap[g]? = some (.cells (cs ++ ds) 57)) :
    Calls Tryz.prog 28 #[.pointer (some ⟨g, 0, none⟩), .int .i64 b] w fun e w' => ∃ es, e = .returned (.bool (Img.inB b)) ∧ IsImg es (Img.write m k b) ∧ Mut w w' g (cs ++ es) 57 := by
  have z1 := hi.size
  have z2 := hj.size
  have z := zero_img.1
  have hgl : g < w.heap.size := (Array.getElem?_eq_some_iff.1 hg).1
  go_enter Tryz.func28, Tryz.ntmps28
  go_wp2_with fail
  go_cut [5, 6] (fun p q wx => ∃ gx es, p = .pointer (some ⟨gx, 0, none⟩) ∧ q = .bool (Img.inB b) ∧ IsImg es (Img.write m k b) ∧ wx.heap[gx]? = some (.cells es 34) ∧ Below w.heap.size w wx)
  case first =>
    have hB0 : Below w.heap.size w w.drew := (Below.refl _ _).drew
    have hl0 : g < w.drew.heap.size := hgl
    refine wp_region_held_drew (S := fun W => W.heap[g]? = some (.cells (cs ++ ds) 57)) (by kernel_rfl) hg (fun hS => ?_)
    refine tkP (i := 0) (oi := ⟨some 8, .move (.tmp 0), 53, "cache.go:41", #[], none⟩) (v := .pointer (some ⟨g, 0, none⟩)) hS ?_
    refine tkP (i := 1) (oi := ⟨some 9, .nilCheck (.tmp 8), 0, "cache.go:41", #[⟨0, .data⟩], none⟩) (v := .pointer (some ⟨g, 0, none⟩)) hS ?_
    refine tkP (i := 2) (oi := ⟨some 10, .fieldAddr 57 (.tmp 9) 0, 0, "cache.go:41", #[⟨1, .data⟩], none⟩) (v := .pointer (some ⟨g, 0, none⟩)) hS ?_
    refine tkP (i := 3) (oi := ⟨some 11, .move (.tmp 0), 53, "cache.go:41", #[], none⟩) (v := .pointer (some ⟨g, 0, none⟩)) hS ?_
    refine tkP (i := 4) (oi := ⟨some 12, .nilCheck (.tmp 11), 0, "cache.go:41", #[⟨3, .data⟩], none⟩) (v := .pointer (some ⟨g, 0, none⟩)) hS ?_
    refine tkP (i := 5) (oi := ⟨some 13, .fieldAddr 57 (.tmp 12) 1, 0, "cache.go:41", #[⟨4, .data⟩], none⟩) (v := .pointer (some ⟨g, 94, none⟩)) hS ?_
    refine tkP (i := 6) (oi := ⟨some 14, .move (.tmp 1), 3, "cache.go:41", #[], none⟩) (v := .int .i64 b) hS ?_
    generalize w.drew = W0 at hS hB0 hl0 ⊢
    refine wpAnyH_ready (rs := [7, 11]) (by kernel_rfl) (by simp) ?_
    refine AllReadyH.cons (o := ⟨some 15, .call { callee := .value (.func 57), args := #[.tmp 10, .tmp 13, .tmp 14], argTypes := #[50, 50, 3] }, 92, "cache.go:41", #[⟨2, .data⟩, ⟨5, .data⟩, ⟨6, .data⟩], none⟩) rfl (fun K hK => ?_) (AllReadyH.cons (o := ⟨some 5, .alloc 34, 0, "cache.go:41", #[], none⟩) rfl (fun K hK => ?_) AllReadyH.nil)
    · skip
      go_simp
      refine (At.write_any (ob := 0) (oc := 94) g g m k b _ (hasAt_of hS (by simp; omega) (app_fst z1) hi) ⟨ds, _, _, hS, by simp; omega, app_snd z1 z2, hj⟩).mono ?_
      rintro e w1 ⟨⟨es, rfl, he⟩, hb1⟩
      go_wp2_with fail
      refine hK.out _ _ (by rw [hb1.block _ hl0]; exact hS) (fun hS1 => ?_)
      clear hK K
      refine tkP (i := 8) (oi := ⟨some 7, .move (.tmp 15), 92, "cache.go:41", #[⟨7, .data⟩], none⟩) (v := .tuple #[.agg es, .bool (Img.inB b)]) hS1 ?_
      refine tkP (i := 9) (oi := ⟨some 16, .extract (.tmp 7) 0, 34, "cache.go:41", #[⟨8, .data⟩], none⟩) (v := .agg es) hS1 ?_
      refine tkP (i := 10) (oi := { dst := some 17, op := Op.extract (Operand.tmp 7) 1, type := 4, pos := "cache.go:41", after := #[⟨8, .data⟩, { on := 12, ground := Ground.gcOnly Departure.lateStores }], guard := none }) (v := .bool (Img.inB b)) hS1 ?_
      refine wpAnyH_ready (rs := [11]) (by kernel_rfl) (by simp) ?_
      refine AllReadyH.cons (o := ⟨some 5, .alloc 34, 0, "cache.go:41", #[], none⟩) rfl (fun K hK => ?_) AllReadyH.nil
      go_simp
      have hl1 : g < w1.heap.size := Nat.lt_of_lt_of_le hl0 hb1.size
      refine hK.out _ _ (by rw [Below.heap_alloc _ _ _ hl1]; exact hS1) (fun hS2 => ?_)
      clear hK K
      refine wpAnyH_ready (rs := [12]) (by kernel_rfl) (by simp) ?_
      refine AllReadyH.cons (o := { dst := none, op := Op.store 34 (Operand.tmp 5) (Operand.tmp 16), type := 0, pos := "cache.go:41", after := #[⟨11, .data⟩, ⟨9, .data⟩, ⟨7, .chain⟩, ⟨0, .phase⟩, ⟨1, .phase⟩, ⟨2, .phase⟩, ⟨3, .phase⟩, ⟨4, .phase⟩, ⟨5, .phase⟩, ⟨6, .phase⟩, ⟨7, .phase⟩, ⟨8, .phase⟩, ⟨9, .phase⟩, { on := 10, ground := Ground.textOnly Departure.lateStores }, ⟨11, .phase⟩], guard := none }) rfl (fun K hK => ?_) AllReadyH.nil
      rw [if_pos (by kernel_rfl)]
      refine wp_store_row 34 (.tmp 5) (.tmp 16) rfl (w1.heap.size) es (by kernel_rfl) (by kernel_rfl) 34 zeroCells (heap_alloc_last _ _) (img_info he.size) (zero_size he) he.all ?_
      refine hK.out _ _ (by rw [setRow_other _ _ _ _ (by omega)]; exact hS2) (fun hS3 => ?_)
      clear hK K
      refine tkP (i := 13) (oi := ⟨some 6, .assign (.tmp 17), 4, "cache.go:41", #[⟨10, .data⟩, ⟨12, .chain⟩, ⟨0, .phase⟩, ⟨1, .phase⟩, ⟨2, .phase⟩, ⟨3, .phase⟩, ⟨4, .phase⟩, ⟨5, .phase⟩, ⟨6, .phase⟩, ⟨7, .phase⟩, ⟨8, .phase⟩, ⟨9, .phase⟩, ⟨10, .phase⟩, ⟨11, .phase⟩, ⟨12, .phase⟩], none⟩) (v := .bool (Img.inB b)) hS3 ?_
      refine wpAnyH_done (by kernel_rfl) ?_ _
      simp only [Act.put, List.setIfInBounds_toArray, List.set_cons_zero, List.set_cons_succ]
      go_wp2_with fail
      go_meet
      exact ⟨_, es, rfl, rfl, he, setRow_heap _ _ _ _ _ _ (heap_alloc_last _ _), below_setRow ((hB0.trans (hb1.mono hB0.size)).alloc (hB0.trans (hb1.mono hB0.size)).size _) (hB0.trans (hb1.mono hB0.size)).size _⟩
    · go_simp
      refine hK.out _ _ (by rw [Below.heap_alloc _ _ _ hl0]; exact hS) (fun hS1 => ?_)
      clear hK K
      refine wpAnyH_ready (rs := [7]) (by kernel_rfl) (by simp) ?_
      refine AllReadyH.cons (o := ⟨some 15, .call { callee := .value (.func 57), args := #[.tmp 10, .tmp 13, .tmp 14], argTypes := #[50, 50, 3] }, 92, "cache.go:41", #[⟨2, .data⟩, ⟨5, .data⟩, ⟨6, .data⟩], none⟩) rfl (fun K hK => ?_) AllReadyH.nil
      go_simp
      refine (At.write_any (ob := 0) (oc := 94) g g m k b _ (hasAt_of hS1 (by simp; omega) (app_fst z1) hi) ⟨ds, _, _, hS1, by simp; omega, app_snd z1 z2, hj⟩).mono ?_
      rintro e w1 ⟨⟨es, rfl, he⟩, hb1⟩
      go_wp2_with fail
      refine hK.out _ _ (by rw [hb1.block _ (by simp; omega)]; exact hS1) (fun hS2 => ?_)
      clear hK K
      refine tkP (i := 8) (oi := ⟨some 7, .move (.tmp 15), 92, "cache.go:41", #[⟨7, .data⟩], none⟩) (v := .tuple #[.agg es, .bool (Img.inB b)]) hS2 ?_
      refine tkP (i := 9) (oi := ⟨some 16, .extract (.tmp 7) 0, 34, "cache.go:41", #[⟨8, .data⟩], none⟩) (v := .agg es) hS2 ?_
      refine tkP (i := 10) (oi := { dst := some 17, op := Op.extract (Operand.tmp 7) 1, type := 4, pos := "cache.go:41", after := #[⟨8, .data⟩, { on := 12, ground := Ground.gcOnly Departure.lateStores }], guard := none }) (v := .bool (Img.inB b)) hS2 ?_
      have hr : w1.heap[W0.heap.size]? = some (.cells zeroCells 34) := by rw [hb1.block _ (by simp)]; exact heap_alloc_last _ _
      have hB1 : Below w.heap.size w w1 := (hB0.alloc hB0.size _).trans (hb1.mono (by have := hB0.size; simp; omega))
      refine wpAnyH_ready (rs := [12]) (by kernel_rfl) (by simp) ?_
      refine AllReadyH.cons (o := { dst := none, op := Op.store 34 (Operand.tmp 5) (Operand.tmp 16), type := 0, pos := "cache.go:41", after := #[⟨11, .data⟩, ⟨9, .data⟩, ⟨7, .chain⟩, ⟨0, .phase⟩, ⟨1, .phase⟩, ⟨2, .phase⟩, ⟨3, .phase⟩, ⟨4, .phase⟩, ⟨5, .phase⟩, ⟨6, .phase⟩, ⟨7, .phase⟩, ⟨8, .phase⟩, ⟨9, .phase⟩, { on := 10, ground := Ground.textOnly Departure.lateStores }, ⟨11, .phase⟩], guard := none }) rfl (fun K hK => ?_) AllReadyH.nil
      rw [if_pos (by kernel_rfl)]
      refine wp_store_row 34 (.tmp 5) (.tmp 16) rfl (W0.heap.size) es (by kernel_rfl) (by kernel_rfl) 34 zeroCells hr (img_info he.size) (zero_size he) he.all ?_
      refine hK.out _ _ (by rw [setRow_other _ _ _ _ (by omega)]; exact hS2) (fun hS3 => ?_)
      clear hK K
      refine tkP (i := 13) (oi := ⟨some 6, .assign (.tmp 17), 4, "cache.go:41", #[⟨10, .data⟩, ⟨12, .chain⟩, ⟨0, .phase⟩, ⟨1, .phase⟩, ⟨2, .phase⟩, ⟨3, .phase⟩, ⟨4, .phase⟩, ⟨5, .phase⟩, ⟨6, .phase⟩, ⟨7, .phase⟩, ⟨8, .phase⟩, ⟨9, .phase⟩, ⟨10, .phase⟩, ⟨11, .phase⟩, ⟨12, .phase⟩], none⟩) (v := .bool (Img.inB b)) hS3 ?_
      refine wpAnyH_done (by kernel_rfl) ?_ _
      simp only [Act.put, List.setIfInBounds_toArray, List.set_cons_zero, List.set_cons_succ]
      go_wp2_with fail
      go_meet
      exact ⟨_, es, rfl, rfl, he, setRow_heap _ _ _ _ _ _ hr, below_setRow hB1 hB0.size _⟩
  case rest =>
    obtain ⟨gx, es, rfl, rfl, he, hr, hB⟩ := hcut
    have r1 := hide hr
    have r2 := hide (show wc.heap[g]? = some (.cells (cs ++ ds) 57) by rw [hB.block _ hgl]; exact hg)
    have hle : 94 + es.size ≤ (cs ++ ds).size := by simp [he.size]; omega
    have hsp := splice_snd z1 z2 he.size
    go_wp2_with (first | (have hx := unhide r1; refine wpList_load_row rfl 34 _ rfl gx rfl 34 es (0, 0) _ hx img_under rfl (img_info he.size) ?_; clear hx r1) | (have hx := unhide r2; refine wpList_store_part rfl 34 _ _ rfl g 94 es rfl rfl 57 (cs ++ ds) hx (img_info he.size) hle he.all ?_; clear hx r2; rw [hsp]))
    go_ret
    exact ⟨es, rfl, he, Mut.of hB hgl rfl hg⟩
end Go.Proofs.YtmbpckmpnnmnmabGreat
namespace Go.Proofs.YtmbpckmpnnmnmabGreat
open Go.RowKit
set_option maxRecDepth 100000 in
set_option maxHeartbeats 2000000 in
theorem cSync_any (g : Nat) (cs ds : Array Value) (m k : Img) (hi : IsImg cs m) (hj : IsImg ds k) (w : World) (hg : w.heap[g]? = some (.cells (cs ++ ds) 57)) :
    Calls Tryz.prog 29 #[.pointer (some ⟨g, 0, none⟩)] w fun e w' => ∃ es, e = .returned (.int .i64 ((Img.syn m 8 k).1 : Nat)) ∧ IsImg es (Img.syn m 8 k).2 ∧ Mut w w' g (cs ++ es) 57 := by
  have hgl : g < w.heap.size := (Array.getElem?_eq_some_iff.1 hg).1
  obtain ⟨R, hR⟩ : ∃ R, R = Img.syn m 8 k := ⟨_, rfl⟩
  rw [← hR]
  go_enter Tryz.func29, Tryz.ntmps29
  go_wp2_with fail
  go_loopw [3] (fun i wr => ∃ (r : Nat) (es : Array Value) (K : Img), r ≤ 8 ∧ i = .int .i64 r ∧ Hid (IsImg es K) ∧ Hid (Mut w wr g (cs ++ es) 57) ∧ Hid (R.1 = (Img.syn m (8 - r) K).1 + r ∧ R.2 = (Img.syn m (8 - r) K).2)) (fun i _ => 8 - (intOf i).toNat)
  case atStart => exact ⟨0, ds, k, by omega, rfl, hide hj, hide (Mut.refl' (Below.refl _ _) hgl hg), hide ⟨by rw [hR]; rfl, by rw [hR]⟩⟩
  case round =>
    obtain ⟨r, es, K, hr, rfl, HI, HM, HR⟩ := hrel
    by_cases hlt : r < 8
    · have t8 : decide ((r : Int) < 8) = true := by simp; omega
      go_wp2_with fail
      refine (clean_any g cs es m K hi (unhide HI) _ (unhide HM).row).mono ?_
      rintro e w1 ⟨rfl, hb1⟩
      have HM1 := hide ((unhide HM).call hgl hb1)
      clear HM hb1
      cases hc : Img.sameImg m K
      · go_wp2_with fail
        go_loopw [4] (fun i wr => ∃ (j : Int) (c : Nat) (fs : Array Value) (D : Img), c ≤ 14 ∧ j = (c : Int) - 1 ∧ i = .int .i64 j ∧ Hid (IsImg fs D) ∧ Hid (Mut w wr g (cs ++ fs) 57) ∧ Hid (Img.down m D c = Img.down m K 14)) (fun i _ => (intOf i + 1).toNat)
        case atStart => exact ⟨13, 14, es, K, by omega, by omega, rfl, HI, HM1, hide rfl⟩
        case round =>
          obtain ⟨j, c, fs, D, hc14, hjc, rfl, HI2, HM2, HD⟩ := hrel
          cases c with
          | zero =>
            have tg : decide (j ≥ 0) = false := by simp; omega
            have tg2 : decide (0 ≤ j) = false := by simp; omega
            clear hjc
            have HR2 := hide (show R.1 = (Img.syn m (8 - (r + 1)) D).1 + (r + 1) ∧ R.2 = (Img.syn m (8 - (r + 1)) D).2 from by
              have h1 := unhide HR
              rw [show 8 - r = (8 - (r + 1)) + 1 by omega, Img.syn_step hc] at h1
              have h2 : D = Img.down m K 14 := unhide HD
              rw [h2]
              exact ⟨by have := h1.1; simp at this; omega, h1.2⟩)
            go_wp2_with fail
            go_roundw
            case rel => exact ⟨r + 1, fs, D, by omega, by go_num, HI2, HM2, HR2⟩
            case measure => simp [intOf]; omega
          | succ c =>
            have tg : decide (j ≥ 0) = true := by simp; omega
            have tg2 : decide (0 ≤ j) = true := by simp; omega
            have hj0 : 0 ≤ j := by omega
            have hj13 : j ≤ 13 := by omega
            have HJ := hide (show j = (c : Int) by omega)
            clear hjc
            go_wp2_with fail
            refine (cWrite_any g cs fs m D hi (unhide HI2) j _ (unhide HM2).row).mono ?_
            rintro e w2 ⟨fs2, rfl, hI3, hM3⟩
            have HM3 := hide ((unhide HM2).trans hM3)
            have HI3 := hide hI3
            have HD3 := hide (show Img.down m (Img.write m D j) c = Img.down m K 14 from by rw [unhide HJ]; exact unhide HD)
            clear HM2 hM3 hI3 HI2 HD
            go_wp2_with fail
            go_roundw
            case rel => exact ⟨_, c, fs2, _, by omega, by have := unhide HJ; omega, rfl, HI3, HM3, HD3⟩
            case measure => simp [intOf]; omega
      · have HE := hide (show R.1 = r ∧ R.2 = K from by
          have h1 := unhide HR
          rw [Img.syn_stop hc] at h1
          exact ⟨by have := h1.1; simp at this; omega, h1.2⟩)
        go_wp2_with fail
        go_ret
        exact ⟨es, by rw [(unhide HE).1]; rfl, by rw [(unhide HE).2]; exact unhide HI, unhide HM1⟩
    · have t8 : decide ((r : Int) < 8) = false := by simp; omega
      have er : r = 8 := by omega
      subst er
      have HE := hide (show R.1 = 8 ∧ R.2 = K from by
        have h1 := unhide HR
        exact ⟨by have := h1.1; simp [Img.syn] at this; omega, h1.2⟩)
      go_wp2_with fail
      go_ret
      exact ⟨es, by rw [(unhide HE).1]; rfl, by rw [(unhide HE).2]; exact unhide HI, unhide HM⟩
set_option maxHeartbeats 1000000 in
theorem first_any (f : FuncId) (cb : Array Value) (n : Nat) (p : Nat → Bool) (w : World) (eg : ∀ args w, (callFunc f args).run Tryz.prog w = .ok (.enter f args) w) (hn : n ≤ 16)
    (hf : ∀ (q i : Nat), i < n → Calls Tryz.prog f (#[.int .i64 i] ++ cb) (w.drewN q) fun e w' => e = .returned (.bool (p i)) ∧ ∃ r, w' = w.drewN r) :
    Calls Tryz.prog 122 #[.int .i64 n, .func (.func f) #[] cb] w fun e w' => e = .returned (.int .i64 (Img.firstI p n)) ∧ ∃ r, w' = w.drewN r := by
  have HF := hide hf
  clear hf
  go_enter Tryz.func122, Tryz.ntmps122
  go_wp2_with fail
  go_loopw [7] (fun i wr => ∃ k q : Nat, k ≤ n ∧ i = .int .i64 k ∧ Hid (∀ j, j < k → p j = false) ∧ wr = w.drewN q) (fun i _ => n - (intOf i).toNat)
  case atStart => exact ⟨0, 0, Nat.zero_le _, rfl, hide fun j hj => by omega, rfl⟩
  case round =>
    obtain ⟨k, q, hk, rfl, HP, rfl⟩ := hrel
    by_cases hlt : k < n
    · have tn : decide ((k : Int) < (n : Int)) = true := by simp; omega
      have hz : (k : Int) < (n : Int) := by omega
      have hc := unhide HF q k hlt
      cases hp : p k
      · rw [hp] at hc
        go_wp2_with (go_at_fn f; refine hc.mono ?_; rintro e w' ⟨rfl, nq, rfl⟩)
        go_roundw
        case rel => exact ⟨k + 1, nq, by omega, by go_num, hide fun j hj => by
          by_cases e : j = k
          · subst e; exact hp
          · exact unhide HP j (by omega), rfl⟩
        case measure => simp [intOf]; omega
      · rw [hp] at hc
        have HE := hide (Img.firstI_at hp (unhide HP) hlt)
        go_wp2_with (go_at_fn f; refine hc.mono ?_; rintro e w' ⟨rfl, nq, rfl⟩)
        go_ret
        exact ⟨by rw [unhide HE]; rfl, _, rfl⟩
    · have ek : k = n := by omega
      subst ek
      have HE := hide (Img.firstI_none (unhide HP))
      go_wp2_with fail
      go_ret
      exact ⟨by rw [unhide HE]; rfl, _, rfl⟩
end Go.Proofs.YtmbpckmpnnmnmabGreat
namespace Go.Proofs.YtmbpckmpnnmnmabGreat
open Go.RowKit
set_option maxHeartbeats 1000000 in
theorem inode1_any (W : World) (bx g : Nat) (m k : Img) (n : Nat) (hn : n < 8) (h1 : W.cell? ⟨bx, 0, none⟩ = some (.pointer (some ⟨g, 0, none⟩))) (hm : HasAt W g 0 m) (hk : HasAt W g 94 k) :
    Calls Tryz.prog 123 (#[.int .i64 n] ++ #[.pointer (some ⟨bx, 0, none⟩)]) W fun e w' => e = .returned (.bool (!m.live n && (k.refs (n : Int) == 0))) ∧ w' = W := by
  have hlv := hm.live n hn
  rw [Nat.zero_add] at hlv
  have hl := hm.lt
  have hr := k.refs_le (n : Int)
  have C := hide (At.refs_any g k (n : Int) W hk)
  clear hm hk
  show Calls Tryz.prog 123 #[.int .i64 n, .pointer (some ⟨bx, 0, none⟩)] W _
  cases hl : m.live n
  · rw [hl] at hlv
    cases hz : (k.refs (n : Int) == 0)
    · have hz2 : (((k.refs (n : Int) : Nat) : Int) == 0) = false := by simp at hz ⊢; omega
      generalize k.refs (n : Int) = r at C hz hz2 hr
      obtain ⟨rr, hrr⟩ : ∃ rr : Int, rr = (r : Int) := ⟨_, rfl⟩
      rw [← hrr] at C hz2
      clear hrr
      go_enter Tryz.func123, Tryz.ntmps123
      go_wp2_with fail
      refine (unhide C).mono ?_
      rintro e wz ⟨rfl, ez⟩
      rw [ez]
      clear ez wz C
      go_wp2_with fail
      go_ret
      exact ⟨rfl, rfl⟩
    · have hz2 : k.refs (n : Int) = 0 := by simpa using hz
      rw [hz2] at C
      clear hz hz2 hr
      go_enter Tryz.func123, Tryz.ntmps123
      go_wp2_with fail
      refine (unhide C).mono ?_
      rintro e wz ⟨rfl, ez⟩
      rw [ez]
      clear ez wz C
      go_wp2_with fail
      go_ret
      exact ⟨rfl, rfl⟩
  · rw [hl] at hlv
    go_enter Tryz.func123, Tryz.ntmps123
    go_wp2_with fail
    go_ret
    exact ⟨rfl, rfl⟩
set_option maxHeartbeats 1000000 in
theorem data1_any (W : World) (bx g : Nat) (m k : Img) (x : Nat) (h1 : W.cell? ⟨bx, 0, none⟩ = some (.pointer (some ⟨g, 0, none⟩))) (hm : HasAt W g 0 m) (hk : HasAt W g 94 k) :
    Calls Tryz.prog 124 (#[.int .i64 x] ++ #[.pointer (some ⟨bx, 0, none⟩)]) W fun e w' => e = .returned (.bool (!m.holds (x : Int) && !k.holds (x : Int))) ∧ w' = W := by
  have C1 := hide (At.holds_any g m (x : Int) W hm)
  have C2 := hide (At.holds_any g k (x : Int) W hk)
  have hl := hm.lt
  clear hm hk
  show Calls Tryz.prog 124 #[.int .i64 x, .pointer (some ⟨bx, 0, none⟩)] W _
  cases hl1 : m.holds (x : Int)
  · rw [hl1] at C1
    cases hl2 : k.holds (x : Int)
    all_goals
      rw [hl2] at C2
      go_enter Tryz.func124, Tryz.ntmps124
      go_wp2_with fail
      refine (unhide C1).mono ?_
      rintro e wz ⟨rfl, ez⟩
      rw [ez]
      clear ez wz C1
      go_wp2_with fail
      refine (unhide C2).mono ?_
      rintro e wz ⟨rfl, ez⟩
      rw [ez]
      clear ez wz C2
      go_wp2_with fail
      go_ret
      exact ⟨rfl, rfl⟩
  · rw [hl1] at C1
    go_enter Tryz.func124, Tryz.ntmps124
    go_wp2_with fail
    refine (unhide C1).mono ?_
    rintro e wz ⟨rfl, ez⟩
    rw [ez]
    clear ez wz C1
    go_wp2_with fail
    go_ret
    exact ⟨rfl, rfl⟩
set_option maxHeartbeats 1000000 in
theorem slot1_any (W : World) (bx bd g : Nat) (m k : Img) (d s : Nat) (hd : d < 3) (hs : s < 4) (h1 : W.cell? ⟨bx, 0, none⟩ = some (.pointer (some ⟨g, 0, none⟩))) (h2 : W.cell? ⟨bd, 0, none⟩ = some (.int .i64 d)) (hm : HasAt W g 0 m) (hk : HasAt W g 94 k) :
    Calls Tryz.prog 126 (#[.int .i64 s] ++ #[.pointer (some ⟨bx, 0, none⟩), .pointer (some ⟨bd, 0, none⟩)]) W fun e w' => e = .returned (.bool (!m.named d s && !k.named d s)) ∧ ∃ q, w' = W.drewN q := by
  have n1 := hm.name d s hd hs
  have n2 := hk.name d s hd hs
  have hl := hm.lt
  have hdz : (d : Int) < 3 := by omega
  have hsz : (s : Int) < 4 := by omega
  clear hm hk
  have E : (!m.named d s && !k.named d s) = ((m.name d s).toList.isEmpty && (k.name d s).toList.isEmpty) := by unfold Img.named; simp
  rw [E]
  clear E
  show Calls Tryz.prog 126 #[.int .i64 s, .pointer (some ⟨bx, 0, none⟩), .pointer (some ⟨bd, 0, none⟩)] W _
  cases e1 : (m.name d s).toList.isEmpty
  · go_enter Tryz.func126, Tryz.ntmps126
    go_wp2_with fail
    go_quiet (fail)
    go_wp2_with fail
    go_ret
    exact ⟨rfl, _, rfl⟩
  · cases e2 : (k.name d s).toList.isEmpty
    all_goals
      go_enter Tryz.func126, Tryz.ntmps126
      go_wp2_with fail
      go_quiet (fail)
      go_wp2_with fail
      go_ret
      exact ⟨rfl, _, rfl⟩
section
variable {cs ds : Array Value} {m k : Img} {w W : World} {g : Nat}
theorem two_has (hi : IsImg cs m) (hj : IsImg ds k) (h : W.heap[g]? = some (.cells (cs ++ ds) 57)) (q : Nat) : HasAt (W.drewN q) g 0 m ∧ HasAt (W.drewN q) g 94 k := by
  have z1 := hi.size
  have z2 := hj.size
  exact ⟨hasAt_of (w := W.drewN q) h (by simp; omega) (app_fst z1) hi, hasAt_of (w := W.drewN q) h (by simp; omega) (app_snd z1 z2) hj⟩
end
set_option maxHeartbeats 1000000 in
theorem cInode_any (g : Nat) (cs ds : Array Value) (m k : Img) (hi : IsImg cs m) (hj : IsImg ds k) (w : World) (hg : w.heap[g]? = some (.cells (cs ++ ds) 57)) :
    Calls Tryz.prog 84 #[.pointer (some ⟨g, 0, none⟩)] w fun e w' => e = .returned (.int .i64 (Img.freeIno m k)) ∧ Below w.heap.size w w' := by
  have hgl : g < w.heap.size := (Array.getElem?_eq_some_iff.1 hg).1
  have eg : ∀ args w, (callFunc 123 args).run Tryz.prog w = .ok (.enter 123 args) w := enters_of Tryz.func123 (by kernel_rfl) rfl
  have hB : Below w.heap.size w (w.alloc (.cells #[.pointer (some ⟨g, 0, none⟩)] 53)) := (Below.refl _ _).alloc (Nat.le_refl _) _
  have hr : (w.alloc (.cells #[.pointer (some ⟨g, 0, none⟩)] 53)).heap[g]? = some (.cells (cs ++ ds) 57) := by rw [Below.heap_alloc _ _ _ hgl]; exact hg
  have hc : (w.alloc (.cells #[.pointer (some ⟨g, 0, none⟩)] 53)).cell? ⟨w.heap.size, 0, none⟩ = some (.pointer (some ⟨g, 0, none⟩)) := by rw [cell_of_row _ _ _ _ _ _ (heap_alloc_last _ _)]; rfl
  have HF := hide (show ∀ (q i : Nat), i < 8 → Calls Tryz.prog 123 (#[.int .i64 i] ++ #[.pointer (some ⟨w.heap.size, 0, none⟩)]) ((w.alloc (.cells #[.pointer (some ⟨g, 0, none⟩)] 53)).drewN q) fun e w' => e = .returned (.bool (!m.live i && (k.refs (i : Int) == 0))) ∧ ∃ r, w' = (w.alloc (.cells #[.pointer (some ⟨g, 0, none⟩)] 53)).drewN r from fun q i hi8 =>
    (inode1_any ((w.alloc (.cells #[.pointer (some ⟨g, 0, none⟩)] 53)).drewN q) w.heap.size g m k i hi8 hc (two_has hi hj hr q).1 (two_has hi hj hr q).2).mono fun e w' ⟨h1, h2⟩ => ⟨h1, q, h2⟩)
  clear hc hr hg
  go_enter Tryz.func84, Tryz.ntmps84
  go_wp2_with fail
  refine (first_any 123 #[.pointer (some ⟨w.heap.size, 0, none⟩)] 8 (fun n => !m.live n && (k.refs (n : Int) == 0)) _ eg (by omega) (unhide HF)).mono ?_
  rintro e w1 ⟨rfl, q, rfl⟩
  go_wp2_with fail
  go_ret
  exact ⟨rfl, belowN hB⟩
set_option maxHeartbeats 1000000 in
theorem cData_any (g : Nat) (cs ds : Array Value) (m k : Img) (hi : IsImg cs m) (hj : IsImg ds k) (w : World) (hg : w.heap[g]? = some (.cells (cs ++ ds) 57)) :
    Calls Tryz.prog 86 #[.pointer (some ⟨g, 0, none⟩)] w fun e w' => e = .returned (.int .i64 (Img.freeData m k)) ∧ Below w.heap.size w w' := by
  have hgl : g < w.heap.size := (Array.getElem?_eq_some_iff.1 hg).1
  have eg : ∀ args w, (callFunc 124 args).run Tryz.prog w = .ok (.enter 124 args) w := enters_of Tryz.func124 (by kernel_rfl) rfl
  have hB : Below w.heap.size w (w.alloc (.cells #[.pointer (some ⟨g, 0, none⟩)] 53)) := (Below.refl _ _).alloc (Nat.le_refl _) _
  have hr : (w.alloc (.cells #[.pointer (some ⟨g, 0, none⟩)] 53)).heap[g]? = some (.cells (cs ++ ds) 57) := by rw [Below.heap_alloc _ _ _ hgl]; exact hg
  have hc : (w.alloc (.cells #[.pointer (some ⟨g, 0, none⟩)] 53)).cell? ⟨w.heap.size, 0, none⟩ = some (.pointer (some ⟨g, 0, none⟩)) := by rw [cell_of_row _ _ _ _ _ _ (heap_alloc_last _ _)]; rfl
  have HF := hide (show ∀ (q i : Nat), i < 9 → Calls Tryz.prog 124 (#[.int .i64 i] ++ #[.pointer (some ⟨w.heap.size, 0, none⟩)]) ((w.alloc (.cells #[.pointer (some ⟨g, 0, none⟩)] 53)).drewN q) fun e w' => e = .returned (.bool (!m.holds (i : Int) && !k.holds (i : Int))) ∧ ∃ r, w' = (w.alloc (.cells #[.pointer (some ⟨g, 0, none⟩)] 53)).drewN r from fun q i _ =>
    (data1_any ((w.alloc (.cells #[.pointer (some ⟨g, 0, none⟩)] 53)).drewN q) w.heap.size g m k i hc (two_has hi hj hr q).1 (two_has hi hj hr q).2).mono fun e w' ⟨h1, h2⟩ => ⟨h1, q, h2⟩)
  clear hc hr hg
  go_enter Tryz.func86, Tryz.ntmps86
  go_wp2_with fail
  refine (first_any 124 #[.pointer (some ⟨w.heap.size, 0, none⟩)] 9 (fun x => !m.holds (x : Int) && !k.holds (x : Int)) _ eg (by omega) (unhide HF)).mono ?_
  rintro e w1 ⟨rfl, q, rfl⟩
  go_wp2_with fail
  go_ret
  exact ⟨rfl, belowN hB⟩
def slotBoxes (w : World) (g : Nat) (d : Int) : World := (w.alloc (.cells #[.pointer (some ⟨g, 0, none⟩)] 53)).alloc (.cells #[.int .i64 d] 3)
theorem slotBoxes_cells (w : World) (g : Nat) (d : Int) : (slotBoxes w g d).cell? ⟨w.heap.size, 0, none⟩ = some (.pointer (some ⟨g, 0, none⟩)) ∧ (slotBoxes w g d).cell? ⟨w.heap.size + 1, 0, none⟩ = some (.int .i64 d) :=
  ⟨by unfold slotBoxes; rw [cell_of_row _ _ _ _ _ _ (heap_alloc2_old _ _ _)]; rfl, by unfold slotBoxes; rw [cell_of_row _ _ _ _ _ _ (heap_alloc2_new _ _ _)]; rfl⟩
set_option maxHeartbeats 1000000 in
theorem cSlot_any (g : Nat) (cs ds : Array Value) (m k : Img) (hi : IsImg cs m) (hj : IsImg ds k) (d : Int) (w : World) (hg : w.heap[g]? = some (.cells (cs ++ ds) 57)) :
    Calls Tryz.prog 87 #[.pointer (some ⟨g, 0, none⟩), .int .i64 d] w fun e w' => e = .returned (.int .i64 (Img.freeSlot m k d)) ∧ Below w.heap.size w w' := by
  have hgl : g < w.heap.size := (Array.getElem?_eq_some_iff.1 hg).1
  have eg : ∀ args w, (callFunc 126 args).run Tryz.prog w = .ok (.enter 126 args) w := enters_of Tryz.func126 (by kernel_rfl) rfl
  have hB : Below w.heap.size w (slotBoxes w g d) := ((Below.refl _ _).alloc (Nat.le_refl _) _).alloc (by simp) _
  obtain ⟨c1, c2⟩ := slotBoxes_cells w g d
  have hr : (slotBoxes w g d).heap[g]? = some (.cells (cs ++ ds) 57) := by rw [hB.block _ hgl]; exact hg
  by_cases hd : 0 ≤ d ∧ d < 3
  · obtain ⟨e, rfl⟩ := Int.eq_ofNat_of_zero_le hd.1
    have he : e < 3 := by omega
    have E : Img.freeSlot m k (e : Int) = Img.firstI (fun s => !m.named e s && !k.named e s) 4 := by unfold Img.freeSlot; rw [if_pos hd, Int.toNat_natCast]
    rw [E]
    clear E
    have HF := hide (show ∀ (q i : Nat), i < 4 → Calls Tryz.prog 126 (#[.int .i64 i] ++ #[.pointer (some ⟨w.heap.size, 0, none⟩), .pointer (some ⟨w.heap.size + 1, 0, none⟩)]) ((slotBoxes w g (e : Int)).drewN q) fun r w' => r = .returned (.bool (!m.named e i && !k.named e i)) ∧ ∃ r, w' = (slotBoxes w g (e : Int)).drewN r from fun q i hi4 =>
      (slot1_any ((slotBoxes w g (e : Int)).drewN q) w.heap.size (w.heap.size + 1) g m k e i he hi4 c1 c2 (two_has hi hj hr q).1 (two_has hi hj hr q).2).mono fun r w' ⟨h1, n, h2⟩ => ⟨h1, q + n, by rw [h2, drewNN]⟩)
    have t1 : decide ((e : Int) < 0) = false := by simp
    have t2 : decide (3 ≤ (e : Int)) = false := by simp; omega
    clear hr hg hd
    go_enter Tryz.func87, Tryz.ntmps87
    go_wp2_with fail
    rw [← slotBoxes.eq_1]
    refine (first_any 126 #[.pointer (some ⟨w.heap.size, 0, none⟩), .pointer (some ⟨w.heap.size + 1, 0, none⟩)] 4 (fun s => !m.named e s && !k.named e s) _ eg (by omega) (unhide HF)).mono ?_
    rintro e w1 ⟨rfl, q, rfl⟩
    go_wp2_with fail
    go_ret
    exact ⟨rfl, belowN hB⟩
  · have E : Img.freeSlot m k d = -1 := by unfold Img.freeSlot; rw [if_neg hd]
    rw [E]
    clear E
    by_cases h0 : d < 0
    · have t1 : decide (d < 0) = true := by simpa using h0
      clear h0 hd hr hg eg
      go_enter Tryz.func87, Tryz.ntmps87
      go_wp2_with fail
      go_ret
      exact ⟨rfl, hB⟩
    · have t1 : decide (d < 0) = false := by simpa using h0
      have t2 : decide (3 ≤ d) = true := by simp; omega
      have t3 : decide (d ≥ 3) = true := by simp; omega
      clear h0 hd hr hg eg
      go_enter Tryz.func87, Tryz.ntmps87
      go_wp2_with fail
      go_ret
      exact ⟨rfl, hB⟩
end Go.Proofs.YtmbpckmpnnmnmabGreat
