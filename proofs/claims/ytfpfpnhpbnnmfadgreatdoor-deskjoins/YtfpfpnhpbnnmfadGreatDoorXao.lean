/-
  The walks of package cache: New, Of, Disk, Clean, Write.
-/
import Derived.Test.YtfpfpnhpbnnmfadGreatDoorXan
import Derived.Deep.DeepCutAuto
import Derived.Deep.Cut
import Derived.Deep.CutRange
import Derived.Great.BuildSlice
namespace Go.Proofs.YtfpfpnhpbnnmfadGreatDoor
open Go.RowKit
theorem run_exec_load_part {P : Program} {o : Oper} {ρ : Operand → Value} (ty : TypeId) (x : Operand) (ho : o.op = .load ty x) (g off n : Nat) (hx : ρ x = .pointer (some ⟨g, off, none⟩)) (w : World) (t : TypeId) (cs vs : Array Value) (d : TypeDesc)
    (hg : w.heap[g]? = some (.cells cs t (0, 0))) (hu : P.underlying ty = some d) (hd : (match d with | .struct _ | .array _ _ => true | _ => false) = true) (hi : (P.info? ty).map (·.size) = some n) (hn : off + n ≤ cs.size) (hv : cs.extract off (off + n) = vs) :
    (execOp ρ o).run P w = .ok (.value (.agg vs)) w := by
  subst hv
  unfold execOp
  simp only [ho, hx, Instr.loadAt, Instr.sureAddr, Sem.run_bind, Sem.run_pure, Result.andThen_ok, run_loadVar_part w g off n t ty cs d hg hu hd hi hn]
theorem run_exec_eql {P : Program} {o : Oper} {ρ : Operand → Value} (ty tz : TypeId) (x y : Operand) (ho : o.op = .binOp .eql ty x y tz) (cs ds : Array Value) (hx : ρ x = .agg cs) (hy : ρ y = .agg ds) (v : Bool)
    (hm : P.eqGuardType P.depth ty = false) (hq : ∀ w, (binOp .eql ty (.agg cs) (.agg ds)).run P w = .ok (.bool v) w) (w : World) : (execOp ρ o).run P w = .ok (.value (.bool v)) w := by
  unfold execOp
  rw [ho]
  go_simp
/-- what Of answers -/
def OfIs (cs : Array Value) (m : Img) (w : World) (e : Ending) (w' : World) : Prop :=
  (m.check = 0 ∧ ∃ g, e = .returned (.pointer (some ⟨g, 0, none⟩)) ∧ w.heap.size ≤ g ∧ w'.heap[g]? = some (.cells (cs ++ cs) 141)) ∨ (m.check ≠ 0 ∧ e = .returned (.pointer none))
set_option maxRecDepth 100000 in
set_option maxHeartbeats 2000000 in
theorem of_any (cs : Array Value) (m : Img) (hi : IsImg cs m) (w : World) :
    Calls Tryz.prog 148 #[.agg cs] w fun e w' => OfIs cs m w e w' ∧ Below w.heap.size w w' := by
  have hH := hi.has w 78
  have hB0 : Below w.heap.size w (w.alloc (.cells cs 78)) := (Below.refl _ _).alloc (Nat.le_refl _) _
  go_enter Tryz.func148, Tryz.ntmps148
  go_wp2_with fail
  refine (check_any w.heap.size m _ hH).mono ?_
  rintro e w1 ⟨rfl, hb⟩
  have hs : (w.alloc (.cells cs 78)).heap.size = w.heap.size + 1 := by simp
  have hB1 : Below w.heap.size w w1 := hB0.trans (hb.mono (by omega))
  have r1 := hide (show w1.heap[w.heap.size]? = some (.cells cs 78) by rw [hb.block _ (by omega)]; exact heap_alloc_last _ _)
  have r2 := r1
  have hz := hb.size
  clear hH hb hB0
  cases gc : m.check == 0
  · have gn : (m.check != 0) = true := by simpa using gc
    go_wp2_with fail
    go_ret
    exact ⟨.inr ⟨by simpa using gc, rfl⟩, hB1⟩
  · have gn : (m.check != 0) = false := by simpa using gc
    go_wp2_with (first | (refine wpList_build_two rfl 141 _ _ rfl cs cs (cs ++ cs) rfl rfl (built_two hi.size hi.size) ?_) | (have hx := unhide r1; refine wpList_load_row rfl 78 _ rfl w.heap.size rfl 78 cs (0, 0) _ hx img_under rfl (img_info hi.size) ?_; clear hx r1) | (have hx := unhide r2; refine wpList_load_row rfl 78 _ rfl w.heap.size rfl 78 cs (0, 0) _ hx img_under rfl (img_info hi.size) ?_; clear hx r2))
    go_ret
    exact ⟨.inl ⟨by simpa using gc, _, rfl, hB1.size, heap_alloc_last _ _⟩, hB1.alloc hB1.size _⟩
set_option maxRecDepth 100000 in
set_option maxHeartbeats 2000000 in
theorem cNew_any (w : World) :
    Calls Tryz.prog 46 #[] w fun e w' => (∃ g, e = .returned (.pointer (some ⟨g, 0, none⟩)) ∧ w.heap.size ≤ g ∧ w'.heap[g]? = some (.cells (blankCells ++ blankCells) 141)) ∧ Below w.heap.size w w' := by
  have z := zero_img.1
  go_enter Tryz.func46, Tryz.ntmps46
  go_wp2_with fail
  refine (new_any _).mono ?_
  rintro e w1 ⟨rfl, hb⟩
  have s1 := hide (heap_alloc_last w1 (.cells zeroCells 78))
  have hB1 : Below w.heap.size w ((w1.alloc (.cells zeroCells 78)).setRow w1.heap.size blankCells) := below_setRow (hb.alloc hb.size _) hb.size _
  have r1 := hide (show ((w1.alloc (.cells zeroCells 78)).setRow w1.heap.size blankCells).heap[w1.heap.size]? = some (.cells blankCells 78) from setRow_heap _ _ _ _ _ _ (heap_alloc_last _ _))
  have r2 := r1
  go_wp2_with (first | (refine wpList_build_two rfl 141 _ _ rfl blankCells blankCells (blankCells ++ blankCells) rfl rfl (built_two size_blank size_blank) ?_) | (have hx := unhide s1; refine wpList_store_row rfl 78 _ _ rfl w1.heap.size blankCells rfl rfl 78 zeroCells hx (img_info size_blank) (zero_size blank_is) blank_all ?_; clear hx s1; generalize (w1.alloc (.cells zeroCells 78)).setRow w1.heap.size blankCells = X at hB1 r1 r2 ⊢) | (have hx := unhide r1; refine wpList_load_row rfl 78 _ rfl w1.heap.size rfl 78 blankCells (0, 0) _ hx img_under rfl (img_info size_blank) ?_; clear hx r1) | (have hx := unhide r2; refine wpList_load_row rfl 78 _ rfl w1.heap.size rfl 78 blankCells (0, 0) _ hx img_under rfl (img_info size_blank) ?_; clear hx r2))
  go_ret
  exact ⟨⟨_, rfl, hB1.size, heap_alloc_last _ _⟩, hB1.alloc hB1.size _⟩
set_option maxRecDepth 100000 in
set_option maxHeartbeats 2000000 in
theorem disk_any (g : Nat) (cs ds : Array Value) (m k : Img) (hi : IsImg cs m) (hj : IsImg ds k) (w : World) (hg : w.heap[g]? = some (.cells (cs ++ ds) 141)) :
    Calls Tryz.prog 59 #[.pointer (some ⟨g, 0, none⟩)] w fun e w' => e = .returned (.agg ds) ∧ Below w.heap.size w w' := by
  have z := zero_img.1
  have hl : g < w.heap.size := (Array.getElem?_eq_some_iff.1 hg).1
  have r1 := hide (show (w.alloc (.cells zeroCells 78)).heap[g]? = some (.cells (cs ++ ds) 141) by rw [Below.heap_alloc _ _ _ hl]; exact hg)
  have s1 := hide (heap_alloc_last w (.cells zeroCells 78))
  have hle : 94 + 94 ≤ (cs ++ ds).size := by simp [hi.size, hj.size]
  go_enter Tryz.func59, Tryz.ntmps59
  go_wp2_with (first | (have hx := unhide r1; refine wpList_load_part rfl 78 _ rfl g 94 94 rfl 141 (cs ++ ds) _ hx img_under rfl zero_img.2 hle ?_; rw [app_snd hi.size hj.size]; clear hx r1) | (have hx := unhide s1; refine wpList_store_row rfl 78 _ _ rfl w.heap.size ds rfl rfl 78 zeroCells hx (img_info hj.size) (zero_size hj) hj.all ?_; clear hx s1))
  refine bodyPost_ret (v := .agg ds) ?_ rfl ⟨rfl, below_setRow ((Below.refl _ _).alloc (Nat.le_refl _) _) (Nat.le_refl _) _⟩
  exact results_cell_row (P := Tryz.prog) Tryz.results59 _ _ w.heap.size 78 _ (0, 0) _ rfl (setRow_heap _ _ _ _ _ _ (heap_alloc_last _ _)) img_under rfl (img_info hj.size)
end Go.Proofs.YtfpfpnhpbnnmfadGreatDoor
namespace Go.Proofs.YtfpfpnhpbnnmfadGreatDoor
open Go.RowKit
set_option maxRecDepth 100000 in
set_option maxHeartbeats 2000000 in
theorem clean_any (g : Nat) (cs ds : Array Value) (m k : Img) (hi : IsImg cs m) (hj : IsImg ds k) (w : World) (hg : w.heap[g]? = some (.cells (cs ++ ds) 141)) :
    Calls Tryz.prog 109 #[.pointer (some ⟨g, 0, none⟩)] w fun e w' => e = .returned (.bool (Img.sameImg m k)) ∧ Below w.heap.size w w' := by
  have q := eqlImg hi hj
  have z1 := hi.size
  have z2 := hj.size
  go_enter Tryz.func109, Tryz.ntmps109
  go_wp2_with fail
  refine wp_region_held_drew (S := fun W => W.heap[g]? = some (.cells (cs ++ ds) 141)) (by kernel_rfl) hg (fun hS => ?_)
  refine wpAnyH_take (i := 0) (oi := { dst := some 3, op := Op.move (Operand.tmp 0), type := 111, pos := "cache.go:62", after := #[], guard := none }) (v := .pointer (some ⟨g, 0, none⟩)) rfl (by kernel_rfl) (by kernel_rfl) (by kernel_rfl) (fun _ _ _ h => h) (Or.inl ⟨by kernel_rfl, fun W h => (by first | kernel_rfl | go_simp)⟩) hS ?_
  refine wpAnyH_take (i := 1) (oi := { dst := some 4, op := Op.nilCheck (Operand.tmp 3), type := 0, pos := "cache.go:62", after := #[{ on := 0, ground := Ground.data }], guard := none }) (v := .pointer (some ⟨g, 0, none⟩)) rfl (by kernel_rfl) (by kernel_rfl) (by kernel_rfl) (fun _ _ _ h => h) (Or.inl ⟨by kernel_rfl, fun W h => (by first | kernel_rfl | go_simp)⟩) hS ?_
  refine wpAnyH_take (i := 2) (oi := { dst := some 5, op := Op.fieldAddr 141 (Operand.tmp 4) 0, type := 0, pos := "cache.go:62", after := #[{ on := 1, ground := Ground.data }], guard := none }) (v := .pointer (some ⟨g, 0, none⟩)) rfl (by kernel_rfl) (by kernel_rfl) (by kernel_rfl) (fun _ _ _ h => h) (Or.inl ⟨by kernel_rfl, fun W h => (by first | kernel_rfl | go_simp)⟩) hS ?_
  refine wpAnyH_take (i := 3) (oi := { dst := some 6, op := Op.load 78 (Operand.tmp 5), type := 78, pos := "cache.go:62", after := #[{ on := 2, ground := Ground.data }], guard := none }) (v := .agg cs) rfl (by kernel_rfl) (by kernel_rfl) (by kernel_rfl) (fun _ _ _ h => h) (Or.inl ⟨by kernel_rfl, fun W h => run_exec_load_part 78 (.tmp 5) (by kernel_rfl) g 0 94 (by kernel_rfl) W 141 (cs ++ ds) cs _ h img_under rfl zero_img.2 (by simp; omega) (app_fst hi.size)⟩) hS ?_
  refine wpAnyH_take (i := 4) (oi := { dst := some 7, op := Op.move (Operand.tmp 0), type := 111, pos := "cache.go:62", after := #[], guard := none }) (v := .pointer (some ⟨g, 0, none⟩)) rfl (by kernel_rfl) (by kernel_rfl) (by kernel_rfl) (fun _ _ _ h => h) (Or.inl ⟨by kernel_rfl, fun W h => (by first | kernel_rfl | go_simp)⟩) hS ?_
  refine wpAnyH_take (i := 5) (oi := { dst := some 8, op := Op.nilCheck (Operand.tmp 7), type := 0, pos := "cache.go:62", after := #[{ on := 4, ground := Ground.data }], guard := none }) (v := .pointer (some ⟨g, 0, none⟩)) rfl (by kernel_rfl) (by kernel_rfl) (by kernel_rfl) (fun _ _ _ h => h) (Or.inl ⟨by kernel_rfl, fun W h => (by first | kernel_rfl | go_simp)⟩) hS ?_
  refine wpAnyH_take (i := 6) (oi := { dst := some 9, op := Op.fieldAddr 141 (Operand.tmp 8) 1, type := 0, pos := "cache.go:62", after := #[{ on := 5, ground := Ground.data }], guard := none }) (v := .pointer (some ⟨g, 94, none⟩)) rfl (by kernel_rfl) (by kernel_rfl) (by kernel_rfl) (fun _ _ _ h => h) (Or.inl ⟨by kernel_rfl, fun W h => (by first | kernel_rfl | go_simp)⟩) hS ?_
  refine wpAnyH_take (i := 7) (oi := { dst := some 10, op := Op.load 78 (Operand.tmp 9), type := 78, pos := "cache.go:62", after := #[{ on := 6, ground := Ground.data }], guard := none }) (v := .agg ds) rfl (by kernel_rfl) (by kernel_rfl) (by kernel_rfl) (fun _ _ _ h => h) (Or.inl ⟨by kernel_rfl, fun W h => run_exec_load_part 78 (.tmp 9) (by kernel_rfl) g 94 94 (by kernel_rfl) W 141 (cs ++ ds) ds _ h img_under rfl zero_img.2 (by simp; omega) (app_snd hi.size hj.size)⟩) hS ?_
  refine wpAnyH_take (i := 8) (oi := { dst := some 11, op := Op.binOp BinOp.eql 78 (Operand.tmp 6) (Operand.tmp 10) 78, type := 4, pos := "cache.go:62", after := #[{ on := 3, ground := Ground.data }, { on := 7, ground := Ground.data }], guard := none }) (v := .bool (Img.sameImg m k)) rfl (by kernel_rfl) (by kernel_rfl) (by kernel_rfl) (fun _ _ _ h => h) (Or.inl ⟨by kernel_rfl, fun W h => run_exec_eql 78 78 (.tmp 6) (.tmp 10) (by kernel_rfl) cs ds (by kernel_rfl) (by kernel_rfl) _ Tryz.eqGuardType78 q W⟩) hS ?_
  refine wpAnyH_take (i := 9) (oi := { dst := some 2, op := Op.assign (Operand.tmp 11), type := 4, pos := "cache.go:62", after := #[{ on := 8, ground := Ground.data }, { on := 0, ground := Ground.phase }, { on := 1, ground := Ground.phase }, { on := 2, ground := Ground.phase }, { on := 3, ground := Ground.phase }, { on := 4, ground := Ground.phase }, { on := 5, ground := Ground.phase }, { on := 6, ground := Ground.phase }, { on := 7, ground := Ground.phase }, { on := 8, ground := Ground.phase }], guard := none }) (v := .bool (Img.sameImg m k)) rfl (by kernel_rfl) (by kernel_rfl) (by kernel_rfl) (fun _ _ _ h => h) (Or.inl ⟨by kernel_rfl, fun W h => (by kernel_rfl)⟩) hS ?_
  refine wpAnyH_done (by kernel_rfl) ?_ _
  simp only [Act.put, List.setIfInBounds_toArray, List.set_cons_zero, List.set_cons_succ]
  go_wp2_with fail
  go_ret
  exact ⟨rfl, (Below.refl _ _).drew⟩
set_option maxRecDepth 100000 in
set_option maxHeartbeats 2000000 in
theorem cWrite_any (g : Nat) (cs ds : Array Value) (m k : Img) (hi : IsImg cs m) (hj : IsImg ds k) (b : Int) (w : World) (hg : w.heap[g]? = some (.cells (cs ++ ds) 141)) :
    Calls Tryz.prog 108 #[.pointer (some ⟨g, 0, none⟩), .int .i64 b] w fun e w' => ∃ es, e = .returned (.bool (Img.inB b)) ∧ IsImg es (Img.write m k b) ∧ Mut w w' g (cs ++ es) 141 := by
  have z1 := hi.size
  have z2 := hj.size
  have z := zero_img.1
  have hgl : g < w.heap.size := (Array.getElem?_eq_some_iff.1 hg).1
  go_enter Tryz.func108, Tryz.ntmps108
  go_wp2_with fail
  go_cut [5, 6] (fun p q wx => ∃ gx es, p = .pointer (some ⟨gx, 0, none⟩) ∧ q = .bool (Img.inB b) ∧ IsImg es (Img.write m k b) ∧ wx.heap[gx]? = some (.cells es 78) ∧ Below w.heap.size w wx)
  case first =>
    have hB0 : Below w.heap.size w w.drew := (Below.refl _ _).drew
    have hl0 : g < w.drew.heap.size := hgl
    refine wp_region_held_drew (S := fun W => W.heap[g]? = some (.cells (cs ++ ds) 141)) (by kernel_rfl) hg (fun hS => ?_)
    refine wpAnyH_take (i := 0) (oi := { dst := some 8, op := Op.move (Operand.tmp 0), type := 111, pos := "cache.go:41", after := #[], guard := none }) (v := .pointer (some ⟨g, 0, none⟩)) rfl (by kernel_rfl) (by kernel_rfl) (by kernel_rfl) (fun _ _ _ h => h) (Or.inl ⟨by kernel_rfl, fun W h => (by first | kernel_rfl | go_simp)⟩) hS ?_
    refine wpAnyH_take (i := 1) (oi := { dst := some 9, op := Op.nilCheck (Operand.tmp 8), type := 0, pos := "cache.go:41", after := #[{ on := 0, ground := Ground.data }], guard := none }) (v := .pointer (some ⟨g, 0, none⟩)) rfl (by kernel_rfl) (by kernel_rfl) (by kernel_rfl) (fun _ _ _ h => h) (Or.inl ⟨by kernel_rfl, fun W h => (by first | kernel_rfl | go_simp)⟩) hS ?_
    refine wpAnyH_take (i := 2) (oi := { dst := some 10, op := Op.fieldAddr 141 (Operand.tmp 9) 0, type := 0, pos := "cache.go:41", after := #[{ on := 1, ground := Ground.data }], guard := none }) (v := .pointer (some ⟨g, 0, none⟩)) rfl (by kernel_rfl) (by kernel_rfl) (by kernel_rfl) (fun _ _ _ h => h) (Or.inl ⟨by kernel_rfl, fun W h => (by first | kernel_rfl | go_simp)⟩) hS ?_
    refine wpAnyH_take (i := 3) (oi := { dst := some 11, op := Op.move (Operand.tmp 0), type := 111, pos := "cache.go:41", after := #[], guard := none }) (v := .pointer (some ⟨g, 0, none⟩)) rfl (by kernel_rfl) (by kernel_rfl) (by kernel_rfl) (fun _ _ _ h => h) (Or.inl ⟨by kernel_rfl, fun W h => (by first | kernel_rfl | go_simp)⟩) hS ?_
    refine wpAnyH_take (i := 4) (oi := { dst := some 12, op := Op.nilCheck (Operand.tmp 11), type := 0, pos := "cache.go:41", after := #[{ on := 3, ground := Ground.data }], guard := none }) (v := .pointer (some ⟨g, 0, none⟩)) rfl (by kernel_rfl) (by kernel_rfl) (by kernel_rfl) (fun _ _ _ h => h) (Or.inl ⟨by kernel_rfl, fun W h => (by first | kernel_rfl | go_simp)⟩) hS ?_
    refine wpAnyH_take (i := 5) (oi := { dst := some 13, op := Op.fieldAddr 141 (Operand.tmp 12) 1, type := 0, pos := "cache.go:41", after := #[{ on := 4, ground := Ground.data }], guard := none }) (v := .pointer (some ⟨g, 94, none⟩)) rfl (by kernel_rfl) (by kernel_rfl) (by kernel_rfl) (fun _ _ _ h => h) (Or.inl ⟨by kernel_rfl, fun W h => (by first | kernel_rfl | go_simp)⟩) hS ?_
    refine wpAnyH_take (i := 6) (oi := { dst := some 14, op := Op.move (Operand.tmp 1), type := 3, pos := "cache.go:41", after := #[], guard := none }) (v := .int .i64 b) rfl (by kernel_rfl) (by kernel_rfl) (by kernel_rfl) (fun _ _ _ h => h) (Or.inl ⟨by kernel_rfl, fun W h => (by first | kernel_rfl | go_simp)⟩) hS ?_
    generalize w.drew = W0 at hS hB0 hl0 ⊢
    refine wpAnyH_ready (rs := [7, 11]) (by kernel_rfl) (by simp) ?_
    refine AllReadyH.cons (o := { dst := some 15, op := Op.call { callee := Callee.value (Operand.func 143), args := #[Operand.tmp 10, Operand.tmp 13, Operand.tmp 14], argTypes := #[108, 108, 3] }, type := 190, pos := "cache.go:41", after := #[{ on := 2, ground := Ground.data }, { on := 5, ground := Ground.data }, { on := 6, ground := Ground.data }], guard := none }) rfl (fun K hK => ?_) (AllReadyH.cons (o := { dst := some 5, op := Op.alloc 78, type := 0, pos := "cache.go:41", after := #[], guard := none }) rfl (fun K hK => ?_) AllReadyH.nil)
    · skip
      go_simp
      refine (At.write_any (ob := 0) (oc := 94) g g m k b _ (hasAt_of hS (by simp; omega) (app_fst z1) hi) ⟨ds, _, _, hS, by simp; omega, app_snd z1 z2, hj⟩).mono ?_
      rintro e w1 ⟨⟨es, rfl, he⟩, hb1⟩
      go_wp2_with fail
      refine hK.out _ _ (by rw [hb1.block _ hl0]; exact hS) (fun hS1 => ?_)
      clear hK K
      refine wpAnyH_take (i := 8) (oi := { dst := some 7, op := Op.move (Operand.tmp 15), type := 190, pos := "cache.go:41", after := #[{ on := 7, ground := Ground.data }], guard := none }) (v := .tuple #[.agg es, .bool (Img.inB b)]) rfl (by kernel_rfl) (by kernel_rfl) (by kernel_rfl) (fun _ _ _ h => h) (Or.inl ⟨by kernel_rfl, fun W h => (by first | kernel_rfl | go_simp)⟩) hS1 ?_
      refine wpAnyH_take (i := 9) (oi := { dst := some 16, op := Op.extract (Operand.tmp 7) 0, type := 78, pos := "cache.go:41", after := #[{ on := 8, ground := Ground.data }], guard := none }) (v := .agg es) rfl (by kernel_rfl) (by kernel_rfl) (by kernel_rfl) (fun _ _ _ h => h) (Or.inl ⟨by kernel_rfl, fun W h => (by first | kernel_rfl | go_simp)⟩) hS1 ?_
      refine wpAnyH_take (i := 10) (oi := { dst := some 17, op := Op.extract (Operand.tmp 7) 1, type := 4, pos := "cache.go:41", after := #[{ on := 8, ground := Ground.data }, { on := 12, ground := Ground.gcOnly Departure.lateStores }], guard := none }) (v := .bool (Img.inB b)) rfl (by kernel_rfl) (by kernel_rfl) (by kernel_rfl) (fun _ _ _ h => h) (Or.inl ⟨by kernel_rfl, fun W h => (by first | kernel_rfl | go_simp)⟩) hS1 ?_
      refine wpAnyH_ready (rs := [11]) (by kernel_rfl) (by simp) ?_
      refine AllReadyH.cons (o := { dst := some 5, op := Op.alloc 78, type := 0, pos := "cache.go:41", after := #[], guard := none }) rfl (fun K hK => ?_) AllReadyH.nil
      go_simp
      have hl1 : g < w1.heap.size := Nat.lt_of_lt_of_le hl0 hb1.size
      refine hK.out _ _ (by rw [Below.heap_alloc _ _ _ hl1]; exact hS1) (fun hS2 => ?_)
      clear hK K
      refine wpAnyH_ready (rs := [12]) (by kernel_rfl) (by simp) ?_
      refine AllReadyH.cons (o := { dst := none, op := Op.store 78 (Operand.tmp 5) (Operand.tmp 16), type := 0, pos := "cache.go:41", after := #[{ on := 11, ground := Ground.data }, { on := 9, ground := Ground.data }, { on := 7, ground := Ground.chain }, { on := 0, ground := Ground.phase }, { on := 1, ground := Ground.phase }, { on := 2, ground := Ground.phase }, { on := 3, ground := Ground.phase }, { on := 4, ground := Ground.phase }, { on := 5, ground := Ground.phase }, { on := 6, ground := Ground.phase }, { on := 7, ground := Ground.phase }, { on := 8, ground := Ground.phase }, { on := 9, ground := Ground.phase }, { on := 10, ground := Ground.textOnly Departure.lateStores }, { on := 11, ground := Ground.phase }], guard := none }) rfl (fun K hK => ?_) AllReadyH.nil
      rw [if_pos (by kernel_rfl)]
      refine wp_store_row 78 (.tmp 5) (.tmp 16) rfl (w1.heap.size) es (by kernel_rfl) (by kernel_rfl) 78 zeroCells (heap_alloc_last _ _) (img_info he.size) (zero_size he) he.all ?_
      refine hK.out _ _ (by rw [setRow_other _ _ _ _ (by omega)]; exact hS2) (fun hS3 => ?_)
      clear hK K
      refine wpAnyH_take (i := 13) (oi := { dst := some 6, op := Op.assign (Operand.tmp 17), type := 4, pos := "cache.go:41", after := #[{ on := 10, ground := Ground.data }, { on := 12, ground := Ground.chain }, { on := 0, ground := Ground.phase }, { on := 1, ground := Ground.phase }, { on := 2, ground := Ground.phase }, { on := 3, ground := Ground.phase }, { on := 4, ground := Ground.phase }, { on := 5, ground := Ground.phase }, { on := 6, ground := Ground.phase }, { on := 7, ground := Ground.phase }, { on := 8, ground := Ground.phase }, { on := 9, ground := Ground.phase }, { on := 10, ground := Ground.phase }, { on := 11, ground := Ground.phase }, { on := 12, ground := Ground.phase }], guard := none }) (v := .bool (Img.inB b)) rfl (by kernel_rfl) (by kernel_rfl) (by kernel_rfl) (fun _ _ _ h => h) (Or.inl ⟨by kernel_rfl, fun W h => (by first | kernel_rfl | go_simp)⟩) hS3 ?_
      refine wpAnyH_done (by kernel_rfl) ?_ _
      simp only [Act.put, List.setIfInBounds_toArray, List.set_cons_zero, List.set_cons_succ]
      go_wp2_with fail
      go_meet
      exact ⟨_, es, rfl, rfl, he, setRow_heap _ _ _ _ _ _ (heap_alloc_last _ _), below_setRow ((hB0.trans (hb1.mono hB0.size)).alloc (hB0.trans (hb1.mono hB0.size)).size _) (hB0.trans (hb1.mono hB0.size)).size _⟩
    · go_simp
      refine hK.out _ _ (by rw [Below.heap_alloc _ _ _ hl0]; exact hS) (fun hS1 => ?_)
      clear hK K
      refine wpAnyH_ready (rs := [7]) (by kernel_rfl) (by simp) ?_
      refine AllReadyH.cons (o := { dst := some 15, op := Op.call { callee := Callee.value (Operand.func 143), args := #[Operand.tmp 10, Operand.tmp 13, Operand.tmp 14], argTypes := #[108, 108, 3] }, type := 190, pos := "cache.go:41", after := #[{ on := 2, ground := Ground.data }, { on := 5, ground := Ground.data }, { on := 6, ground := Ground.data }], guard := none }) rfl (fun K hK => ?_) AllReadyH.nil
      go_simp
      refine (At.write_any (ob := 0) (oc := 94) g g m k b _ (hasAt_of hS1 (by simp; omega) (app_fst z1) hi) ⟨ds, _, _, hS1, by simp; omega, app_snd z1 z2, hj⟩).mono ?_
      rintro e w1 ⟨⟨es, rfl, he⟩, hb1⟩
      go_wp2_with fail
      refine hK.out _ _ (by rw [hb1.block _ (by simp; omega)]; exact hS1) (fun hS2 => ?_)
      clear hK K
      refine wpAnyH_take (i := 8) (oi := { dst := some 7, op := Op.move (Operand.tmp 15), type := 190, pos := "cache.go:41", after := #[{ on := 7, ground := Ground.data }], guard := none }) (v := .tuple #[.agg es, .bool (Img.inB b)]) rfl (by kernel_rfl) (by kernel_rfl) (by kernel_rfl) (fun _ _ _ h => h) (Or.inl ⟨by kernel_rfl, fun W h => (by first | kernel_rfl | go_simp)⟩) hS2 ?_
      refine wpAnyH_take (i := 9) (oi := { dst := some 16, op := Op.extract (Operand.tmp 7) 0, type := 78, pos := "cache.go:41", after := #[{ on := 8, ground := Ground.data }], guard := none }) (v := .agg es) rfl (by kernel_rfl) (by kernel_rfl) (by kernel_rfl) (fun _ _ _ h => h) (Or.inl ⟨by kernel_rfl, fun W h => (by first | kernel_rfl | go_simp)⟩) hS2 ?_
      refine wpAnyH_take (i := 10) (oi := { dst := some 17, op := Op.extract (Operand.tmp 7) 1, type := 4, pos := "cache.go:41", after := #[{ on := 8, ground := Ground.data }, { on := 12, ground := Ground.gcOnly Departure.lateStores }], guard := none }) (v := .bool (Img.inB b)) rfl (by kernel_rfl) (by kernel_rfl) (by kernel_rfl) (fun _ _ _ h => h) (Or.inl ⟨by kernel_rfl, fun W h => (by first | kernel_rfl | go_simp)⟩) hS2 ?_
      have hr : w1.heap[W0.heap.size]? = some (.cells zeroCells 78) := by rw [hb1.block _ (by simp)]; exact heap_alloc_last _ _
      have hB1 : Below w.heap.size w w1 := (hB0.alloc hB0.size _).trans (hb1.mono (by have := hB0.size; simp; omega))
      refine wpAnyH_ready (rs := [12]) (by kernel_rfl) (by simp) ?_
      refine AllReadyH.cons (o := { dst := none, op := Op.store 78 (Operand.tmp 5) (Operand.tmp 16), type := 0, pos := "cache.go:41", after := #[{ on := 11, ground := Ground.data }, { on := 9, ground := Ground.data }, { on := 7, ground := Ground.chain }, { on := 0, ground := Ground.phase }, { on := 1, ground := Ground.phase }, { on := 2, ground := Ground.phase }, { on := 3, ground := Ground.phase }, { on := 4, ground := Ground.phase }, { on := 5, ground := Ground.phase }, { on := 6, ground := Ground.phase }, { on := 7, ground := Ground.phase }, { on := 8, ground := Ground.phase }, { on := 9, ground := Ground.phase }, { on := 10, ground := Ground.textOnly Departure.lateStores }, { on := 11, ground := Ground.phase }], guard := none }) rfl (fun K hK => ?_) AllReadyH.nil
      rw [if_pos (by kernel_rfl)]
      refine wp_store_row 78 (.tmp 5) (.tmp 16) rfl (W0.heap.size) es (by kernel_rfl) (by kernel_rfl) 78 zeroCells hr (img_info he.size) (zero_size he) he.all ?_
      refine hK.out _ _ (by rw [setRow_other _ _ _ _ (by omega)]; exact hS2) (fun hS3 => ?_)
      clear hK K
      refine wpAnyH_take (i := 13) (oi := { dst := some 6, op := Op.assign (Operand.tmp 17), type := 4, pos := "cache.go:41", after := #[{ on := 10, ground := Ground.data }, { on := 12, ground := Ground.chain }, { on := 0, ground := Ground.phase }, { on := 1, ground := Ground.phase }, { on := 2, ground := Ground.phase }, { on := 3, ground := Ground.phase }, { on := 4, ground := Ground.phase }, { on := 5, ground := Ground.phase }, { on := 6, ground := Ground.phase }, { on := 7, ground := Ground.phase }, { on := 8, ground := Ground.phase }, { on := 9, ground := Ground.phase }, { on := 10, ground := Ground.phase }, { on := 11, ground := Ground.phase }, { on := 12, ground := Ground.phase }], guard := none }) (v := .bool (Img.inB b)) rfl (by kernel_rfl) (by kernel_rfl) (by kernel_rfl) (fun _ _ _ h => h) (Or.inl ⟨by kernel_rfl, fun W h => (by first | kernel_rfl | go_simp)⟩) hS3 ?_
      refine wpAnyH_done (by kernel_rfl) ?_ _
      simp only [Act.put, List.setIfInBounds_toArray, List.set_cons_zero, List.set_cons_succ]
      go_wp2_with fail
      go_meet
      exact ⟨_, es, rfl, rfl, he, setRow_heap _ _ _ _ _ _ hr, below_setRow hB1 hB0.size _⟩
  case rest =>
    obtain ⟨gx, es, rfl, rfl, he, hr, hB⟩ := hcut
    have r1 := hide hr
    have r2 := hide (show wc.heap[g]? = some (.cells (cs ++ ds) 141) by rw [hB.block _ hgl]; exact hg)
    have hle : 94 + es.size ≤ (cs ++ ds).size := by simp [he.size]; omega
    have hsp := splice_snd z1 z2 he.size
    go_wp2_with (first | (have hx := unhide r1; refine wpList_load_row rfl 78 _ rfl gx rfl 78 es (0, 0) _ hx img_under rfl (img_info he.size) ?_; clear hx r1) | (have hx := unhide r2; refine wpList_store_part rfl 78 _ _ rfl g 94 es rfl rfl 141 (cs ++ ds) hx (img_info he.size) hle he.all ?_; clear hx r2; rw [hsp]))
    go_ret
    exact ⟨es, rfl, he, Mut.of hB hgl rfl hg⟩
end Go.Proofs.YtfpfpnhpbnnmfadGreatDoor
