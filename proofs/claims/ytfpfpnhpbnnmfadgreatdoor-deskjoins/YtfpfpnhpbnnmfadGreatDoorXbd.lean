/-
  The walks of cmp.Compare, slices.MaxFunc and soft.Of at an image that may be mended.
-/
import Derived.Test.YtfpfpnhpbnnmfadGreatDoorXbc
import Derived.Test.YtfpfpnhpbnnmfadGreatDoorXar
import Derived.Test.YtfpfpnhpbnnmfadGreatDoorXap
import Derived.Test.YtfpfpnhpbnnmfadGreatDoorXaf
namespace Go.Proofs.YtfpfpnhpbnnmfadGreatDoor
open Go.RowKit
open Idl (Stp chk stpA)
def cmpI (x y : Int) : Int := if x < y then -1 else if y < x then 1 else 0
theorem isNaN_any (x : Int) (w : World) : Calls Tryz.prog 197 #[.int .i64 x] w fun e w' => e = .returned (.bool false) ∧ w' = w := by
  have h : (x != x) = false := by simp
  go_enter Tryz.func197, Tryz.ntmps197
  go_wp2
  go_ret
  exact ⟨rfl, rfl⟩
theorem compare_any (x y : Int) (w : World) : Calls Tryz.prog 151 #[.int .i64 x, .int .i64 y] w fun e w' => e = .returned (.int .i64 (cmpI x y)) ∧ w' = w := by
  unfold cmpI
  by_cases h1 : x < y
  · rw [if_pos h1]
    have t1 : decide (x < y) = true := by simpa using h1
    go_enter Tryz.func151, Tryz.ntmps151
    go_wp2_with (go_at_call 197; refine (isNaN_any _ _).mono ?_; rintro e w' ⟨rfl, rfl⟩)
    go_ret
    exact ⟨rfl, rfl⟩
  · rw [if_neg h1]
    have t1 : decide (x < y) = false := by simpa using h1
    by_cases h2 : y < x
    · rw [if_pos h2]
      have t2 : decide (y < x) = true := by simpa using h2
      go_enter Tryz.func151, Tryz.ntmps151
      go_wp2_with (go_at_call 197; refine (isNaN_any _ _).mono ?_; rintro e w' ⟨rfl, rfl⟩)
      go_ret
      exact ⟨rfl, rfl⟩
    · rw [if_neg h2]
      have t2 : decide (y < x) = false := by simpa using h2
      go_enter Tryz.func151, Tryz.ntmps151
      go_wp2_with (go_at_call 197; refine (isNaN_any _ _).mono ?_; rintro e w' ⟨rfl, rfl⟩)
      go_ret
      exact ⟨rfl, rfl⟩
def inoC (m : Img) (n : Nat) : Array Value := #[.bool (m.live n), .int .i64 (m.stamp n), .int .i64 (m.links n), .int .i64 (m.part n 0), .int .i64 (m.part n 1)]
set_option maxHeartbeats 1000000 in
theorem of1_any (m : Img) (a b : Nat) (w : World) : Calls Tryz.prog 150 #[.agg (inoC m a), .agg (inoC m b)] w fun e w' => e = .returned (.int .i64 (cmpI (m.stamp a) (m.stamp b))) ∧ Below w.heap.size w w' := by
  unfold inoC
  have BL := hide (show Below w.heap.size w ((w.alloc (.cells #[.bool (m.live a), .int .i64 (m.stamp a), .int .i64 (m.links a), .int .i64 (m.part a 0), .int .i64 (m.part a 1)] 68)).alloc (.cells #[.bool (m.live b), .int .i64 (m.stamp b), .int .i64 (m.links b), .int .i64 (m.part b 0), .int .i64 (m.part b 1)] 68)) from ((Below.refl _ w).alloc (Nat.le_refl _) _).alloc (by simp) _)
  go_enter Tryz.func150, Tryz.ntmps150
  go_wp2_with fail
  refine (compare_any _ _ _).mono ?_
  rintro e w' ⟨rfl, e9⟩
  rw [e9]
  clear e9 w'
  go_wp2_with fail
  go_ret
  exact ⟨rfl, unhide BL⟩
/-! the greatest -/
theorem ino_cells5 : (Tryz.prog.info? 68).map (·.size) = some 5 := by kernel_rfl
theorem inoC_row {cs : Array Value} {m : Img} (h : IsImg cs m) {n : Nat} (hn : n < 8) : cs.extract (n * 5) (n * 5 + 5) = inoC m n :=
  cut5 (h.live n hn) (h.stamp n hn) (h.links n hn) (h.part n 0 hn (by omega)) (h.part n 1 hn (by omega))
theorem inoC_info (m : Img) (n : Nat) : (Tryz.prog.info? 68).map (·.size) = some (inoC m n).size := ino_cells5
theorem inoC_all (m : Img) (n : Nat) : (inoC m n).all (·.oneCell') = true := by kernel_rfl
def inoZ : Array Value := #[.bool false, .int .i64 0, .int .i64 0, .int .i64 0, .int .i64 0]
theorem zero_inoZ (w : World) : (zeroValue 68).run Tryz.prog w = .ok (.agg inoZ) w := by kernel_rfl
theorem Op1.ix_inos {o : Oper} {ρ : Operand → Value} (x y : Operand) (ho : o.op = .indexAddr 189 x y) {g j : Nat} (hx : ρ x = .slice (some ⟨g, 0, none⟩) 8 8) (hy : ρ y = .int .i64 ((j : Nat) : Int)) (hj : j < 8) (w : World) : (execOp ρ o).run Tryz.prog w = .ok (.value (.pointer (some ⟨g, j * 5, none⟩))) w := by
  have jz : (j : Int) < 8 := by omega
  unfold execOp
  rw [ho]
  go_simp
theorem Op1.gtr0 {o : Oper} {ρ : Operand → Value} (x : Operand) (ho : o.op = .binOp .gtr 3 x (.const (.int .i64 0)) 3) {v : Int} (hx : ρ x = .int .i64 v) (hy : ρ (.const (.int .i64 0)) = .int .i64 0) (b : Bool) (hv : decide (0 < v) = b) (w : World) : (execOp ρ o).run Tryz.prog w = .ok (.value (.bool b)) w := by
  unfold execOp
  rw [ho]
  subst hv
  go_simp
/-- the image at g is as it was, and the box at g5 holds an inode -/
structure Mx (w W : World) (g : Nat) (cs : Array Value) (g5 : Nat) (c : Array Value) : Prop where
  bel : Below w.heap.size w W
  row : W.heap[g]? = some (.cells cs 78)
  gl : g < w.heap.size
  lo : w.heap.size ≤ g5
  box : W.heap[g5]? = some (.cells c 68)
theorem Mx.call {w W W' : World} {g g5 : Nat} {cs c : Array Value} (h : Mx w W g cs g5 c) (hb : Below W.heap.size W W') : Mx w W' g cs g5 c :=
  ⟨h.bel.trans (hb.mono h.bel.size), by rw [hb.block _ (Array.getElem?_eq_some_iff.1 h.row).1]; exact h.row, h.gl, h.lo, by rw [hb.block _ (Array.getElem?_eq_some_iff.1 h.box).1]; exact h.box⟩
theorem Mx.set {w W : World} {g g5 : Nat} {cs c : Array Value} (h : Mx w W g cs g5 c) (c' : Array Value) : Mx w (W.setRow g5 c') g cs g5 c' :=
  ⟨below_setRow h.bel h.lo _, by rw [setRow_other _ _ _ _ (by have := h.gl; have := h.lo; omega)]; exact h.row, h.gl, h.lo, setRow_heap _ _ _ _ _ _ h.box⟩
def Maxi (m : Img) (b k : Nat) : Prop := b < 8 ∧ ∀ i, i < k → m.stamp i ≤ m.stamp b
theorem gtr_cmp (a b : Int) : decide (0 < cmpI a b) = decide (b < a) := by
  unfold cmpI
  by_cases h1 : a < b
  · rw [if_pos h1]
    have : ¬ b < a := by omega
    simp [this]
  · rw [if_neg h1]
    by_cases h2 : b < a
    · rw [if_pos h2]; simp [h2]
    · rw [if_neg h2]; simp [h2]
set_option maxHeartbeats 4000000 in
set_option maxRecDepth 100000 in
theorem maxFunc_any (g : Nat) (cs : Array Value) (m : Img) (hi : IsImg cs m) (w : World) (hg : w.heap[g]? = some (.cells cs 78)) :
    Calls Tryz.prog 149 #[.slice (some ⟨g, 0, none⟩) 8 8, .func (.func 150) #[] #[]] w fun e w' => (∃ b, e = .returned (.agg (inoC m b)) ∧ Maxi m b 8) ∧ Below w.heap.size w w' := by
  have zN := zero_inoZ
  have zi := hi.size
  have gl : g < w.heap.size := (Array.getElem?_eq_some_iff.1 hg).1
  have h8 : (0 : Int) < 8 := by omega
  have M0 := hide (show Mx w ((w.alloc (.cells inoZ 68)).alloc (.cells inoZ 68)) g cs (w.heap.size + 1) inoZ from ⟨((Below.refl _ w).alloc (Nat.le_refl _) _).alloc (by simp) _, by rw [Below.heap_alloc _ _ _ (by simp; omega), Below.heap_alloc _ _ _ gl]; exact hg, gl, by omega, heap_alloc2_new _ _ _⟩)
  have M1 := hide ((unhide M0).set (inoC m 0))
  have R4 := hide (show (((w.alloc (.cells inoZ 68)).alloc (.cells inoZ 68)).setRow (w.heap.size + 1) (inoC m 0)).heap[w.heap.size]? = some (.cells inoZ 68) by rw [setRow_other _ _ _ _ (by omega)]; exact heap_alloc2_old _ _ _)
  have r1 := hide (show (w.alloc (.cells inoZ 68)).heap[g]? = some (.cells cs 78) by rw [Below.heap_alloc _ _ _ gl]; exact hg)
  have s1 := hide (unhide M0).box
  have x0 := inoC_row hi (n := 0) (by omega)
  rw [Nat.zero_mul] at x0
  go_enter Tryz.func149, Tryz.ntmps149
  go_wp2_with (first | (have hx := unhide r1; refine wpList_load_part rfl 68 _ rfl g 0 5 rfl 78 cs _ hx ino_under rfl ino_cells5 (by omega) ?_; rw [x0]; clear hx r1) | (have hx := unhide s1; refine wpList_store_row rfl 68 _ _ rfl (w.heap.size + 1) (inoC m 0) rfl rfl 68 inoZ hx (inoC_info m 0) rfl (inoC_all m 0) ?_; clear hx s1))
  generalize ((w.alloc (.cells inoZ 68)).alloc (.cells inoZ 68)).setRow (w.heap.size + 1) (inoC m 0) = X1 at M1 R4 ⊢
  clear M0
  go_loopw [6] (fun i wr => ∃ kk b : Nat, 1 ≤ kk ∧ kk ≤ 8 ∧ i = .int .i64 kk ∧ Hid (Maxi m b kk) ∧ Hid (Mx w wr g cs (w.heap.size + 1) (inoC m b)) ∧ Hid (wr.heap[w.heap.size]? = some (.cells inoZ 68))) (fun i _ => 8 - (intOf i).toNat)
  case atStart => exact ⟨1, 0, by omega, by omega, rfl, hide ⟨by omega, fun i hi => by rw [show i = 0 by omega]; exact Int.le_refl _⟩, M1, R4⟩
  case round =>
    clear M1 R4
    obtain ⟨kk, b, hk1, hk8, rfl, HX, HM, HR⟩ := hrel
    by_cases hlt : kk < 8
    case pos =>
      have t8 : decide ((kk : Int) < 8) = true := by simp; omega
      have jz : (kk : Int) < 8 := by omega
      have Md := hide ((unhide HM).call ((Below.refl _ wr).drew))
      have Rd := hide (show wr.drew.heap[w.heap.size]? = some (.cells inoZ 68) from unhide HR)
      have xk := inoC_row hi hlt
      have yk : kk * 5 + 5 ≤ cs.size := by omega
      have OF := hide fun W => of1_any m kk b W
      have hgt := gtr_cmp (m.stamp kk) (m.stamp b)
      have SK := hide (show ∀ W, Mx w W g cs (w.heap.size + 1) (inoC m b) → (W.heap[g]? = some (.cells cs 78) ∧ W.heap[w.heap.size + 1]? = some (.cells (inoC m b) 68)) from fun W h => ⟨h.row, h.box⟩)
      have S0 := unhide SK _ (unhide Md)
      generalize hcv : decide (0 < cmpI (m.stamp kk) (m.stamp b)) = cv at hgt
      go_wp2_with fail
      refine wp_region_held_drew (S := fun W : World => W.heap[g]? = some (.cells cs 78) ∧ W.heap[w.heap.size + 1]? = some (.cells (inoC m b) 68)) (by kernel_rfl) (S0) (fun hS => ?_)
      refine wpAnyH_take (i := 0) (oi := { dst := some 20, op := Op.move (Operand.tmp 1), type := 207, pos := "sort.go:115", after := #[], guard := none }) (v := .func (.func 150) #[] #[]) rfl (by kernel_rfl) (by kernel_rfl) (by kernel_rfl) (fun _ _ _ h => h) (Or.inl ⟨by kernel_rfl, fun W h => (by first | kernel_rfl | go_simp)⟩) hS ?_
      try simp only [Act.put, List.setIfInBounds_toArray, List.set_cons_zero, List.set_cons_succ]
      refine wpAnyH_take (i := 1) (oi := { dst := some 21, op := Op.move (Operand.tmp 0), type := 189, pos := "sort.go:115", after := #[], guard := none }) (v := .slice (some ⟨g, 0, none⟩) 8 8) rfl (by kernel_rfl) (by kernel_rfl) (by kernel_rfl) (fun _ _ _ h => h) (Or.inl ⟨by kernel_rfl, fun W h => (by first | kernel_rfl | go_simp)⟩) hS ?_
      try simp only [Act.put, List.setIfInBounds_toArray, List.set_cons_zero, List.set_cons_succ]
      refine wpAnyH_take (i := 2) (oi := { dst := some 22, op := Op.move (Operand.tmp 6), type := 3, pos := "sort.go:115", after := #[], guard := none }) (v := .int .i64 (kk : Nat)) rfl (by kernel_rfl) (by kernel_rfl) (by kernel_rfl) (fun _ _ _ h => h) (Or.inl ⟨by kernel_rfl, fun W h => (by first | kernel_rfl | go_simp)⟩) hS ?_
      try simp only [Act.put, List.setIfInBounds_toArray, List.set_cons_zero, List.set_cons_succ]
      refine wpAnyH_take (i := 3) (oi := { dst := some 23, op := Op.indexAddr 189 (Operand.tmp 21) (Operand.tmp 22), type := 0, pos := "sort.go:115", after := #[{ on := 1, ground := Ground.data }, { on := 2, ground := Ground.data }], guard := none }) (v := .pointer (some ⟨g, kk * 5, none⟩)) rfl (by kernel_rfl) (by kernel_rfl) (by kernel_rfl) (fun _ _ _ h => h) (Or.inl ⟨by kernel_rfl, fun W h => Op1.ix_inos (.tmp 21) (.tmp 22) (by kernel_rfl) (by kernel_rfl) (by kernel_rfl) hlt W⟩) hS ?_
      try simp only [Act.put, List.setIfInBounds_toArray, List.set_cons_zero, List.set_cons_succ]
      refine wpAnyH_take (i := 4) (oi := { dst := some 24, op := Op.load 68 (Operand.tmp 23), type := 68, pos := "sort.go:115", after := #[{ on := 3, ground := Ground.data }], guard := none }) (v := .agg (inoC m kk)) rfl (by kernel_rfl) (by kernel_rfl) (by kernel_rfl) (fun _ _ _ h => h) (Or.inl ⟨by kernel_rfl, fun W h => run_exec_load_part 68 (.tmp 23) (by kernel_rfl) g (kk * 5) 5 (by kernel_rfl) W 78 cs (inoC m kk) _ h.1 ino_under rfl ino_cells5 yk xk⟩) hS ?_
      try simp only [Act.put, List.setIfInBounds_toArray, List.set_cons_zero, List.set_cons_succ]
      refine wpAnyH_take (i := 5) (oi := { dst := some 25, op := Op.load 68 (Operand.tmp 5), type := 68, pos := "sort.go:115", after := #[], guard := none }) (v := .agg (inoC m b)) rfl (by kernel_rfl) (by kernel_rfl) (by kernel_rfl) (fun _ _ _ h => h) (Or.inl ⟨by kernel_rfl, fun W h => run_exec_load_part 68 (.tmp 5) (by kernel_rfl) (w.heap.size + 1) 0 5 (by kernel_rfl) W 68 (inoC m b) (inoC m b) _ h.2 ino_under rfl ino_cells5 (Nat.le_refl 5) rfl⟩) hS ?_
      try simp only [Act.put, List.setIfInBounds_toArray, List.set_cons_zero, List.set_cons_succ]
      refine wpAnyH_ready (rs := [6]) (by kernel_rfl) (by simp) ?_
      refine AllReadyH.cons (o := { dst := some 26, op := Op.call { callee := Callee.value (Operand.tmp 20), args := #[Operand.tmp 24, Operand.tmp 25], argTypes := #[68, 68] }, type := 3, pos := "sort.go:115", after := #[{ on := 0, ground := Ground.data }, { on := 4, ground := Ground.data }, { on := 5, ground := Ground.data }], guard := none }) rfl (fun K hK => ?_) AllReadyH.nil
      rw [if_pos (by kernel_rfl)]
      go_simp
      refine (unhide OF _).mono ?_
      rintro e W5 ⟨rfl, b5⟩
      have M5 := hide ((unhide Md).call b5)
      have R5 := hide (show W5.heap[w.heap.size]? = some (.cells inoZ 68) by rw [b5.block _ (Array.getElem?_eq_some_iff.1 (unhide Rd)).1]; exact unhide Rd)
      clear b5 Md Rd
      go_wp2_with fail
      refine hK.out _ _ (unhide SK _ (unhide M5)) (fun hS5 => ?_)
      clear hK K
      try simp only [Act.put, List.setIfInBounds_toArray, List.set_cons_zero, List.set_cons_succ]
      refine wpAnyH_take (i := 7) (oi := { dst := some 27, op := Op.binOp BinOp.gtr 3 (Operand.tmp 26) (Operand.const (Value.int IntKind.i64 0)) 3, type := 4, pos := "sort.go:115", after := #[{ on := 6, ground := Ground.data }], guard := none }) (v := .bool cv) rfl (by kernel_rfl) (by kernel_rfl) (by kernel_rfl) (fun _ _ _ h => h) (Or.inl ⟨by kernel_rfl, fun W h => Op1.gtr0 (.tmp 26) (by kernel_rfl) (by kernel_rfl) (by kernel_rfl) cv hcv W⟩) hS5 ?_
      try simp only [Act.put, List.setIfInBounds_toArray, List.set_cons_zero, List.set_cons_succ]
      refine wpAnyH_done (by kernel_rfl) ?_ _
      clear hS hS5 S0 SK OF hcv
      cases cv
      case false =>
        have hle : ¬ m.stamp b < m.stamp kk := by simpa using hgt.symm
        go_wp2_with fail
        go_roundw
        case rel => exact ⟨kk + 1, b, by omega, by omega, by go_num, hide ⟨(unhide HX).1, fun i hi => by by_cases e : i = kk; rw [e]; omega; exact (unhide HX).2 i (by omega)⟩, M5, R5⟩
        case measure => simp [intOf]; omega
      case true =>
        have hle : m.stamp b < m.stamp kk := by simpa using hgt.symm
        have M6 := hide ((unhide M5).set (inoC m kk))
        have R6 := hide (show (W5.setRow (w.heap.size + 1) (inoC m kk)).heap[w.heap.size]? = some (.cells inoZ 68) by rw [setRow_other _ _ _ _ (by omega)]; exact unhide R5)
        have r1 := hide (unhide M5).row
        have s1 := hide (unhide M5).box
        go_wp2_with (first | (have hx := unhide r1; refine wpList_load_part rfl 68 _ rfl g (kk * 5) 5 rfl 78 cs _ hx ino_under rfl ino_cells5 yk ?_; rw [xk]; clear hx r1; simp only [Act.put, List.setIfInBounds_toArray, List.set_cons_zero, List.set_cons_succ]) | (have hx := unhide s1; refine wpList_store_row rfl 68 _ _ rfl (w.heap.size + 1) (inoC m kk) rfl rfl 68 (inoC m b) hx (inoC_info m kk) rfl (inoC_all m kk) ?_; clear hx s1; simp only [Act.put]))
        go_roundw
        case rel => exact ⟨kk + 1, kk, by omega, by omega, by go_num, hide ⟨hlt, fun i hi => by by_cases e : i = kk; rw [e]; exact Int.le_refl _; have := (unhide HX).2 i (by omega); omega⟩, M6, R6⟩
        case measure => simp [intOf]; omega
    case neg =>
      have e8 : kk = 8 := by omega
      subst e8
      have r1 := hide (unhide HM).box
      have s1 := hide (unhide HR)
      go_wp2_with (first | (have hx := unhide r1; refine wpList_load_row rfl 68 _ rfl (w.heap.size + 1) rfl 68 (inoC m b) (0, 0) _ hx ino_under rfl (inoC_info m b) ?_; clear hx r1) | (have hx := unhide s1; refine wpList_store_row rfl 68 _ _ rfl w.heap.size (inoC m b) rfl rfl 68 inoZ hx (inoC_info m b) rfl (inoC_all m b) ?_; clear hx s1))
      refine bodyPost_ret (v := .agg (inoC m b)) ?_ rfl ⟨⟨b, rfl, unhide HX⟩, below_setRow (unhide HM).bel (Nat.le_refl _) _⟩
      exact results_cell_row (P := Tryz.prog) Tryz.results149 _ _ w.heap.size 68 _ (0, 0) _ rfl (setRow_heap _ _ _ _ _ _ (unhide HR)) ino_under rfl (inoC_info m b)
/-- what Of answers at an image that may be mended -/
def OfFl (w : World) (cs : Array Value) (m : Img) (e : Ending) (w' : World) : Prop := ∃ bf bc last, e = .returned (.pointer (some ⟨bf, 0, none⟩)) ∧ w.heap.size ≤ bf ∧ w.heap.size ≤ bc ∧ Fl w' bf bc cs cs m m last ∧ ∃ b, last = m.stamp b ∧ Maxi m b 8
set_option maxHeartbeats 4000000 in
set_option maxRecDepth 100000 in
theorem sOf_any (cs : Array Value) (m : Img) (hi : IsImg cs m) (hm : m.check = 0) (w : World) :
    Calls Tryz.prog 111 #[.agg cs] w fun e w' => OfFl w cs m e w' ∧ Below w.heap.size w w' := by
  have C1 := hide (of_any cs m hi (w.alloc (.cells cs 78)))
  have BEL := hide (show Below w.heap.size w (w.alloc (.cells cs 78)) from (Below.refl _ w).alloc (Nat.le_refl _) _)
  have HR := hide (heap_alloc_last w (.cells cs 78))
  have hz := hi.size
  have zN := zero_inoZ
  go_enter Tryz.func111, Tryz.ntmps111
  go_wp2_with (refine wpList_load_row rfl 78 _ rfl w.heap.size rfl 78 cs (0, 0) _ (unhide HR) img_under rfl (img_info hz) ?_)
  refine (unhide C1).mono ?_
  rintro e w1 ⟨ho, b1⟩
  have e0 : ∃ gc, e = .returned (.pointer (some ⟨gc, 0, none⟩)) ∧ w.heap.size ≤ gc ∧ w1.heap[gc]? = some (.cells (cs ++ cs) 141) := by
    rcases ho with ⟨_, gc, z1, z2, z3⟩ | ⟨z, _⟩
    · exact ⟨gc, z1, by simp at z2; omega, z3⟩
    · exact absurd hm z
  obtain ⟨gc, rfl, hgc, rgc⟩ := e0
  have B1 := hide ((unhide BEL).trans (b1.mono (by simp)))
  have r1 : w1.heap[w.heap.size]? = some (.cells cs 78) := by rw [b1.block _ (by simp)]; exact unhide HR
  have RG := hide rgc
  clear b1 ho rgc
  have MF := hide (maxFunc_any w.heap.size cs m hi w1 r1)
  go_wp2_with fail
  refine (unhide MF).mono ?_
  rintro e w2 ⟨⟨b, rfl, hmx⟩, b2⟩
  have B2 := hide ((unhide B1).trans (b2.mono (unhide B1).size))
  have RG2 := hide (show w2.heap[gc]? = some (.cells (cs ++ cs) 141) by rw [b2.block _ (Array.getElem?_eq_some_iff.1 (unhide RG)).1]; exact unhide RG)
  have HX := hide hmx
  clear b2 hmx MF RG r1
  have s1 := hide (heap_alloc_last w2 (.cells inoZ 68))
  have B3 := hide (below_setRow ((unhide B2).alloc (unhide B2).size (.cells inoZ 68)) (unhide B2).size (inoC m b))
  have R3 := setRow_heap (w2.alloc (.cells inoZ 68)) w2.heap.size _ (inoC m b) _ _ (heap_alloc_last w2 (.cells inoZ 68))
  have RG3 := hide (show ((w2.alloc (.cells inoZ 68)).setRow w2.heap.size (inoC m b)).heap[gc]? = some (.cells (cs ++ cs) 141) by
    have := (Array.getElem?_eq_some_iff.1 (unhide RG2)).1
    rw [setRow_other _ _ _ _ (by omega), Below.heap_alloc _ _ _ this]; exact unhide RG2)
  have c1 : ((w2.alloc (.cells inoZ 68)).setRow w2.heap.size (inoC m b)).cell? ⟨w2.heap.size, 1, none⟩ = some (.int .i64 (m.stamp b)) := by rw [cell_of_row _ _ _ _ _ _ R3]; rfl
  clear R3
  go_wp2_with (have hx := unhide s1; refine wpList_store_row rfl 68 _ _ rfl w2.heap.size (inoC m b) rfl rfl 68 inoZ hx (inoC_info m b) rfl (inoC_all m b) ?_; clear hx s1; generalize (w2.alloc (.cells inoZ 68)).setRow w2.heap.size (inoC m b) = X3 at B3 RG3 c1 ⊢)
  go_ret
  have lg : gc < X3.heap.size := (Array.getElem?_eq_some_iff.1 (unhide RG3)).1
  refine ⟨⟨_, gc, m.stamp b, rfl, (unhide B3).size, hgc, ⟨heap_alloc_last _ _, ?_, hi, hi, by omega⟩, b, rfl, unhide HX⟩, (unhide B3).alloc (unhide B3).size _⟩
  rw [Below.heap_alloc _ _ _ lg]; exact unhide RG3
end Go.Proofs.YtfpfpnhpbnnmfadGreatDoor
