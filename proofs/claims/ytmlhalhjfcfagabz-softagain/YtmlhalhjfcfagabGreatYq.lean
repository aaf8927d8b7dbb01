/-
  The walks of cmp.Compare, slices.MaxFunc and soft.Of at an image that may be mended.
-/
import Derived.Test.YtmlhalhjfcfagabGreatYr
import Derived.Test.YtmlhalhjfcfagabGreatYk
import Derived.Test.YtmlhalhjfcfagabGreatYm
namespace Go.Proofs.YtmlhalhjfcfagabGreat
open Go.RowKit
open Idl (Stp chk stpA)
def cmpI (x y : Int) : Int := if x < y then -1 else if y < x then 1 else 0
theorem isNaN_any (x : Int) (w : World) : Calls Tryz.prog 68 #[.int .i64 x] w fun e w' => e = .returned (.bool false) ∧ w' = w := by
  have h : (x != x) = false := by simp
  go_enter Tryz.func68, Tryz.ntmps68
  go_wp2
  go_ret
  exact ⟨rfl, rfl⟩
theorem compare_any (x y : Int) (w : World) : Calls Tryz.prog 44 #[.int .i64 x, .int .i64 y] w fun e w' => e = .returned (.int .i64 (cmpI x y)) ∧ w' = w := by
  unfold cmpI
  by_cases h1 : x < y
  · rw [if_pos h1]
    have t1 : decide (x < y) = true := by simpa using h1
    go_enter Tryz.func44, Tryz.ntmps44
    go_wp2_with (go_at_call 68; refine (isNaN_any _ _).mono ?_; rintro e w' ⟨rfl, rfl⟩)
    go_ret
    exact ⟨rfl, rfl⟩
  · rw [if_neg h1]
    have t1 : decide (x < y) = false := by simpa using h1
    by_cases h2 : y < x
    · rw [if_pos h2]
      have t2 : decide (y < x) = true := by simpa using h2
      go_enter Tryz.func44, Tryz.ntmps44
      go_wp2_with (go_at_call 68; refine (isNaN_any _ _).mono ?_; rintro e w' ⟨rfl, rfl⟩)
      go_ret
      exact ⟨rfl, rfl⟩
    · rw [if_neg h2]
      have t2 : decide (y < x) = false := by simpa using h2
      go_enter Tryz.func44, Tryz.ntmps44
      go_wp2_with (go_at_call 68; refine (isNaN_any _ _).mono ?_; rintro e w' ⟨rfl, rfl⟩)
      go_ret
      exact ⟨rfl, rfl⟩
def inoC (m : Img) (n : Nat) : Array Value := #[.bool (m.live n), .int .i64 (m.stamp n), .int .i64 (m.links n), .int .i64 (m.part n 0), .int .i64 (m.part n 1)]
set_option maxHeartbeats 1000000 in
theorem of1_any (m : Img) (a b : Nat) (w : World) : Calls Tryz.prog 43 #[.agg (inoC m a), .agg (inoC m b)] w fun e w' => e = .returned (.int .i64 (cmpI (m.stamp a) (m.stamp b))) ∧ Below w.heap.size w w' := by
  unfold inoC
  have BL := hide (show Below w.heap.size w ((w.alloc (.cells #[.bool (m.live a), .int .i64 (m.stamp a), .int .i64 (m.links a), .int .i64 (m.part a 0), .int .i64 (m.part a 1)] 24)).alloc (.cells #[.bool (m.live b), .int .i64 (m.stamp b), .int .i64 (m.links b), .int .i64 (m.part b 0), .int .i64 (m.part b 1)] 24)) from ((Below.refl _ w).alloc (Nat.le_refl _) _).alloc (by simp) _)
  go_enter Tryz.func43, Tryz.ntmps43
  go_wp2_with fail
  refine (compare_any _ _ _).mono ?_
  rintro e w' ⟨rfl, e9⟩
  rw [e9]
  clear e9 w'
  go_wp2_with fail
  go_ret
  exact ⟨rfl, unhide BL⟩
/-! the greatest -/
theorem ino_cells5 : (Tryz.prog.info? 24).map (·.size) = some 5 := by kernel_rfl
theorem inoC_row {cs : Array Value} {m : Img} (h : IsImg cs m) {n : Nat} (hn : n < 8) : cs.extract (n * 5) (n * 5 + 5) = inoC m n :=
  cut5 (h.live n hn) (h.stamp n hn) (h.links n hn) (h.part n 0 hn (by omega)) (h.part n 1 hn (by omega))
theorem inoC_info (m : Img) (n : Nat) : (Tryz.prog.info? 24).map (·.size) = some (inoC m n).size := ino_cells5
theorem inoC_all (m : Img) (n : Nat) : (inoC m n).all (·.oneCell') = true := by kernel_rfl
def inoZ : Array Value := #[.bool false, .int .i64 0, .int .i64 0, .int .i64 0, .int .i64 0]
theorem zero_inoZ (w : World) : (zeroValue 24).run Tryz.prog w = .ok (.agg inoZ) w := by kernel_rfl
theorem Op1.ix_inos {o : Oper} {ρ : Operand → Value} (x y : Operand) (ho : o.op = .indexAddr 82 x y) {g j : Nat} (hx : ρ x = .slice (some ⟨g, 0, none⟩) 8 8) (hy : ρ y = .int .i64 ((j : Nat) : Int)) (hj : j < 8) (w : World) : (execOp ρ o).run Tryz.prog w = .ok (.value (.pointer (some ⟨g, j * 5, none⟩))) w := by
  have jz : (j : Int) < 8 := by omega
  unfold execOp
  rw [ho]
  go_simp
theorem Op1.gtr0 {o : Oper} {ρ : Operand → Value} (x : Operand) (ho : o.op = .binOp .gtr 3 x (.const (.int .i64 0)) 3) {v : Int} (hx : ρ x = .int .i64 v) (hy : ρ (.const (.int .i64 0)) = .int .i64 0) (b : Bool) (hv : decide (0 < v) = b) (w : World) : (execOp ρ o).run Tryz.prog w = .ok (.value (.bool b)) w := by
  unfold execOp
  rw [ho]
  subst hv
  go_simp
/-- the image at g is as it was, and the box at g5 holds an inode -/
structure Mx (w W : World) (g : Nat) (cs : Array Value) (g5 : Nat) (c : Array Value) : Prop where
  bel : Below w.heap.size w W
  row : W.heap[g]? = some (.cells cs 34)
  gl : g < w.heap.size
  lo : w.heap.size ≤ g5
  box : W.heap[g5]? = some (.cells c 24)
theorem Mx.call {w W W' : World} {g g5 : Nat} {cs c : Array Value} (h : Mx w W g cs g5 c) (hb : Below W.heap.size W W') : Mx w W' g cs g5 c :=
  ⟨h.bel.trans (hb.mono h.bel.size), by rw [hb.block _ (Array.getElem?_eq_some_iff.1 h.row).1]; exact h.row, h.gl, h.lo, by rw [hb.block _ (Array.getElem?_eq_some_iff.1 h.box).1]; exact h.box⟩
theorem Mx.set {w W : World} {g g5 : Nat} {cs c : Array Value} (h : Mx w W g cs g5 c) (c' : Array Value) : Mx w (W.setRow g5 c') g cs g5 c' :=
  ⟨below_setRow h.bel h.lo _, by rw [setRow_other _ _ _ _ (by have := h.gl; have := h.lo; omega)]; exact h.row, h.gl, h.lo, setRow_heap _ _ _ _ _ _ h.box⟩
def Maxi (m : Img) (b k : Nat) : Prop := b < 8 ∧ ∀ i, i < k → m.stamp i ≤ m.stamp b
theorem gtr_cmp (a b : Int) : decide (0 < cmpI a b) = decide (b < a) := by
  unfold cmpI
  by_cases h1 : a < b
  · rw [if_pos h1]
    have : ¬ b < a := by omega
    simp [this]
  · rw [if_neg h1]
    by_cases h2 : b < a
    · rw [if_pos h2]; simp [h2]
    · rw [if_neg h2]; simp [h2]
set_option maxHeartbeats 4000000 in
set_option maxRecDepth 100000 in
theorem maxFunc_any (g : Nat) (cs : Array Value) (m : Img) (hi : IsImg cs m) (w : World) (hg : w.heap[g]? = some (.cells cs 34)) :
    Calls Tryz.prog 42 #[.slice (some ⟨g, 0, none⟩) 8 8, .func (.func 43) #[] #[]] w fun e w' => (∃ b, e = .returned (.agg (inoC m b)) ∧ Maxi m b 8) ∧ Below w.heap.size w w' := by
  have zN := zero_inoZ
  have zi := hi.size
  have gl : g < w.heap.size := (Array.getElem?_eq_some_iff.1 hg).1
  have h8 : (0 : Int) < 8 := by omega
  have M0 := hide (show Mx w ((w.alloc (.cells inoZ 24)).alloc (.cells inoZ 24)) g cs (w.heap.size + 1) inoZ from ⟨((Below.refl _ w).alloc (Nat.le_refl _) _).alloc (by simp) _, by rw [Below.heap_alloc _ _ _ (by simp; omega), Below.heap_alloc _ _ _ gl]; exact hg, gl, by omega, heap_alloc2_new _ _ _⟩)
  have M1 := hide ((unhide M0).set (inoC m 0))
  have R4 := hide (show (((w.alloc (.cells inoZ 24)).alloc (.cells inoZ 24)).setRow (w.heap.size + 1) (inoC m 0)).heap[w.heap.size]? = some (.cells inoZ 24) by rw [setRow_other _ _ _ _ (by omega)]; exact heap_alloc2_old _ _ _)
  have r1 := hide (show (w.alloc (.cells inoZ 24)).heap[g]? = some (.cells cs 34) by rw [Below.heap_alloc _ _ _ gl]; exact hg)
  have s1 := hide (unhide M0).box
  have x0 := inoC_row hi (n := 0) (by omega)
  rw [Nat.zero_mul] at x0
  go_enter Tryz.func42, Tryz.ntmps42
  go_wp2_with (first | (have hx := unhide r1; refine wpList_load_part rfl 24 _ rfl g 0 5 rfl 34 cs _ hx ino_under rfl ino_cells5 (by omega) ?_; rw [x0]; clear hx r1) | (have hx := unhide s1; refine wpList_store_row rfl 24 _ _ rfl (w.heap.size + 1) (inoC m 0) rfl rfl 24 inoZ hx (inoC_info m 0) rfl (inoC_all m 0) ?_; clear hx s1))
  generalize ((w.alloc (.cells inoZ 24)).alloc (.cells inoZ 24)).setRow (w.heap.size + 1) (inoC m 0) = X1 at M1 R4 ⊢
  clear M0
  go_loopw [6] (fun i wr => ∃ kk b : Nat, 1 ≤ kk ∧ kk ≤ 8 ∧ i = .int .i64 kk ∧ Hid (Maxi m b kk) ∧ Hid (Mx w wr g cs (w.heap.size + 1) (inoC m b)) ∧ Hid (wr.heap[w.heap.size]? = some (.cells inoZ 24))) (fun i _ => 8 - (intOf i).toNat)
  case atStart => exact ⟨1, 0, by omega, by omega, rfl, hide ⟨by omega, fun i hi => by rw [show i = 0 by omega]; exact Int.le_refl _⟩, M1, R4⟩
  case round =>
    clear M1 R4
    obtain ⟨kk, b, hk1, hk8, rfl, HX, HM, HR⟩ := hrel
    by_cases hlt : kk < 8
    case pos =>
      have t8 : decide ((kk : Int) < 8) = true := by simp; omega
      have jz : (kk : Int) < 8 := by omega
      have Md := hide ((unhide HM).call ((Below.refl _ wr).drew))
      have Rd := hide (show wr.drew.heap[w.heap.size]? = some (.cells inoZ 24) from unhide HR)
      have xk := inoC_row hi hlt
      have yk : kk * 5 + 5 ≤ cs.size := by omega
      have OF := hide fun W => of1_any m kk b W
      have hgt := gtr_cmp (m.stamp kk) (m.stamp b)
      have SK := hide (show ∀ W, Mx w W g cs (w.heap.size + 1) (inoC m b) → (W.heap[g]? = some (.cells cs 34) ∧ W.heap[w.heap.size + 1]? = some (.cells (inoC m b) 24)) from fun W h => ⟨h.row, h.box⟩)
      have S0 := unhide SK _ (unhide Md)
      generalize hcv : decide (0 < cmpI (m.stamp kk) (m.stamp b)) = cv at hgt
      go_wp2_with fail
      refine wp_region_held_drew (S := fun W : World => W.heap[g]? = some (.cells cs 34) ∧ W.heap[w.heap.size + 1]? = some (.cells (inoC m b) 24)) (by kernel_rfl) (S0) (fun hS => ?_)
      refine wpAnyH_take (i := 0) (oi := { dst := some 20, op := Op.move (Operand.tmp 1), type := 84, pos := "sort.go:115", after := #[], guard := none }) (v := .func (.func 43) #[] #[]) rfl (by kernel_rfl) (by kernel_rfl) (by kernel_rfl) (fun _ _ _ h => h) (Or.inl ⟨by kernel_rfl, fun W h => (by first | kernel_rfl | go_simp)⟩) hS ?_
      try simp only [Act.put, List.setIfInBounds_toArray, List.set_cons_zero, List.set_cons_succ]
      refine wpAnyH_take (i := 1) (oi := { dst := some 21, op := Op.move (Operand.tmp 0), type := 82, pos := "sort.go:115", after := #[], guard := none }) (v := .slice (some ⟨g, 0, none⟩) 8 8) rfl (by kernel_rfl) (by kernel_rfl) (by kernel_rfl) (fun _ _ _ h => h) (Or.inl ⟨by kernel_rfl, fun W h => (by first | kernel_rfl | go_simp)⟩) hS ?_
      try simp only [Act.put, List.setIfInBounds_toArray, List.set_cons_zero, List.set_cons_succ]
      refine wpAnyH_take (i := 2) (oi := { dst := some 22, op := Op.move (Operand.tmp 6), type := 3, pos := "sort.go:115", after := #[], guard := none }) (v := .int .i64 (kk : Nat)) rfl (by kernel_rfl) (by kernel_rfl) (by kernel_rfl) (fun _ _ _ h => h) (Or.inl ⟨by kernel_rfl, fun W h => (by first | kernel_rfl | go_simp)⟩) hS ?_
      try simp only [Act.put, List.setIfInBounds_toArray, List.set_cons_zero, List.set_cons_succ]
      refine wpAnyH_take (i := 3) (oi := { dst := some 23, op := Op.indexAddr 82 (Operand.tmp 21) (Operand.tmp 22), type := 0, pos := "sort.go:115", after := #[{ on := 1, ground := Ground.data }, { on := 2, ground := Ground.data }], guard := none }) (v := .pointer (some ⟨g, kk * 5, none⟩)) rfl (by kernel_rfl) (by kernel_rfl) (by kernel_rfl) (fun _ _ _ h => h) (Or.inl ⟨by kernel_rfl, fun W h => Op1.ix_inos (.tmp 21) (.tmp 22) (by kernel_rfl) (by kernel_rfl) (by kernel_rfl) hlt W⟩) hS ?_
      try simp only [Act.put, List.setIfInBounds_toArray, List.set_cons_zero, List.set_cons_succ]
      refine wpAnyH_take (i := 4) (oi := { dst := some 24, op := Op.load 24 (Operand.tmp 23), type := 24, pos := "sort.go:115", after := #[{ on := 3, ground := Ground.data }], guard := none }) (v := .agg (inoC m kk)) rfl (by kernel_rfl) (by kernel_rfl) (by kernel_rfl) (fun _ _ _ h => h) (Or.inl ⟨by kernel_rfl, fun W h => run_exec_load_part 24 (.tmp 23) (by kernel_rfl) g (kk * 5) 5 (by kernel_rfl) W 34 cs (inoC m kk) _ h.1 ino_under rfl ino_cells5 yk xk⟩) hS ?_
      try simp only [Act.put, List.setIfInBounds_toArray, List.set_cons_zero, List.set_cons_succ]
      refine wpAnyH_take (i := 5) (oi := { dst := some 25, op := Op.load 24 (Operand.tmp 5), type := 24, pos := "sort.go:115", after := #[], guard := none }) (v := .agg (inoC m b)) rfl (by kernel_rfl) (by kernel_rfl) (by kernel_rfl) (fun _ _ _ h => h) (Or.inl ⟨by kernel_rfl, fun W h => run_exec_load_part 24 (.tmp 5) (by kernel_rfl) (w.heap.size + 1) 0 5 (by kernel_rfl) W 24 (inoC m b) (inoC m b) _ h.2 ino_under rfl ino_cells5 (Nat.le_refl 5) rfl⟩) hS ?_
      try simp only [Act.put, List.setIfInBounds_toArray, List.set_cons_zero, List.set_cons_succ]
      refine wpAnyH_ready (rs := [6]) (by kernel_rfl) (by simp) ?_
      refine AllReadyH.cons (o := { dst := some 26, op := Op.call { callee := Callee.value (Operand.tmp 20), args := #[Operand.tmp 24, Operand.tmp 25], argTypes := #[24, 24] }, type := 3, pos := "sort.go:115", after := #[{ on := 0, ground := Ground.data }, { on := 4, ground := Ground.data }, { on := 5, ground := Ground.data }], guard := none }) rfl (fun K hK => ?_) AllReadyH.nil
      rw [if_pos (by kernel_rfl)]
      go_simp
      refine (unhide OF _).mono ?_
      rintro e W5 ⟨rfl, b5⟩
      have M5 := hide ((unhide Md).call b5)
      have R5 := hide (show W5.heap[w.heap.size]? = some (.cells inoZ 24) by rw [b5.block _ (Array.getElem?_eq_some_iff.1 (unhide Rd)).1]; exact unhide Rd)
      clear b5 Md Rd
      go_wp2_with fail
      refine hK.out _ _ (unhide SK _ (unhide M5)) (fun hS5 => ?_)
      clear hK K
      try simp only [Act.put, List.setIfInBounds_toArray, List.set_cons_zero, List.set_cons_succ]
      refine wpAnyH_take (i := 7) (oi := { dst := some 27, op := Op.binOp BinOp.gtr 3 (Operand.tmp 26) (Operand.const (Value.int IntKind.i64 0)) 3, type := 4, pos := "sort.go:115", after := #[{ on := 6, ground := Ground.data }], guard := none }) (v := .bool cv) rfl (by kernel_rfl) (by kernel_rfl) (by kernel_rfl) (fun _ _ _ h => h) (Or.inl ⟨by kernel_rfl, fun W h => Op1.gtr0 (.tmp 26) (by kernel_rfl) (by kernel_rfl) (by kernel_rfl) cv hcv W⟩) hS5 ?_
      try simp only [Act.put, List.setIfInBounds_toArray, List.set_cons_zero, List.set_cons_succ]
      refine wpAnyH_done (by kernel_rfl) ?_ _
      clear hS hS5 S0 SK OF hcv
      cases cv
      case false =>
        have hle : ¬ m.stamp b < m.stamp kk := by simpa using hgt.symm
        go_wp2_with fail
        go_roundw
        case rel => exact ⟨kk + 1, b, by omega, by omega, by go_num, hide ⟨(unhide HX).1, fun i hi => by by_cases e : i = kk; rw [e]; omega; exact (unhide HX).2 i (by omega)⟩, M5, R5⟩
        case measure => simp [intOf]; omega
      case true =>
        have hle : m.stamp b < m.stamp kk := by simpa using hgt.symm
        have M6 := hide ((unhide M5).set (inoC m kk))
        have R6 := hide (show (W5.setRow (w.heap.size + 1) (inoC m kk)).heap[w.heap.size]? = some (.cells inoZ 24) by rw [setRow_other _ _ _ _ (by omega)]; exact unhide R5)
        have r1 := hide (unhide M5).row
        have s1 := hide (unhide M5).box
        go_wp2_with (first | (have hx := unhide r1; refine wpList_load_part rfl 24 _ rfl g (kk * 5) 5 rfl 34 cs _ hx ino_under rfl ino_cells5 yk ?_; rw [xk]; clear hx r1; simp only [Act.put, List.setIfInBounds_toArray, List.set_cons_zero, List.set_cons_succ]) | (have hx := unhide s1; refine wpList_store_row rfl 24 _ _ rfl (w.heap.size + 1) (inoC m kk) rfl rfl 24 (inoC m b) hx (inoC_info m kk) rfl (inoC_all m kk) ?_; clear hx s1; simp only [Act.put]))
        go_roundw
        case rel => exact ⟨kk + 1, kk, by omega, by omega, by go_num, hide ⟨hlt, fun i hi => by by_cases e : i = kk; rw [e]; exact Int.le_refl _; have := (unhide HX).2 i (by omega); omega⟩, M6, R6⟩
        case measure => simp [intOf]; omega
    case neg =>
      have e8 : kk = 8 := by omega
      subst e8
      have r1 := hide (unhide HM).box
      have s1 := hide (unhide HR)
      go_wp2_with (first | (have hx := unhide r1; refine wpList_load_row rfl 24 _ rfl (w.heap.size + 1) rfl 24 (inoC m b) (0, 0) _ hx ino_under rfl (inoC_info m b) ?_; clear hx r1) | (have hx := unhide s1; refine wpList_store_row rfl 24 _ _ rfl w.heap.size (inoC m b) rfl rfl 24 inoZ hx (inoC_info m b) rfl (inoC_all m b) ?_; clear hx s1))
      refine bodyPost_ret (v := .agg (inoC m b)) ?_ rfl ⟨⟨b, rfl, unhide HX⟩, below_setRow (unhide HM).bel (Nat.le_refl _) _⟩
      exact results_cell_row (P := Tryz.prog) Tryz.results42 _ _ w.heap.size 24 _ (0, 0) _ rfl (setRow_heap _ _ _ _ _ _ (unhide HR)) ino_under rfl (inoC_info m b)
/-- what Of answers at an image that may be mended -/
def OfFl (w : World) (cs : Array Value) (m : Img) (e : Ending) (w' : World) : Prop := ∃ bf bc last, e = .returned (.pointer (some ⟨bf, 0, none⟩)) ∧ w.heap.size ≤ bf ∧ w.heap.size ≤ bc ∧ Fl w' bf bc cs cs m m last ∧ ∃ b, last = m.stamp b ∧ Maxi m b 8
set_option maxHeartbeats 4000000 in
set_option maxRecDepth 100000 in
theorem sOf_any (cs : Array Value) (m : Img) (hi : IsImg cs m) (hm : m.check = 0) (w : World) :
    Calls Tryz.prog 14 #[.agg cs] w fun e w' => OfFl w cs m e w' ∧ Below w.heap.size w w' := by
  have C1 := hide (of_any cs m hi (w.alloc (.cells cs 34)))
  have BEL := hide (show Below w.heap.size w (w.alloc (.cells cs 34)) from (Below.refl _ w).alloc (Nat.le_refl _) _)
  have HR := hide (heap_alloc_last w (.cells cs 34))
  have hz := hi.size
  have zN := zero_inoZ
  go_enter Tryz.func14, Tryz.ntmps14
  go_wp2_with (refine wpList_load_row rfl 34 _ rfl w.heap.size rfl 34 cs (0, 0) _ (unhide HR) img_under rfl (img_info hz) ?_)
  refine (unhide C1).mono ?_
  rintro e w1 ⟨ho, b1⟩
  have e0 : ∃ gc, e = .returned (.pointer (some ⟨gc, 0, none⟩)) ∧ w.heap.size ≤ gc ∧ w1.heap[gc]? = some (.cells (cs ++ cs) 57) := by
    rcases ho with ⟨_, gc, z1, z2, z3⟩ | ⟨z, _⟩
    · exact ⟨gc, z1, by simp at z2; omega, z3⟩
    · exact absurd hm z
  obtain ⟨gc, rfl, hgc, rgc⟩ := e0
  have B1 := hide ((unhide BEL).trans (b1.mono (by simp)))
  have r1 : w1.heap[w.heap.size]? = some (.cells cs 34) := by rw [b1.block _ (by simp)]; exact unhide HR
  have RG := hide rgc
  clear b1 ho rgc
  have MF := hide (maxFunc_any w.heap.size cs m hi w1 r1)
  go_wp2_with fail
  refine (unhide MF).mono ?_
  rintro e w2 ⟨⟨b, rfl, hmx⟩, b2⟩
  have B2 := hide ((unhide B1).trans (b2.mono (unhide B1).size))
  have RG2 := hide (show w2.heap[gc]? = some (.cells (cs ++ cs) 57) by rw [b2.block _ (Array.getElem?_eq_some_iff.1 (unhide RG)).1]; exact unhide RG)
  have HX := hide hmx
  clear b2 hmx MF RG r1
  have s1 := hide (heap_alloc_last w2 (.cells inoZ 24))
  have B3 := hide (below_setRow ((unhide B2).alloc (unhide B2).size (.cells inoZ 24)) (unhide B2).size (inoC m b))
  have R3 := setRow_heap (w2.alloc (.cells inoZ 24)) w2.heap.size _ (inoC m b) _ _ (heap_alloc_last w2 (.cells inoZ 24))
  have RG3 := hide (show ((w2.alloc (.cells inoZ 24)).setRow w2.heap.size (inoC m b)).heap[gc]? = some (.cells (cs ++ cs) 57) by
    have := (Array.getElem?_eq_some_iff.1 (unhide RG2)).1
    rw [setRow_other _ _ _ _ (by omega), Below.heap_alloc _ _ _ this]; exact unhide RG2)
  have c1 : ((w2.alloc (.cells inoZ 24)).setRow w2.heap.size (inoC m b)).cell? ⟨w2.heap.size, 1, none⟩ = some (.int .i64 (m.stamp b)) := by rw [cell_of_row _ _ _ _ _ _ R3]; rfl
  clear R3
  go_wp2_with (have hx := unhide s1; refine wpList_store_row rfl 24 _ _ rfl w2.heap.size (inoC m b) rfl rfl 24 inoZ hx (inoC_info m b) rfl (inoC_all m b) ?_; clear hx s1; generalize (w2.alloc (.cells inoZ 24)).setRow w2.heap.size (inoC m b) = X3 at B3 RG3 c1 ⊢)
  go_ret
  have lg : gc < X3.heap.size := (Array.getElem?_eq_some_iff.1 (unhide RG3)).1
  refine ⟨⟨_, gc, m.stamp b, rfl, (unhide B3).size, hgc, ⟨heap_alloc_last _ _, ?_, hi, hi, by omega⟩, b, rfl, unhide HX⟩, (unhide B3).alloc (unhide B3).size _⟩
  rw [Below.heap_alloc _ _ _ lg]; exact unhide RG3
end Go.Proofs.YtmlhalhjfcfagabGreat
namespace Go.Proofs.YtmlhalhjfcfagabGreat
open Go.RowKit
open Idl (Stp chk stpA)
namespace Sft
/-- a name that is listed -/
theorem snames_at {m : Img} (hm : m.check = 0) {d : Nat} (hd : d < 3) {nm : ByteArray} (h : nm ∈ Img.snames m (d : Int)) : ∃ s, s < 4 ∧ m.named d s = true ∧ m.name d s = nm := by
  unfold Img.snames at h
  rw [if_pos (by omega), Int.toNat_natCast] at h
  exact Img.rawN_mem.1 ((sortN_mem (Img.rawN_nodup hm hd (Nat.le_refl 4)) nm).1 h)
theorem snames_len (m : Img) (hm : m.check = 0) {d : Nat} (hd : d < 3) : (Img.snames m (d : Int)).length ≤ 4 := by
  unfold Img.snames
  rw [if_pos (by omega), Int.toNat_natCast, sortN_len (Img.rawN_nodup hm hd (Nat.le_refl 4))]
  exact Img.rawN_len m d 4
theorem snames_find {m : Img} (hm : m.check = 0) {d : Nat} (hd : d < 3) {nm : ByteArray} (h : nm ∈ Img.snames m (d : Int)) : (∃ s : Nat, m.findAt (d : Int) nm.toList = (s : Int)) ∧ Img.isNmB nm.toList = true := by
  obtain ⟨s, hs, hn, rfl⟩ := snames_at hm hd h
  have ok := (Img.slot_ok hn).1 ((Img.well_iff.1 hm).slot d s hd hs)
  refine ⟨⟨s, ?_⟩, ok.nm⟩
  exact Img.find_at hm (d := (d : Int)) (by omega) hs (Img.nm_ne ok.nm) (by rw [Int.toNat_natCast])
theorem snames_sure {m : Img} (hm : m.check = 0) {d : Nat} (hd : d < 3) {nm : ByteArray} (h : nm ∈ Img.snames m (d : Int)) : Img.ssure m m (d : Int) nm = true := by
  obtain ⟨⟨s, e⟩, _⟩ := snames_find hm hd h
  unfold Img.ssure
  rw [e]
  simp [Img.sameEnt]
theorem snames_read {m : Img} (hm : m.check = 0) {d : Nat} (hd : d < 3) {nm : ByteArray} (h : nm ∈ Img.snames m (d : Int)) (p : Nat) (hp : p < 2) : Img.sreadC m (d : Int) nm (p : Int) = 0 := by
  obtain ⟨⟨s, e⟩, hnm⟩ := snames_find hm hd h
  have hi : ¬ Img.inoOf m (d : Int) nm < 0 := by rw [Img.inoOf_neg hm, e]; omega
  have hs : Idl.spot (d : Int) nm = 0 := by
    unfold Idl.spot
    rw [show Idl.isD (d : Int) = true by simp [Idl.isD]; omega, hnm]; rfl
  have hk : Idl.chk (Idl.cut (d : Int) nm (p : Int)) = 0 := by
    unfold Idl.chk Idl.cut
    dsimp only
    rw [if_neg (by omega), hs]
    simp
    omega
  unfold Img.sreadC Img.scheck
  rw [hk]
  simp only [Idl.cut]
  simp [hi]
theorem snames_small {m : Img} (hm : m.check = 0) {d : Nat} (hd : d < 3) {nm : ByteArray} (h : nm ∈ Img.snames m (d : Int)) : nm.size ≤ maxLen := by
  obtain ⟨_, hnm⟩ := snames_find hm hd h
  rw [isNmB_eq] at hnm
  simp at hnm
  unfold maxLen
  omega
theorem _root_.Go.Proofs.YtmlhalhjfcfagabGreat.Fo.clean {w W : World} {bf bc : Nat} {m k : Img} {last : Int} (h : Fo w bf bc m k last W) (ha : Img.Agree m k) : Fo w bf bc m m last W := by
  obtain ⟨cs, ds, f⟩ := h.it
  obtain rfl : cs = ds := f.now.agree f.disk ha
  exact ⟨⟨cs, cs, f.root, f.row, f.now, f.now, f.ne⟩, h.bel, h.f0, h.c0⟩
/-- two files beside each other -/
structure Ff (w : World) (bf bc gf gc : Nat) (m : Img) (la lb : Int) (W : World) : Prop where
  a : Fo w bf bc m m la W
  b : Fo w gf gc m m lb W
theorem Ff.call {w W W' : World} {bf bc gf gc : Nat} {m : Img} {la lb : Int} (h : Ff w bf bc gf gc m la lb W) (hb : Below W.heap.size W W') : Ff w bf bc gf gc m la lb W' := ⟨h.a.call hb, h.b.call hb⟩
theorem Op1.nil_no {o : Oper} {ρ : Operand → Value} (x : Operand) (ho : o.op = .binOp .eql 42 x (.const (.pointer none)) 42) {a : Addr} (hx : ρ x = .pointer (some a)) (hy : ρ (.const (.pointer none)) = .pointer none) (w : World) : (execOp ρ o).run Tryz.prog w = .ok (.value (.bool false)) w := by
  unfold execOp
  rw [ho]
  go_simp
set_option maxHeartbeats 8000000 in
set_option maxRecDepth 100000 in
theorem softAgain_any {w : World} {v : Value} {L : List Stp} (hs : Idl.Steps w v L) :
    Calls Tryz.prog 6 #[v] w fun e w' => e = .returned (.bool true) ∧ Below w.heap.size w w' := by
  have z := zero_img.1
  have hbg := begun_any w
  have HG := hide fun W (bW : Below w.heap.size w W) => Idl.greatSteps_any (hs.below bW)
  have HOk := hide hs.ok
  have hgl : Idl.greats L = false → L.length ≤ 200 := fun h => by
    simp only [Idl.greats, Bool.or_eq_false_iff, decide_eq_false_iff_not] at h
    omega
  have HGL := hide hgl
  obtain ⟨a, c, rfl, hst⟩ := Steps.gen hs
  have HST := hide hst
  clear hs hgl hst
  go_enter Tryz.func6, Tryz.ntmps6
  go_wp2_with fail
  refine hbg.mono ?_
  rintro e w1 ⟨rfl, b1⟩
  have B1 := hide b1
  have hg := unhide HG w1 b1
  clear b1 hbg
  cases hgr : Idl.greats L <;> rw [hgr] at hg
  case true =>
    clear hgr
    go_wp2_with fail
    refine hg.mono ?_
    rintro e w2 ⟨rfl, b2⟩
    have B2 := hide ((unhide B1).trans (b2.mono (unhide B1).size))
    clear b2 hg
    go_wp2_with fail
    go_ret
    exact ⟨rfl, unhide B2⟩
  have h200 := unhide HGL hgr
  clear hgr HGL HG
  go_wp2_with fail
  refine hg.mono ?_
  rintro e w2 ⟨rfl, b2⟩
  have B2 := hide ((unhide B1).trans (b2.mono (unhide B1).size))
  clear b2 hg B1
  go_wp2_with fail
  refine (Fo.new w (unhide B2)).mono ?_
  rintro e w3 ⟨bf, bc, rfl, _, _, h3, _⟩
  have H3 := hide h3
  clear h3 B2
  go_wp2_with fail
  go_loopw [4] (fun i wr => ∃ (j : Nat) (m k : Img) (last : Int), j ≤ L.length ∧ i = .int .i64 j ∧ Hid (Fo w bf bc m k last wr) ∧ Hid (Keeps m k last j)) (fun i _ => L.length - (intOf i).toNat)
  case atStart => exact ⟨0, blankI, blankI, 0, Nat.zero_le _, rfl, H3, hide Keeps.start⟩
  case round =>
    clear H3
    obtain ⟨j, m, k, last, hj, rfl, HF, HK⟩ := hrel
    by_cases hlt : j < L.length
    case pos =>
      have hjn : (j : Int) < (L.length : Int) := by omega
      obtain ⟨ga, oa, rfl, hga, hca⟩ := unhide HST j hlt
      have hxo := unhide HOk L[j] (List.getElem_mem hlt)
      generalize L[j] = x at hca hxo
      have HXO := hide hxo.big
      have HCA := hide hca
      have K1 := hide ((unhide HK).any x)
      have F0 := hide ((unhide HF).call ((Below.refl _ wr).drew))
      have S0 := unhide HCA _ (unhide F0).bel
      clear hca hxo HST HOk hga
      go_wp2_with fail
      refine wp_region_held_drew (S := fun W => ∀ q u, (stpA x)[q]? = some u → W.cell? ⟨ga, oa + j * 7 + q, none⟩ = some u) (by kernel_rfl) (S0) (fun hS => ?_)
      refine wpAnyH_take (i := 0) (oi := { dst := some 27, op := Op.move (Operand.tmp 3), type := 42, pos := "law05.go:207", after := #[], guard := none }) (v := .pointer (some ⟨bf, 0, none⟩)) rfl (by kernel_rfl) (by kernel_rfl) (by kernel_rfl) (fun _ _ _ h => h) (Or.inl ⟨by kernel_rfl, fun W h => (by first | kernel_rfl | go_simp)⟩) hS ?_
      try simp only [Act.put, List.setIfInBounds_toArray, List.set_cons_zero, List.set_cons_succ]
      refine wpAnyH_take (i := 2) (oi := { dst := some 29, op := Op.move (Operand.tmp 0), type := 35, pos := "law05.go:207", after := #[], guard := none }) (v := .slice (some ⟨ga, oa, none⟩) L.length c) rfl (by kernel_rfl) (by kernel_rfl) (by kernel_rfl) (fun _ _ _ h => h) (Or.inl ⟨by kernel_rfl, fun W h => (by first | kernel_rfl | go_simp)⟩) hS ?_
      try simp only [Act.put, List.setIfInBounds_toArray, List.set_cons_zero, List.set_cons_succ]
      refine wpAnyH_take (i := 3) (oi := { dst := some 30, op := Op.move (Operand.tmp 4), type := 3, pos := "law05.go:207", after := #[], guard := none }) (v := .int .i64 (j : Nat)) rfl (by kernel_rfl) (by kernel_rfl) (by kernel_rfl) (fun _ _ _ h => h) (Or.inl ⟨by kernel_rfl, fun W h => (by first | kernel_rfl | go_simp)⟩) hS ?_
      try simp only [Act.put, List.setIfInBounds_toArray, List.set_cons_zero, List.set_cons_succ]
      refine wpAnyH_take (i := 4) (oi := { dst := some 31, op := Op.indexAddr 35 (Operand.tmp 29) (Operand.tmp 30), type := 0, pos := "law05.go:207", after := #[{ on := 2, ground := Ground.data }, { on := 3, ground := Ground.data }], guard := none }) (v := .pointer (some ⟨ga, oa + j * 7, none⟩)) rfl (by kernel_rfl) (by kernel_rfl) (by kernel_rfl) (fun _ _ _ h => h) (Or.inl ⟨by kernel_rfl, fun W h => Op1.ix_step (c := c) (.tmp 29) (.tmp 30) (by kernel_rfl) (by kernel_rfl) (by kernel_rfl) hlt W⟩) hS ?_
      try simp only [Act.put, List.setIfInBounds_toArray, List.set_cons_zero, List.set_cons_succ]
      refine wpAnyH_take (i := 5) (oi := { dst := some 32, op := Op.load 37 (Operand.tmp 31), type := 37, pos := "law05.go:207", after := #[{ on := 4, ground := Ground.data }], guard := none }) (v := .agg (stpA x)) rfl (by kernel_rfl) (by kernel_rfl) (by kernel_rfl) (fun _ _ _ h => h) (Or.inl ⟨by kernel_rfl, fun W h => Op1.ld_step (.tmp 31) (by kernel_rfl) (by kernel_rfl) x W h⟩) hS ?_
      try simp only [Act.put, List.setIfInBounds_toArray, List.set_cons_zero, List.set_cons_succ]
      refine wpAnyH_ready (rs := [1]) (by kernel_rfl) (by simp) ?_
      refine AllReadyH.cons (o := { dst := some 28, op := Op.call { callee := Callee.value (Operand.func 13), args := #[], argTypes := #[] }, type := 44, pos := "law05.go:207", after := #[], guard := none }) rfl (fun K hK => ?_) AllReadyH.nil
      rw [if_pos (by kernel_rfl)]
      go_simp
      refine (newBed_row _).mono ?_
      rintro e W5 ⟨gb, rfl, hgb, rgb, b5⟩
      have F5 := hide ((unhide F0).call b5)
      have NB := hide (show w.heap.size ≤ gb ∧ gb ≠ bf ∧ gb ≠ bc from ⟨by have := (unhide F0).bel.size; omega, by have := (unhide F0).cells.2.1; omega, by have := (unhide F0).cells.2.2.1; omega⟩)
      have S5 := unhide HCA _ (unhide F5).bel
      clear b5 hgb F0
      go_wp2_with fail
      refine hK.out _ _ (S5) (fun hS5 => ?_)
      clear hK K
      try simp only [Act.put, List.setIfInBounds_toArray, List.set_cons_zero, List.set_cons_succ]
      refine wpAnyH_ready (rs := [6]) (by kernel_rfl) (by simp) ?_
      refine AllReadyH.cons (o := { dst := some 33, op := Op.call { callee := Callee.value (Operand.func 17), args := #[Operand.tmp 27, Operand.tmp 28, Operand.tmp 32], argTypes := #[42, 44, 37] }, type := 4, pos := "law05.go:207", after := #[{ on := 0, ground := Ground.data }, { on := 1, ground := Ground.data }, { on := 5, ground := Ground.data }, { on := 1, ground := Ground.chain }], guard := none }) rfl (fun K hK => ?_) AllReadyH.nil
      rw [if_pos (by kernel_rfl)]
      go_simp
      refine (softStep_any (unhide F5) rgb (unhide NB).1 (unhide NB).2.1 (unhide NB).2.2 (unhide HK).good (by have := (unhide HK).few; omega) x (unhide HXO).1 (unhide HXO).2.1 (unhide HXO).2.2).mono ?_
      rintro e W6 ⟨⟨vb, rfl⟩, h6⟩
      have F6 := hide h6
      have S6 := unhide HCA _ h6.bel
      clear h6 F5 NB rgb
      go_wp2_with fail
      refine hK.out _ _ (S6) (fun hS6 => ?_)
      clear hK K
      try simp only [Act.put, List.setIfInBounds_toArray, List.set_cons_zero, List.set_cons_succ]
      refine wpAnyH_done (by kernel_rfl) ?_ _
      clear hS hS5 hS6 S0 S5 S6
      go_wp2_with fail
      go_roundw
      case rel => exact ⟨j + 1, _, _, _, by omega, by go_num, F6, K1⟩
      case measure => simp [intOf]; omega
    case neg =>
      clear HST HOk
      obtain ⟨p0, l0, l1, _, _⟩ := (unhide HF).cells
      go_wp2_with fail
      refine ((unhide HF).sync).mono ?_
      rintro e W1 ⟨rfl, f1, _⟩
      have F1 := hide (f1.clean ((unhide HK).lies.clean (unhide HK).good.ex))
      have HM := hide (unhide HK).good.ex.ok
      clear f1 HF HK p0 l0 l1 hlt hj
      obtain ⟨p0, l0, l1, _, _⟩ := (unhide F1).cells
      obtain ⟨cs, ds, f⟩ := (unhide F1).it
      have DK := hide (disk_any bc cs ds m m f.now f.disk W1 f.row)
      have HI := hide f.disk
      have OF := hide fun W => sOf_any ds m (unhide HI) (unhide HM) W
      clear f
      go_wp2_with fail
      refine (unhide DK).mono ?_
      rintro e W2 ⟨rfl, b2⟩
      have F2 := hide ((unhide F1).call b2)
      clear b2 F1 DK p0 l0 l1
      go_wp2_with fail
      refine (unhide OF W2).mono ?_
      rintro e W3 ⟨⟨gf, gc, lb, rfl, h1, h2, fl, _⟩, b3⟩
      have FF := hide (show Ff w bf bc gf gc m last lb W3 from ⟨(unhide F2).call b3, ⟨⟨ds, ds, fl⟩, (unhide F2).bel.trans (b3.mono (unhide F2).bel.size), Nat.le_trans (unhide F2).bel.size h1, Nat.le_trans (unhide F2).bel.size h2⟩⟩)
      clear h1 h2 fl b3 F2 OF cs HI
      obtain ⟨al, bl, fa⟩ := (unhide FF).a.it
      obtain ⟨es, fs, fb⟩ := (unhide FF).b.it
      have ze := fb.now.size
      have za := fa.now.size
      have ha := fa.now
      have he := fb.now
      have hle : 0 + 94 ≤ (es ++ fs).size := by simp [ze]
      have hla : 0 + 94 ≤ (al ++ bl).size := by simp [za]
      have QN := hide (show ∀ w, (binOp .neq 34 (.agg es) (.agg al)).run Tryz.prog w = .ok (.bool false) w from fun w => by have := neqlImg he ha w; rwa [same_self] at this)
      have S0 : (fun W : World => (W.cell? ⟨bf, 0, none⟩ = some (.pointer (some ⟨bc, 0, none⟩)) ∧ W.heap[bc]? = some (.cells (al ++ bl) 57)) ∧ W.cell? ⟨gf, 0, none⟩ = some (.pointer (some ⟨gc, 0, none⟩)) ∧ W.heap[gc]? = some (.cells (es ++ fs) 57)) W3.drew := ⟨⟨fa.ptr, fa.row⟩, fb.ptr, fb.row⟩
      clear fa fb
      go_wp2_with fail
      refine wp_region_held_drew (S := fun W : World => (W.cell? ⟨bf, 0, none⟩ = some (.pointer (some ⟨bc, 0, none⟩)) ∧ W.heap[bc]? = some (.cells (al ++ bl) 57)) ∧ W.cell? ⟨gf, 0, none⟩ = some (.pointer (some ⟨gc, 0, none⟩)) ∧ W.heap[gc]? = some (.cells (es ++ fs) 57)) (by kernel_rfl) (S0) (fun hS => ?_)
      refine wpAnyH_take (i := 0) (oi := { dst := some 45, op := Op.move (Operand.tmp 5), type := 42, pos := "law05.go:211", after := #[], guard := none }) (v := .pointer (some ⟨gf, 0, none⟩)) rfl (by kernel_rfl) (by kernel_rfl) (by kernel_rfl) (fun _ _ _ h => h) (Or.inl ⟨by kernel_rfl, fun W h => (by first | kernel_rfl | go_simp)⟩) hS ?_
      try simp only [Act.put, List.setIfInBounds_toArray, List.set_cons_zero, List.set_cons_succ]
      refine wpAnyH_take (i := 1) (oi := { dst := some 46, op := Op.binOp BinOp.eql 42 (Operand.tmp 45) (Operand.const (Value.pointer none)) 42, type := 4, pos := "law05.go:211", after := #[{ on := 0, ground := Ground.data }], guard := none }) (v := .bool false) rfl (by kernel_rfl) (by kernel_rfl) (by kernel_rfl) (fun _ _ _ h => h) (Or.inl ⟨by kernel_rfl, fun W h => Op1.nil_no (a := ⟨gf, 0, none⟩) (.tmp 45) (by kernel_rfl) (by kernel_rfl) (by kernel_rfl) W⟩) hS ?_
      try simp only [Act.put, List.setIfInBounds_toArray, List.set_cons_zero, List.set_cons_succ]
      refine wpAnyH_take (i := 2) (oi := { dst := some 47, op := Op.move (Operand.tmp 46), type := 4, pos := "law05.go:211", after := #[{ on := 1, ground := Ground.data }], guard := none }) (v := .bool false) rfl (by kernel_rfl) (by kernel_rfl) (by kernel_rfl) (fun _ _ _ h => h) (Or.inl ⟨by kernel_rfl, fun W h => (by first | kernel_rfl | go_simp)⟩) hS ?_
      try simp only [Act.put, List.setIfInBounds_toArray, List.set_cons_zero, List.set_cons_succ]
      refine wpAnyH_take (i := 3) (oi := { dst := some 48, op := Op.move (Operand.tmp 5), type := 42, pos := "law05.go:211", after := #[{ on := 2, ground := Ground.guard }], guard := some (2, false) }) (v := .pointer (some ⟨gf, 0, none⟩)) rfl (by kernel_rfl) (by kernel_rfl) (by kernel_rfl) (fun _ _ _ h => h) (Or.inl ⟨by kernel_rfl, fun W h => (by first | kernel_rfl | go_simp)⟩) hS ?_
      try simp only [Act.put, List.setIfInBounds_toArray, List.set_cons_zero, List.set_cons_succ]
      refine wpAnyH_take (i := 4) (oi := { dst := some 49, op := Op.nilCheck (Operand.tmp 48), type := 0, pos := "law05.go:211", after := #[{ on := 3, ground := Ground.data }, { on := 2, ground := Ground.guard }], guard := some (2, false) }) (v := .pointer (some ⟨gf, 0, none⟩)) rfl (by kernel_rfl) (by kernel_rfl) (by kernel_rfl) (fun _ _ _ h => h) (Or.inl ⟨by kernel_rfl, fun W h => (by first | kernel_rfl | go_simp)⟩) hS ?_
      try simp only [Act.put, List.setIfInBounds_toArray, List.set_cons_zero, List.set_cons_succ]
      refine wpAnyH_take (i := 5) (oi := { dst := some 50, op := Op.fieldAddr 55 (Operand.tmp 49) 0, type := 0, pos := "law05.go:211", after := #[{ on := 4, ground := Ground.data }, { on := 2, ground := Ground.guard }], guard := some (2, false) }) (v := .pointer (some ⟨gf, 0, none⟩)) rfl (by kernel_rfl) (by kernel_rfl) (by kernel_rfl) (fun _ _ _ h => h) (Or.inl ⟨by kernel_rfl, fun W h => (by first | kernel_rfl | go_simp)⟩) hS ?_
      try simp only [Act.put, List.setIfInBounds_toArray, List.set_cons_zero, List.set_cons_succ]
      refine wpAnyH_take (i := 6) (oi := { dst := some 51, op := Op.load 53 (Operand.tmp 50), type := 53, pos := "law05.go:211", after := #[{ on := 5, ground := Ground.data }, { on := 2, ground := Ground.guard }], guard := some (2, false) }) (v := .pointer (some ⟨gc, 0, none⟩)) rfl (by kernel_rfl) (by kernel_rfl) (by kernel_rfl) (fun _ _ _ h => h) (Or.inl ⟨by kernel_rfl, fun W h => Op1.ld_ptr (.tmp 50) (by kernel_rfl) (by kernel_rfl) W (h.2.1)⟩) hS ?_
      try simp only [Act.put, List.setIfInBounds_toArray, List.set_cons_zero, List.set_cons_succ]
      refine wpAnyH_take (i := 7) (oi := { dst := some 52, op := Op.nilCheck (Operand.tmp 51), type := 0, pos := "law05.go:211", after := #[{ on := 6, ground := Ground.data }, { on := 2, ground := Ground.guard }], guard := some (2, false) }) (v := .pointer (some ⟨gc, 0, none⟩)) rfl (by kernel_rfl) (by kernel_rfl) (by kernel_rfl) (fun _ _ _ h => h) (Or.inl ⟨by kernel_rfl, fun W h => (by first | kernel_rfl | go_simp)⟩) hS ?_
      try simp only [Act.put, List.setIfInBounds_toArray, List.set_cons_zero, List.set_cons_succ]
      refine wpAnyH_take (i := 8) (oi := { dst := some 53, op := Op.fieldAddr 57 (Operand.tmp 52) 0, type := 0, pos := "law05.go:211", after := #[{ on := 7, ground := Ground.data }, { on := 2, ground := Ground.guard }], guard := some (2, false) }) (v := .pointer (some ⟨gc, 0, none⟩)) rfl (by kernel_rfl) (by kernel_rfl) (by kernel_rfl) (fun _ _ _ h => h) (Or.inl ⟨by kernel_rfl, fun W h => (by first | kernel_rfl | go_simp)⟩) hS ?_
      try simp only [Act.put, List.setIfInBounds_toArray, List.set_cons_zero, List.set_cons_succ]
      refine wpAnyH_take (i := 9) (oi := { dst := some 54, op := Op.load 34 (Operand.tmp 53), type := 34, pos := "law05.go:211", after := #[{ on := 8, ground := Ground.data }, { on := 2, ground := Ground.guard }], guard := some (2, false) }) (v := .agg es) rfl (by kernel_rfl) (by kernel_rfl) (by kernel_rfl) (fun _ _ _ h => h) (Or.inl ⟨by kernel_rfl, fun W h => run_exec_load_part 34 (.tmp 53) (by kernel_rfl) gc 0 94 (by kernel_rfl) W 57 (es ++ fs) es _ (h.2.2) img_under rfl zero_img.2 (hle) (app_fst ze)⟩) hS ?_
      try simp only [Act.put, List.setIfInBounds_toArray, List.set_cons_zero, List.set_cons_succ]
      refine wpAnyH_take (i := 10) (oi := { dst := some 55, op := Op.move (Operand.tmp 3), type := 42, pos := "law05.go:211", after := #[{ on := 2, ground := Ground.guard }], guard := some (2, false) }) (v := .pointer (some ⟨bf, 0, none⟩)) rfl (by kernel_rfl) (by kernel_rfl) (by kernel_rfl) (fun _ _ _ h => h) (Or.inl ⟨by kernel_rfl, fun W h => (by first | kernel_rfl | go_simp)⟩) hS ?_
      try simp only [Act.put, List.setIfInBounds_toArray, List.set_cons_zero, List.set_cons_succ]
      refine wpAnyH_take (i := 11) (oi := { dst := some 56, op := Op.nilCheck (Operand.tmp 55), type := 0, pos := "law05.go:211", after := #[{ on := 10, ground := Ground.data }, { on := 2, ground := Ground.guard }], guard := some (2, false) }) (v := .pointer (some ⟨bf, 0, none⟩)) rfl (by kernel_rfl) (by kernel_rfl) (by kernel_rfl) (fun _ _ _ h => h) (Or.inl ⟨by kernel_rfl, fun W h => (by first | kernel_rfl | go_simp)⟩) hS ?_
      try simp only [Act.put, List.setIfInBounds_toArray, List.set_cons_zero, List.set_cons_succ]
      refine wpAnyH_take (i := 12) (oi := { dst := some 57, op := Op.fieldAddr 55 (Operand.tmp 56) 0, type := 0, pos := "law05.go:211", after := #[{ on := 11, ground := Ground.data }, { on := 2, ground := Ground.guard }], guard := some (2, false) }) (v := .pointer (some ⟨bf, 0, none⟩)) rfl (by kernel_rfl) (by kernel_rfl) (by kernel_rfl) (fun _ _ _ h => h) (Or.inl ⟨by kernel_rfl, fun W h => (by first | kernel_rfl | go_simp)⟩) hS ?_
      try simp only [Act.put, List.setIfInBounds_toArray, List.set_cons_zero, List.set_cons_succ]
      refine wpAnyH_take (i := 13) (oi := { dst := some 58, op := Op.load 53 (Operand.tmp 57), type := 53, pos := "law05.go:211", after := #[{ on := 12, ground := Ground.data }, { on := 2, ground := Ground.guard }], guard := some (2, false) }) (v := .pointer (some ⟨bc, 0, none⟩)) rfl (by kernel_rfl) (by kernel_rfl) (by kernel_rfl) (fun _ _ _ h => h) (Or.inl ⟨by kernel_rfl, fun W h => Op1.ld_ptr (.tmp 57) (by kernel_rfl) (by kernel_rfl) W (h.1.1)⟩) hS ?_
      try simp only [Act.put, List.setIfInBounds_toArray, List.set_cons_zero, List.set_cons_succ]
      refine wpAnyH_take (i := 14) (oi := { dst := some 59, op := Op.nilCheck (Operand.tmp 58), type := 0, pos := "law05.go:211", after := #[{ on := 13, ground := Ground.data }, { on := 2, ground := Ground.guard }], guard := some (2, false) }) (v := .pointer (some ⟨bc, 0, none⟩)) rfl (by kernel_rfl) (by kernel_rfl) (by kernel_rfl) (fun _ _ _ h => h) (Or.inl ⟨by kernel_rfl, fun W h => (by first | kernel_rfl | go_simp)⟩) hS ?_
      try simp only [Act.put, List.setIfInBounds_toArray, List.set_cons_zero, List.set_cons_succ]
      refine wpAnyH_take (i := 15) (oi := { dst := some 60, op := Op.fieldAddr 57 (Operand.tmp 59) 0, type := 0, pos := "law05.go:211", after := #[{ on := 14, ground := Ground.data }, { on := 2, ground := Ground.guard }], guard := some (2, false) }) (v := .pointer (some ⟨bc, 0, none⟩)) rfl (by kernel_rfl) (by kernel_rfl) (by kernel_rfl) (fun _ _ _ h => h) (Or.inl ⟨by kernel_rfl, fun W h => (by first | kernel_rfl | go_simp)⟩) hS ?_
      try simp only [Act.put, List.setIfInBounds_toArray, List.set_cons_zero, List.set_cons_succ]
      refine wpAnyH_take (i := 16) (oi := { dst := some 61, op := Op.load 34 (Operand.tmp 60), type := 34, pos := "law05.go:211", after := #[{ on := 15, ground := Ground.data }, { on := 2, ground := Ground.guard }], guard := some (2, false) }) (v := .agg al) rfl (by kernel_rfl) (by kernel_rfl) (by kernel_rfl) (fun _ _ _ h => h) (Or.inl ⟨by kernel_rfl, fun W h => run_exec_load_part 34 (.tmp 60) (by kernel_rfl) bc 0 94 (by kernel_rfl) W 57 (al ++ bl) al _ (h.1.2) img_under rfl zero_img.2 (hla) (app_fst za)⟩) hS ?_
      try simp only [Act.put, List.setIfInBounds_toArray, List.set_cons_zero, List.set_cons_succ]
      refine wpAnyH_take (i := 17) (oi := { dst := some 62, op := Op.binOp BinOp.neq 34 (Operand.tmp 54) (Operand.tmp 61) 34, type := 4, pos := "law05.go:211", after := #[{ on := 9, ground := Ground.data }, { on := 16, ground := Ground.data }, { on := 2, ground := Ground.guard }], guard := some (2, false) }) (v := .bool false) rfl (by kernel_rfl) (by kernel_rfl) (by kernel_rfl) (fun _ _ _ h => h) (Or.inl ⟨by kernel_rfl, fun W h => run_exec_neql 34 34 (.tmp 54) (.tmp 61) (by kernel_rfl) es al (by kernel_rfl) (by kernel_rfl) _ Tryz.eqGuardType34 (unhide QN) W⟩) hS ?_
      try simp only [Act.put, List.setIfInBounds_toArray, List.set_cons_zero, List.set_cons_succ]
      refine wpAnyH_take (i := 18) (oi := { dst := some 63, op := Op.pick (Operand.tmp 47) (Operand.const (Value.bool true)) (Operand.tmp 62), type := 4, pos := "law05.go:211", after := #[{ on := 2, ground := Ground.data }, { on := 17, ground := Ground.data }], guard := none }) (v := .bool false) rfl (by kernel_rfl) (by kernel_rfl) (by kernel_rfl) (fun _ _ _ h => h) (Or.inl ⟨by kernel_rfl, fun W h => (by first | kernel_rfl | go_simp)⟩) hS ?_
      try simp only [Act.put, List.setIfInBounds_toArray, List.set_cons_zero, List.set_cons_succ]
      refine wpAnyH_done (by kernel_rfl) ?_ _
      have FG := hide ((unhide FF).call ((Below.refl _ W3).drew))
      generalize W3.drew = W4 at FG ⊢
      clear FF hS S0 QN ze za ha he hle hla
      go_wp2_with fail
      go_loopw [6] (fun i wr => ∃ d : Nat, d ≤ 3 ∧ i = .int .i64 d ∧ Hid (Ff w bf bc gf gc m last lb wr)) (fun i _ => 3 - (intOf i).toNat)
      case atStart => exact ⟨0, by omega, rfl, FG⟩
      case round =>
        clear FG
        obtain ⟨d, hd3, rfl, FD⟩ := hrel
        by_cases hd : d < 3
        case neg =>
          go_wp2_with fail
          go_ret
          exact ⟨rfl, (unhide FD).a.bel⟩
        have t3 : decide ((d : Int) < 3) = true := by simp; omega
        have SZ := hide (fun nm h => snames_small (nm := nm) (unhide HM) hd h)
        have SU := hide (fun nm h => snames_sure (nm := nm) (unhide HM) hd h)
        have SR := hide (fun nm h => snames_read (nm := nm) (unhide HM) hd h)
        have LN := hide (snames_len m (unhide HM) hd)
        go_wp2_with fail
        refine ((unhide FD).a.list (unhide HM) (d : Int)).mono ?_
        rintro e W5 ⟨v1, rfl, ho1, _, b5⟩
        have F5 := hide ((unhide FD).call b5)
        have HO1 := hide ho1
        clear b5 ho1 FD
        go_wp2_with fail
        refine ((unhide F5).b.list (unhide HM) (d : Int)).mono ?_
        rintro e W6 ⟨v2, rfl, ho2, _, b6⟩
        have F6 := hide ((unhide F5).call b6)
        have HO6 := hide (Idl.ownsRow_of_block (unhide HO1) (fun q hq => b6.block q ((unhide HO1).lt q hq).2))
        have ST := hide (SameTexts_any (unhide HO6) ho2 (by have := unhide LN; omega))
        clear b6 HO1 ho2 F5
        go_wp2_with fail
        refine (unhide ST).mono ?_
        rintro e W7 ⟨rfl, b7⟩
        have F7 := hide ((unhide F6).call b7)
        have HO7 := hide (Idl.ownsRow_of_block (unhide HO6) (fun q hq => b7.block q ((unhide HO6).lt q hq).2))
        clear b7 HO6 ST F6
        have NC : ∃ a c, v1 = .slice a (Img.snames m (d : Int)).length c ∧ ∀ i (hi : i < (Img.snames m (d : Int)).length), ∃ g, a = some ⟨g, 0, none⟩ ∧ g < W7.heap.size ∧ ∀ W, Below W7.heap.size W7 W → W.cell? ⟨g, i, none⟩ = some (.string (Img.snames m (d : Int))[i]) := by
          rcases names_cell (unhide HO7) with ⟨e1, e2⟩ | ⟨g, c, e1, gl, hc⟩
          · exact ⟨none, 0, by rw [e1, e2]; rfl, fun i hi => by rw [e2] at hi; cases hi⟩
          · exact ⟨_, c, e1, fun i hi => ⟨g, rfl, gl, fun W hb => by rw [hb.cell (p := ⟨g, i, none⟩) gl]; exact hc i hi⟩⟩
        obtain ⟨a1, c1, rfl, hnc⟩ := NC
        have HN := hide hnc
        clear hnc HO7
        generalize Img.snames m (d : Int) = NL at HN SZ SU SR LN ⊢
        have W7B := hide (Below.refl W7.heap.size W7)
        have lz : (NL.length : Int) ≤ 4 := by have := unhide LN; omega
        go_wp2_with fail
        go_loopw [8] (fun i wr => ∃ k : Nat, k ≤ NL.length ∧ i = .int .i64 k ∧ Hid (Ff w bf bc gf gc m last lb wr) ∧ Hid (Below W7.heap.size W7 wr)) (fun i _ => NL.length - (intOf i).toNat)
        case atStart => exact ⟨0, Nat.zero_le _, rfl, F7, W7B⟩
        case round =>
          clear F7 W7B
          obtain ⟨k, hk, rfl, FK, BK⟩ := hrel
          by_cases hlt : k < NL.length
          case neg =>
            go_wp2_with fail
            go_roundw
            case rel => exact ⟨d + 1, by omega, by go_num, FK⟩
            case measure => simp [intOf]; omega
          have hkn : (k : Int) < (NL.length : Int) := by omega
          obtain ⟨g, rfl, gl, hc⟩ := unhide HN k hlt
          have HC := hide hc
          have hmem : NL[k] ∈ NL := List.getElem_mem hlt
          have sz := hide (unhide SZ _ hmem)
          have su := unhide SU _ hmem
          have sr := hide (unhide SR _ hmem)
          clear hc hmem HN
          generalize NL[k] = nm at HC sz su sr
          have c1 := unhide HC _ (unhide BK)
          have U1 := hide ((unhide FK).a.sure (d : Int) nm)
          rw [su] at U1
          go_wp2_with fail
          refine (unhide U1).mono ?_
          rintro e W8 ⟨rfl, _, b8⟩
          have F8 := hide ((unhide FK).call b8)
          have B8 := hide ((unhide BK).trans (b8.mono (unhide BK).size))
          clear b8 U1 FK BK c1
          have c1 := unhide HC _ (unhide B8)
          have U2 := hide ((unhide F8).b.sure (d : Int) nm)
          rw [su] at U2
          go_wp2_with fail
          refine (unhide U2).mono ?_
          rintro e W9 ⟨rfl, _, b9⟩
          have F9 := hide ((unhide F8).call b9)
          have B9 := hide ((unhide B8).trans (b9.mono (unhide B8).size))
          clear b9 U2 F8 B8 c1 su
          go_wp2_with fail
          go_loopw [9] (fun i wr => ∃ p : Nat, p ≤ 2 ∧ i = .int .i64 p ∧ Hid (Ff w bf bc gf gc m last lb wr) ∧ Hid (Below W7.heap.size W7 wr)) (fun i _ => 2 - (intOf i).toNat)
          case atStart => exact ⟨0, by omega, rfl, F9, B9⟩
          case round =>
            clear F9 B9
            obtain ⟨p, hp2, rfl, FP, BP⟩ := hrel
            by_cases hp : p < 2
            case neg =>
              go_wp2_with fail
              go_roundw
              case rel => exact ⟨k + 1, by omega, by go_num, FP, BP⟩
              case measure => simp [intOf]; omega
            have t2 : decide ((p : Int) < 2) = true := by simp; omega
            have c1 := unhide HC _ (unhide BP)
            have U1 := hide ((unhide FP).a.read (unhide HM) (d : Int) nm (unhide sz) (p : Int))
            rw [unhide sr p hp] at U1
            go_wp2_with fail
            refine (unhide U1).mono ?_
            rintro e W8 ⟨rfl, _, b8⟩
            have F8 := hide ((unhide FP).call b8)
            have B8 := hide ((unhide BP).trans (b8.mono (unhide BP).size))
            clear b8 U1 FP BP c1
            have c1 := unhide HC _ (unhide B8)
            have U2 := hide ((unhide F8).b.read (unhide HM) (d : Int) nm (unhide sz) (p : Int))
            rw [unhide sr p hp] at U2
            generalize Img.sreadT m (d : Int) nm (p : Int) = tx at U2 ⊢
            generalize Img.sreadB m (d : Int) nm (p : Int) = bx at U2 ⊢
            have q1 : (tx.toList != tx.toList) = false := by simp
            have q2 : (bx != bx) = false := by simp
            go_wp2_with fail
            refine (unhide U2).mono ?_
            rintro e W9 ⟨rfl, _, b9⟩
            have F9 := hide ((unhide F8).call b9)
            have B9 := hide ((unhide B8).trans (b9.mono (unhide B8).size))
            clear b9 U2 F8 B8 c1
            go_wp2_with fail
            go_roundw
            case rel => exact ⟨p + 1, by omega, by go_num, F9, B9⟩
            case measure => simp [intOf]; omega
end Sft
end Go.Proofs.YtmlhalhjfcfagabGreat
namespace Go.Proofs.YtmlhalhjfcfagabGreat
open Go.ChangeShapes Go.WideShapes Go.ChangeAt Go.RowKit
open Idl (open_steps Steps)
namespace Sft
set_option maxRecDepth 100000 in
theorem softAgain_lifted (os : Os) (started : os.Started) (H : Type) (enc : TypeId × Value → H) :
    ReturnsInHanded {} Tryz.checked os 6 .any (Rows.softAgainSpec.pre6 enc Tryz.prog Tryz.f6 Rows.softAgainRow.domain false) (Rows.softAgainSpec.post enc Tryz.prog Tryz.f6 false true false false) := by
  refine returnsInHanded_of_change_sized (C := Tryz.checked) Idl.TryI.own started (by kernel_rfl) Tryz.func6
    (ChangeSpec.witness6 (enc := enc) (C := Tryz.checked) false ⟨#[], #[.slice none 0 0], []⟩ 8 (by kernel_rfl) (by kernel_rfl) (by kernel_rfl) (by kernel_rfl)) ?_
  intro W base args ds gs before hval0 hW _ hsz0 _
  have hsz : (DataW.weightsEach Tryz.prog (Tryz.f6.params.toList ++ Rows.softAgainSpec.plain.varTypes Tryz.prog) (ds ++ gs)).all (· ≤ reachBytes) = true := hsz0
  clear hsz0
  have hval : ∀ (j : Nat) t v, Tryz.f6.params[j]? = some t → args[j]? = some v → Value.okWide Tryz.prog W .any base t v := hval0
  have hW' := hW
  obtain ⟨p, q, hA0, hV, rfl, _, _⟩ := hW
  have hA : DataW.TrodAll enc Tryz.prog W 0 (fun _ => true) true Tryz.f6.params.toList args.toList ds p := hA0
  rw [Tryz.params6] at hA hval hsz
  obtain ⟨v0, d0, rfl, rfl, h0⟩ := trodAll_one hA
  obtain ⟨rfl, rfl⟩ := trodVars_none hV
  obtain ⟨a0, len, cap, rfl⟩ := okWide_slice Tryz.underlying35 (hval 0 35 v0 rfl rfl)
  have lt0 : ∀ y ∈ p, y.block < W.heap.size := by obtain ⟨n, hn⟩ := h0; exact DataW.trod_lt n _ _ _ hn
  clear hA0 hval0
  have w0 : ∀ n ∈ d0.weights Tryz.prog 35, n ≤ reachBytes := fun n hn => by
    simpa using List.all_eq_true.1 hsz _ (DataW.weights_mem_each (j := 0) (t := 35) (d := d0) rfl rfl n hn)
  obtain ⟨L, hL⟩ := open_steps h0 w0
  refine (softAgain_any hL).mono fun e W' ⟨he, bel⟩ => ?_
  subst he
  exact ⟨_, rfl, _, _, _, [], _, [], hW', trodAll_mk1 (shut_bool Tryz.underlying4 _), (trodAll_cons_mk (Below.trod Idl.TryI.laidOut (by kernel_rfl) (of_decide_eq_true (by kernel_rfl)) h0 bel lt0) trodAll_mk0), rfl, bel.frame _, fun h => by cases h⟩
end Sft
theorem softAgain_holds : Rows.SoftAgainSaid :=
  OpenClaim.holds_of_wide 6 Tryz.f6 rfl rfl rfl rfl rfl rfl rfl ⟨rfl, rfl, rfl, rfl, rfl⟩ rfl rfl rfl rfl rfl (by kernel_rfl) Tryz.func6 (by kernel_rfl)
    (of_decide_eq_true (by kernel_rfl)) (by unfold Func.isWrapper; first | (rw [if_pos (by decide +kernel)]; kernel_rfl) | (rw [if_neg (by decide +kernel)]; exact ⟨rfl, rfl⟩))
    (fun os started H enc _ => Sft.softAgain_lifted os started H enc)
#print axioms softAgain_holds
end Go.Proofs.YtmlhalhjfcfagabGreat
