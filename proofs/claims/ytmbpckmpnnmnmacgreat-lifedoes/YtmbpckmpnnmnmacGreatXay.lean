/-
  The walks of cmp.Compare, slices.MaxFunc and soft.Of at an image that may be mended.
-/
import Derived.Test.YtmbpckmpnnmnmacGreatZz
import Derived.Test.YtmbpckmpnnmnmacGreatXax
import Derived.Test.YtmbpckmpnnmnmacGreatXac
namespace Go.Proofs.YtmbpckmpnnmnmacGreat
open Go.RowKit
open Idl (Stp chk stpA)
def cmpI (x y : Int) : Int := if x < y then -1 else if y < x then 1 else 0
theorem isNaN_any (x : Int) (w : World) : Calls Tryz.prog 127 #[.int .i64 x] w fun e w' => e = .returned (.bool false) ∧ w' = w := by
  have h : (x != x) = false := by simp
  go_enter Tryz.func127, Tryz.ntmps127
  go_wp2
  go_ret
  exact ⟨rfl, rfl⟩
theorem compare_any (x y : Int) (w : World) : Calls Tryz.prog 96 #[.int .i64 x, .int .i64 y] w fun e w' => e = .returned (.int .i64 (cmpI x y)) ∧ w' = w := by
  unfold cmpI
  by_cases h1 : x < y
  · rw [if_pos h1]
    have t1 : decide (x < y) = true := by simpa using h1
    go_enter Tryz.func96, Tryz.ntmps96
    go_wp2_with (go_at_call 127; refine (isNaN_any _ _).mono ?_; rintro e w' ⟨rfl, rfl⟩)
    go_ret
    exact ⟨rfl, rfl⟩
  · rw [if_neg h1]
    have t1 : decide (x < y) = false := by simpa using h1
    by_cases h2 : y < x
    · rw [if_pos h2]
      have t2 : decide (y < x) = true := by simpa using h2
      go_enter Tryz.func96, Tryz.ntmps96
      go_wp2_with (go_at_call 127; refine (isNaN_any _ _).mono ?_; rintro e w' ⟨rfl, rfl⟩)
      go_ret
      exact ⟨rfl, rfl⟩
    · rw [if_neg h2]
      have t2 : decide (y < x) = false := by simpa using h2
      go_enter Tryz.func96, Tryz.ntmps96
      go_wp2_with (go_at_call 127; refine (isNaN_any _ _).mono ?_; rintro e w' ⟨rfl, rfl⟩)
      go_ret
      exact ⟨rfl, rfl⟩
def inoC (m : Img) (n : Nat) : Array Value := #[.bool (m.live n), .int .i64 (m.stamp n), .int .i64 (m.links n), .int .i64 (m.part n 0), .int .i64 (m.part n 1)]
set_option maxHeartbeats 1000000 in
theorem of1_any (m : Img) (a b : Nat) (w : World) : Calls Tryz.prog 95 #[.agg (inoC m a), .agg (inoC m b)] w fun e w' => e = .returned (.int .i64 (cmpI (m.stamp a) (m.stamp b))) ∧ Below w.heap.size w w' := by
  unfold inoC
  have BL := hide (show Below w.heap.size w ((w.alloc (.cells #[.bool (m.live a), .int .i64 (m.stamp a), .int .i64 (m.links a), .int .i64 (m.part a 0), .int .i64 (m.part a 1)] 34)).alloc (.cells #[.bool (m.live b), .int .i64 (m.stamp b), .int .i64 (m.links b), .int .i64 (m.part b 0), .int .i64 (m.part b 1)] 34)) from ((Below.refl _ w).alloc (Nat.le_refl _) _).alloc (by simp) _)
  go_enter Tryz.func95, Tryz.ntmps95
  go_wp2_with fail
  refine (compare_any _ _ _).mono ?_
  rintro e w' ⟨rfl, e9⟩
  rw [e9]
  clear e9 w'
  go_wp2_with fail
  go_ret
  exact ⟨rfl, unhide BL⟩
/-! the greatest -/
theorem ino_cells5 : (Tryz.prog.info? 34).map (·.size) = some 5 := by kernel_rfl
theorem inoC_row {cs : Array Value} {m : Img} (h : IsImg cs m) {n : Nat} (hn : n < 8) : cs.extract (n * 5) (n * 5 + 5) = inoC m n :=
  cut5 (h.live n hn) (h.stamp n hn) (h.links n hn) (h.part n 0 hn (by omega)) (h.part n 1 hn (by omega))
theorem inoC_info (m : Img) (n : Nat) : (Tryz.prog.info? 34).map (·.size) = some (inoC m n).size := ino_cells5
theorem inoC_all (m : Img) (n : Nat) : (inoC m n).all (·.oneCell') = true := by kernel_rfl
def inoZ : Array Value := #[.bool false, .int .i64 0, .int .i64 0, .int .i64 0, .int .i64 0]
theorem zero_inoZ (w : World) : (zeroValue 34).run Tryz.prog w = .ok (.agg inoZ) w := by kernel_rfl
theorem Op1.ix_inos {o : Oper} {ρ : Operand → Value} (x y : Operand) (ho : o.op = .indexAddr 98 x y) {g j : Nat} (hx : ρ x = .slice (some ⟨g, 0, none⟩) 8 8) (hy : ρ y = .int .i64 ((j : Nat) : Int)) (hj : j < 8) (w : World) : (execOp ρ o).run Tryz.prog w = .ok (.value (.pointer (some ⟨g, j * 5, none⟩))) w := by
  have jz : (j : Int) < 8 := by omega
  unfold execOp
  rw [ho]
  go_simp
theorem Op1.gtr0 {o : Oper} {ρ : Operand → Value} (x : Operand) (ho : o.op = .binOp .gtr 3 x (.const (.int .i64 0)) 3) {v : Int} (hx : ρ x = .int .i64 v) (hy : ρ (.const (.int .i64 0)) = .int .i64 0) (b : Bool) (hv : decide (0 < v) = b) (w : World) : (execOp ρ o).run Tryz.prog w = .ok (.value (.bool b)) w := by
  unfold execOp
  rw [ho]
  subst hv
  go_simp
/-- the image at g is as it was, and the box at g5 holds an inode -/
structure Mx (w W : World) (g : Nat) (cs : Array Value) (g5 : Nat) (c : Array Value) : Prop where
  bel : Below w.heap.size w W
  row : W.heap[g]? = some (.cells cs 44)
  gl : g < w.heap.size
  lo : w.heap.size ≤ g5
  box : W.heap[g5]? = some (.cells c 34)
theorem Mx.call {w W W' : World} {g g5 : Nat} {cs c : Array Value} (h : Mx w W g cs g5 c) (hb : Below W.heap.size W W') : Mx w W' g cs g5 c :=
  ⟨h.bel.trans (hb.mono h.bel.size), by rw [hb.block _ (Array.getElem?_eq_some_iff.1 h.row).1]; exact h.row, h.gl, h.lo, by rw [hb.block _ (Array.getElem?_eq_some_iff.1 h.box).1]; exact h.box⟩
theorem Mx.set {w W : World} {g g5 : Nat} {cs c : Array Value} (h : Mx w W g cs g5 c) (c' : Array Value) : Mx w (W.setRow g5 c') g cs g5 c' :=
  ⟨below_setRow h.bel h.lo _, by rw [setRow_other _ _ _ _ (by have := h.gl; have := h.lo; omega)]; exact h.row, h.gl, h.lo, setRow_heap _ _ _ _ _ _ h.box⟩
def Maxi (m : Img) (b k : Nat) : Prop := b < 8 ∧ ∀ i, i < k → m.stamp i ≤ m.stamp b
theorem gtr_cmp (a b : Int) : decide (0 < cmpI a b) = decide (b < a) := by
  unfold cmpI
  by_cases h1 : a < b
  · rw [if_pos h1]
    have : ¬ b < a := by omega
    simp [this]
  · rw [if_neg h1]
    by_cases h2 : b < a
    · rw [if_pos h2]; simp [h2]
    · rw [if_neg h2]; simp [h2]
set_option maxHeartbeats 4000000 in
set_option maxRecDepth 100000 in
theorem maxFunc_any (g : Nat) (cs : Array Value) (m : Img) (hi : IsImg cs m) (w : World) (hg : w.heap[g]? = some (.cells cs 44)) :
    Calls Tryz.prog 94 #[.slice (some ⟨g, 0, none⟩) 8 8, .func (.func 95) #[] #[]] w fun e w' => (∃ b, e = .returned (.agg (inoC m b)) ∧ Maxi m b 8) ∧ Below w.heap.size w w' := by
  have zN := zero_inoZ
  have zi := hi.size
  have gl : g < w.heap.size := (Array.getElem?_eq_some_iff.1 hg).1
  have h8 : (0 : Int) < 8 := by omega
  have M0 := hide (show Mx w ((w.alloc (.cells inoZ 34)).alloc (.cells inoZ 34)) g cs (w.heap.size + 1) inoZ from ⟨((Below.refl _ w).alloc (Nat.le_refl _) _).alloc (by simp) _, by rw [Below.heap_alloc _ _ _ (by simp; omega), Below.heap_alloc _ _ _ gl]; exact hg, gl, by omega, heap_alloc2_new _ _ _⟩)
  have M1 := hide ((unhide M0).set (inoC m 0))
  have R4 := hide (show (((w.alloc (.cells inoZ 34)).alloc (.cells inoZ 34)).setRow (w.heap.size + 1) (inoC m 0)).heap[w.heap.size]? = some (.cells inoZ 34) by rw [setRow_other _ _ _ _ (by omega)]; exact heap_alloc2_old _ _ _)
  have r1 := hide (show (w.alloc (.cells inoZ 34)).heap[g]? = some (.cells cs 44) by rw [Below.heap_alloc _ _ _ gl]; exact hg)
  have s1 := hide (unhide M0).box
  have x0 := inoC_row hi (n := 0) (by omega)
  rw [Nat.zero_mul] at x0
  go_enter Tryz.func94, Tryz.ntmps94
  go_wp2_with (first | (have hx := unhide r1; refine wpList_load_part rfl 34 _ rfl g 0 5 rfl 44 cs _ hx ino_under rfl ino_cells5 (by omega) ?_; rw [x0]; clear hx r1) | (have hx := unhide s1; refine wpList_store_row rfl 34 _ _ rfl (w.heap.size + 1) (inoC m 0) rfl rfl 34 inoZ hx (inoC_info m 0) rfl (inoC_all m 0) ?_; clear hx s1))
  generalize ((w.alloc (.cells inoZ 34)).alloc (.cells inoZ 34)).setRow (w.heap.size + 1) (inoC m 0) = X1 at M1 R4 ⊢
  clear M0
  go_loopw [6] (fun i wr => ∃ kk b : Nat, 1 ≤ kk ∧ kk ≤ 8 ∧ i = .int .i64 kk ∧ Hid (Maxi m b kk) ∧ Hid (Mx w wr g cs (w.heap.size + 1) (inoC m b)) ∧ Hid (wr.heap[w.heap.size]? = some (.cells inoZ 34))) (fun i _ => 8 - (intOf i).toNat)
  case atStart => exact ⟨1, 0, by omega, by omega, rfl, hide ⟨by omega, fun i hi => by rw [show i = 0 by omega]; exact Int.le_refl _⟩, M1, R4⟩
  case round =>
    clear M1 R4
    obtain ⟨kk, b, hk1, hk8, rfl, HX, HM, HR⟩ := hrel
    by_cases hlt : kk < 8
    case pos =>
      have t8 : decide ((kk : Int) < 8) = true := by simp; omega
      have jz : (kk : Int) < 8 := by omega
      have Md := hide ((unhide HM).call ((Below.refl _ wr).drew))
      have Rd := hide (show wr.drew.heap[w.heap.size]? = some (.cells inoZ 34) from unhide HR)
      have xk := inoC_row hi hlt
      have yk : kk * 5 + 5 ≤ cs.size := by omega
      have OF := hide fun W => of1_any m kk b W
      have hgt := gtr_cmp (m.stamp kk) (m.stamp b)
      have SK := hide (show ∀ W, Mx w W g cs (w.heap.size + 1) (inoC m b) → (W.heap[g]? = some (.cells cs 44) ∧ W.heap[w.heap.size + 1]? = some (.cells (inoC m b) 34)) from fun W h => ⟨h.row, h.box⟩)
      have S0 := unhide SK _ (unhide Md)
      generalize hcv : decide (0 < cmpI (m.stamp kk) (m.stamp b)) = cv at hgt
      go_wp2_with fail
      refine wp_region_held_drew (S := fun W : World => W.heap[g]? = some (.cells cs 44) ∧ W.heap[w.heap.size + 1]? = some (.cells (inoC m b) 34)) (by kernel_rfl) (S0) (fun hS => ?_)
      refine tkP (i := 0) (oi := ⟨some 20, .move (.tmp 1), 128, "sort.go:115", #[], none⟩) (v := .func (.func 95) #[] #[]) hS ?_
      try simp only [Act.put, z1, z2, z3]
      refine tkP (i := 1) (oi := ⟨some 21, .move (.tmp 0), 98, "sort.go:115", #[], none⟩) (v := .slice (some ⟨g, 0, none⟩) 8 8) hS ?_
      try simp only [Act.put, z1, z2, z3]
      refine tkP (i := 2) (oi := ⟨some 22, .move (.tmp 6), 3, "sort.go:115", #[], none⟩) (v := .int .i64 (kk : Nat)) hS ?_
      try simp only [Act.put, z1, z2, z3]
      refine tkH (i := 3) (oi := ⟨some 23, .indexAddr 98 (.tmp 21) (.tmp 22), 0, "sort.go:115", #[⟨1, .data⟩, ⟨2, .data⟩], none⟩) (v := .pointer (some ⟨g, kk * 5, none⟩)) (fun W h => Op1.ix_inos (.tmp 21) (.tmp 22) (by kernel_rfl) (by kernel_rfl) (by kernel_rfl) hlt W) hS ?_
      try simp only [Act.put, z1, z2, z3]
      refine tkH (i := 4) (oi := ⟨some 24, .load 34 (.tmp 23), 34, "sort.go:115", #[⟨3, .data⟩], none⟩) (v := .agg (inoC m kk)) (fun W h => run_exec_load_part 34 (.tmp 23) (by kernel_rfl) g (kk * 5) 5 (by kernel_rfl) W 44 cs (inoC m kk) _ h.1 ino_under rfl ino_cells5 yk xk) hS ?_
      try simp only [Act.put, z1, z2, z3]
      refine tkH (i := 5) (oi := ⟨some 25, .load 34 (.tmp 5), 34, "sort.go:115", #[], none⟩) (v := .agg (inoC m b)) (fun W h => run_exec_load_part 34 (.tmp 5) (by kernel_rfl) (w.heap.size + 1) 0 5 (by kernel_rfl) W 34 (inoC m b) (inoC m b) _ h.2 ino_under rfl ino_cells5 (Nat.le_refl 5) rfl) hS ?_
      try simp only [Act.put, z1, z2, z3]
      refine wpAnyH_ready (rs := [6]) (by kernel_rfl) (by simp) ?_
      refine AllReadyH.cons (o := ⟨some 26, .call { callee := .value (.tmp 20), args := #[.tmp 24, .tmp 25], argTypes := #[34, 34] }, 3, "sort.go:115", #[⟨0, .data⟩, ⟨4, .data⟩, ⟨5, .data⟩], none⟩) rfl (fun K hK => ?_) AllReadyH.nil
      rw [if_pos (by kernel_rfl)]
      go_simp
      refine (unhide OF _).mono ?_
      rintro e W5 ⟨rfl, b5⟩
      have M5 := hide ((unhide Md).call b5)
      have R5 := hide (show W5.heap[w.heap.size]? = some (.cells inoZ 34) by rw [b5.block _ (Array.getElem?_eq_some_iff.1 (unhide Rd)).1]; exact unhide Rd)
      clear b5 Md Rd
      go_wp2_with fail
      refine hK.out _ _ (unhide SK _ (unhide M5)) (fun hS5 => ?_)
      clear hK K
      try simp only [Act.put, z1, z2, z3]
      refine tkH (i := 7) (oi := ⟨some 27, .binOp .gtr 3 (.tmp 26) (.const (.int .i64 0)) 3, 4, "sort.go:115", #[⟨6, .data⟩], none⟩) (v := .bool cv) (fun W h => Op1.gtr0 (.tmp 26) (by kernel_rfl) (by kernel_rfl) (by kernel_rfl) cv hcv W) hS5 ?_
      try simp only [Act.put, z1, z2, z3]
      refine wpAnyH_done (by kernel_rfl) ?_ _
      clear hS hS5 S0 SK OF hcv
      cases cv
      case false =>
        have hle : ¬ m.stamp b < m.stamp kk := by simpa using hgt.symm
        go_wp2_with fail
        go_roundw
        case rel => exact ⟨kk + 1, b, by omega, by omega, by go_num, hide ⟨(unhide HX).1, fun i hi => by by_cases e : i = kk; rw [e]; omega; exact (unhide HX).2 i (by omega)⟩, M5, R5⟩
        case measure => simp [intOf]; omega
      case true =>
        have hle : m.stamp b < m.stamp kk := by simpa using hgt.symm
        have M6 := hide ((unhide M5).set (inoC m kk))
        have R6 := hide (show (W5.setRow (w.heap.size + 1) (inoC m kk)).heap[w.heap.size]? = some (.cells inoZ 34) by rw [setRow_other _ _ _ _ (by omega)]; exact unhide R5)
        have r1 := hide (unhide M5).row
        have s1 := hide (unhide M5).box
        go_wp2_with (first | (have hx := unhide r1; refine wpList_load_part rfl 34 _ rfl g (kk * 5) 5 rfl 44 cs _ hx ino_under rfl ino_cells5 yk ?_; rw [xk]; clear hx r1; simp only [Act.put, List.setIfInBounds_toArray, List.set_cons_zero, List.set_cons_succ]) | (have hx := unhide s1; refine wpList_store_row rfl 34 _ _ rfl (w.heap.size + 1) (inoC m kk) rfl rfl 34 (inoC m b) hx (inoC_info m kk) rfl (inoC_all m kk) ?_; clear hx s1; simp only [Act.put]))
        go_roundw
        case rel => exact ⟨kk + 1, kk, by omega, by omega, by go_num, hide ⟨hlt, fun i hi => by by_cases e : i = kk; rw [e]; exact Int.le_refl _; have := (unhide HX).2 i (by omega); omega⟩, M6, R6⟩
        case measure => simp [intOf]; omega
    case neg =>
      have e8 : kk = 8 := by omega
      subst e8
      have r1 := hide (unhide HM).box
      have s1 := hide (unhide HR)
      go_wp2_with (first | (have hx := unhide r1; refine wpList_load_row rfl 34 _ rfl (w.heap.size + 1) rfl 34 (inoC m b) (0, 0) _ hx ino_under rfl (inoC_info m b) ?_; clear hx r1) | (have hx := unhide s1; refine wpList_store_row rfl 34 _ _ rfl w.heap.size (inoC m b) rfl rfl 34 inoZ hx (inoC_info m b) rfl (inoC_all m b) ?_; clear hx s1))
      refine bodyPost_ret (v := .agg (inoC m b)) ?_ rfl ⟨⟨b, rfl, unhide HX⟩, below_setRow (unhide HM).bel (Nat.le_refl _) _⟩
      exact results_cell_row (P := Tryz.prog) Tryz.results94 _ _ w.heap.size 34 _ (0, 0) _ rfl (setRow_heap _ _ _ _ _ _ (unhide HR)) ino_under rfl (inoC_info m b)
/-- what Of answers at an image that may be mended -/
def OfFl (w : World) (cs : Array Value) (m : Img) (e : Ending) (w' : World) : Prop := ∃ bf bc last, e = .returned (.pointer (some ⟨bf, 0, none⟩)) ∧ w.heap.size ≤ bf ∧ w.heap.size ≤ bc ∧ Fl w' bf bc cs cs m m last ∧ ∃ b, last = m.stamp b ∧ Maxi m b 8
set_option maxHeartbeats 4000000 in
set_option maxRecDepth 100000 in
theorem sOf_any (cs : Array Value) (m : Img) (hi : IsImg cs m) (hm : m.check = 0) (w : World) :
    Calls Tryz.prog 63 #[.agg cs] w fun e w' => OfFl w cs m e w' ∧ Below w.heap.size w w' := by
  have C1 := hide (of_any cs m hi (w.alloc (.cells cs 44)))
  have BEL := hide (show Below w.heap.size w (w.alloc (.cells cs 44)) from (Below.refl _ w).alloc (Nat.le_refl _) _)
  have HR := hide (heap_alloc_last w (.cells cs 44))
  have hz := hi.size
  have zN := zero_inoZ
  go_enter Tryz.func63, Tryz.ntmps63
  go_wp2_with (refine wpList_load_row rfl 44 _ rfl w.heap.size rfl 44 cs (0, 0) _ (unhide HR) img_under rfl (img_info hz) ?_)
  refine (unhide C1).mono ?_
  rintro e w1 ⟨ho, b1⟩
  have e0 : ∃ gc, e = .returned (.pointer (some ⟨gc, 0, none⟩)) ∧ w.heap.size ≤ gc ∧ w1.heap[gc]? = some (.cells (cs ++ cs) 57) := by
    rcases ho with ⟨_, gc, z1, z2, z3⟩ | ⟨z, _⟩
    · exact ⟨gc, z1, by simp at z2; omega, z3⟩
    · exact absurd hm z
  obtain ⟨gc, rfl, hgc, rgc⟩ := e0
  have B1 := hide ((unhide BEL).trans (b1.mono (by simp)))
  have r1 : w1.heap[w.heap.size]? = some (.cells cs 44) := by rw [b1.block _ (by simp)]; exact unhide HR
  have RG := hide rgc
  clear b1 ho rgc
  have MF := hide (maxFunc_any w.heap.size cs m hi w1 r1)
  go_wp2_with fail
  refine (unhide MF).mono ?_
  rintro e w2 ⟨⟨b, rfl, hmx⟩, b2⟩
  have B2 := hide ((unhide B1).trans (b2.mono (unhide B1).size))
  have RG2 := hide (show w2.heap[gc]? = some (.cells (cs ++ cs) 57) by rw [b2.block _ (Array.getElem?_eq_some_iff.1 (unhide RG)).1]; exact unhide RG)
  have HX := hide hmx
  clear b2 hmx MF RG r1
  have s1 := hide (heap_alloc_last w2 (.cells inoZ 34))
  have B3 := hide (below_setRow ((unhide B2).alloc (unhide B2).size (.cells inoZ 34)) (unhide B2).size (inoC m b))
  have R3 := setRow_heap (w2.alloc (.cells inoZ 34)) w2.heap.size _ (inoC m b) _ _ (heap_alloc_last w2 (.cells inoZ 34))
  have RG3 := hide (show ((w2.alloc (.cells inoZ 34)).setRow w2.heap.size (inoC m b)).heap[gc]? = some (.cells (cs ++ cs) 57) by
    have := (Array.getElem?_eq_some_iff.1 (unhide RG2)).1
    rw [setRow_other _ _ _ _ (by omega), Below.heap_alloc _ _ _ this]; exact unhide RG2)
  have c1 : ((w2.alloc (.cells inoZ 34)).setRow w2.heap.size (inoC m b)).cell? ⟨w2.heap.size, 1, none⟩ = some (.int .i64 (m.stamp b)) := by rw [cell_of_row _ _ _ _ _ _ R3]; rfl
  clear R3
  go_wp2_with (have hx := unhide s1; refine wpList_store_row rfl 34 _ _ rfl w2.heap.size (inoC m b) rfl rfl 34 inoZ hx (inoC_info m b) rfl (inoC_all m b) ?_; clear hx s1; generalize (w2.alloc (.cells inoZ 34)).setRow w2.heap.size (inoC m b) = X3 at B3 RG3 c1 ⊢)
  go_ret
  have lg : gc < X3.heap.size := (Array.getElem?_eq_some_iff.1 (unhide RG3)).1
  refine ⟨⟨_, gc, m.stamp b, rfl, (unhide B3).size, hgc, ⟨heap_alloc_last _ _, ?_, hi, hi, by omega⟩, b, rfl, unhide HX⟩, (unhide B3).alloc (unhide B3).size _⟩
  rw [Below.heap_alloc _ _ _ lg]; exact unhide RG3
end Go.Proofs.YtmbpckmpnnmnmacGreat
namespace Go.Proofs.YtmbpckmpnnmnmacGreat
namespace Img
variable {m : Img}
theorem mholds_not {m : Img} {x : Nat} (hx : x < 9) (h : m.holds (x : Int) = false) {n p : Nat} (hn : n < 8) (hp : p < 2) (hl : m.live n = true) : m.part n p ≠ (x : Int) := by
  unfold holds at h
  have hD : isD (x : Int) = true := by simp [isD]; omega
  rw [hD, Bool.true_and, anyB_false] at h
  have := h n hn
  rw [hl, Bool.true_and] at this
  unfold hasPart at this
  rw [Bool.or_eq_false_iff] at this
  match p, hp with
  | 0, _ => simpa using this.1
  | 1, _ => simpa using this.2
/-! parts of two inodes, or of one, are apart -/
theorem mpart_ne {m : Img} (hm : m.check = 0) {n p k q : Nat} (hn : n < 8) (hp : p < 2) (hk : k < 8) (hq : q < 2) (hne : ¬ (n = k ∧ p = q)) (hl : m.live n = true) (hlk : m.live k = true) (hD : isD (m.part n p) = true) : m.part k q ≠ m.part n p := by
  have e1 : m.pa (2 * n + p) = m.part n p := by
    rw [pa_of_live (by rw [show (2 * n + p) / 2 = n by omega]; exact hl), show (2 * n + p) / 2 = n by omega, show (2 * n + p) % 2 = p by omega]
  have e2 : m.pa (2 * k + q) = m.part k q := by
    rw [pa_of_live (by rw [show (2 * k + q) / 2 = k by omega]; exact hlk), show (2 * k + q) / 2 = k by omega, show (2 * k + q) % 2 = q by omega]
  rw [← e1, ← e2]
  exact datas_ne (well_iff.1 hm).datas (by omega) (by omega) (by omega) (by rw [e1]; exact hD)
/-! another count -/
theorem mputLinks_check {m : Img} (hm : m.check = 0) {n : Nat} (hn : n < 8) (hl : m.live n = true) (v : Int) (hv : (m.refs n : Int) ≤ v) : (m.putIno n ⟨m.live n, m.stamp n, v, m.part n 0, m.part n 1⟩).check = 0 := by
  have ok := inode_parts_ok hm hn hl
  refine putIno_check hm _ (.inr ⟨hl, ok.1, hv, fun p hp => ?_⟩) (fun d' s' _ _ _ => ⟨hl, rfl⟩) (fun _ k hk hne hlk => stamps_ne (well_iff.1 hm).stamps hk hn hne hlk hl) (fun _ k q p hk hq hp hne hlk hD => ?_) (fun _ hD => ?_)
  · match p, hp with
    | 0, _ => exact ok.2.2 0 (by omega)
    | 1, _ => exact ok.2.2 1 (by omega)
  · match p, hp with
    | 0, _ => exact mpart_ne hm hn (by omega) hk hq (by omega) hl hlk hD
    | 1, _ => exact mpart_ne hm hn (by omega) hk hq (by omega) hl hlk hD
  · exact fun z => mpart_ne hm hn (show 0 < 2 by omega) hn (show 1 < 2 by omega) (by omega) hl hl hD z.symm
theorem nil_list : (⟨#[]⟩ : ByteArray).toList = [] := by decide +kernel
/-- does an inode go? -/
def goes (m : Img) (n : Nat) : Bool := m.live n && m.refs (n : Int) == 0
def dropTo (m : Img) : Nat → Img
  | 0 => m
  | n + 1 => if goes m n = true then (dropTo m n).putIno n Ino.none else dropTo m n
def other (m : Img) (n : Nat) : Bool := !(m.links n == (m.refs (n : Int) : Int))
def relink (m : Img) (n : Nat) : Img := m.putIno n ⟨m.live n, m.stamp n, (m.refs (n : Int) : Int), m.part n 0, m.part n 1⟩
def setTo (m : Img) : Nat → Img
  | 0 => m
  | n + 1 => if other m n = true then relink (setTo m n) n else setTo m n
def full (m : Img) (x : Nat) : Bool := !(m.of x == 0 && (m.text x).toList == [])
def lost (m : Img) (x : Nat) : Bool := full m x && !m.holds (x : Int)
def clearTo (m : Img) : Nat → Img
  | 0 => m
  | x + 1 => if lost m x = true then (clearTo m x).putData x 0 ⟨#[]⟩ else clearTo m x
def mend1 (m : Img) : Img := dropTo m 8
def mend2 (m : Img) : Img := setTo (mend1 m) 8
def mend (m : Img) : Img := clearTo (mend2 m) 9
def lostF (m : Img) : Nat := cnt (goes m) 8
def lostC (m : Img) : Nat := cnt (other (mend1 m)) 8
def lostD (m : Img) : Nat := cnt (lost (mend2 m)) 9
/-! what is dropped -/
theorem dropTo_dirs (m : Img) : ∀ k, (dropTo m k).name = m.name ∧ (dropTo m k).ino = m.ino ∧ (dropTo m k).est = m.est ∧ (dropTo m k).of = m.of ∧ (dropTo m k).text = m.text
  | 0 => ⟨rfl, rfl, rfl, rfl, rfl⟩
  | k + 1 => by
    have := dropTo_dirs m k
    unfold dropTo
    split
    · exact this
    · exact this
theorem dropTo_refs (m : Img) (k : Nat) (i : Int) : (dropTo m k).refs i = m.refs i := refs_of_dirs (dropTo_dirs m k).1 (dropTo_dirs m k).2.1 i
theorem dropTo_inode (m : Img) (n : Nat) : ∀ k, (dropTo m k).inode n = if n < k ∧ goes m n = true then Ino.none else m.inode n
  | 0 => by simp [dropTo]
  | k + 1 => by
    have ih := dropTo_inode m n k
    unfold dropTo
    by_cases hg : goes m k = true
    · rw [if_pos hg]
      by_cases e : n = k
      · subst e; rw [putIno_at, if_pos ⟨by omega, hg⟩]
      · rw [putIno_other _ _ e, ih]
        by_cases h : n < k ∧ goes m n = true
        · rw [if_pos h, if_pos ⟨by omega, h.2⟩]
        · rw [if_neg h, if_neg (by intro z; exact h ⟨by omega, z.2⟩)]
    · rw [if_neg hg, ih]
      by_cases e : n = k
      · subst e; rw [if_neg (by intro z; omega), if_neg (by intro z; exact hg z.2)]
      · by_cases h : n < k ∧ goes m n = true
        · rw [if_pos h, if_pos ⟨by omega, h.2⟩]
        · rw [if_neg h, if_neg (by intro z; exact h ⟨by omega, z.2⟩)]
theorem dropTo_check (hm : m.check = 0) : ∀ k, (dropTo m k).check = 0
  | 0 => hm
  | k + 1 => by
    have ih := dropTo_check hm k
    unfold dropTo
    by_cases hg : goes m k = true
    · rw [if_pos hg]
      refine putIno_check ih Ino.none (.inl rfl) (fun d s hd hs hl => ?_) (fun z => by cases z) (fun z => by cases z) (fun z => by cases z)
      have h0 : (dropTo m k).refs (k : Int) = 0 := by
        rw [dropTo_refs]; unfold goes at hg; simp at hg; exact hg.2
      have := refs_zero_iff.1 h0 d s hd hs
      rw [this] at hl; cases hl
    · rw [if_neg hg]; exact ih
/-! what is counted again -/
theorem setTo_dirs (m : Img) : ∀ k, (setTo m k).name = m.name ∧ (setTo m k).ino = m.ino ∧ (setTo m k).est = m.est ∧ (setTo m k).of = m.of ∧ (setTo m k).text = m.text
  | 0 => ⟨rfl, rfl, rfl, rfl, rfl⟩
  | k + 1 => by
    have := setTo_dirs m k
    unfold setTo
    split
    · exact this
    · exact this
theorem setTo_refs (m : Img) (k : Nat) (i : Int) : (setTo m k).refs i = m.refs i := refs_of_dirs (setTo_dirs m k).1 (setTo_dirs m k).2.1 i
def lnkd (m : Img) (n : Nat) : Ino := ⟨m.live n, m.stamp n, (m.refs (n : Int) : Int), m.part n 0, m.part n 1⟩
theorem relink_at (m : Img) (n : Nat) : (relink m n).inode n = lnkd m n := putIno_at _ _ _
theorem setTo_inode (m : Img) (n : Nat) : ∀ k, (setTo m k).inode n = if n < k then lnkd m n else m.inode n
  | 0 => by simp [setTo]
  | k + 1 => by
    have ih := setTo_inode m n k
    unfold setTo
    by_cases hg : other m k = true
    · rw [if_pos hg]
      by_cases e : n = k
      · subst e
        rw [relink_at, if_pos (by omega)]
        rw [if_neg (by omega)] at ih
        obtain ⟨g1, g2, g3, g4⟩ := inode_eq ih
        unfold lnkd
        rw [g1, g2, g4 0 (by omega), g4 1 (by omega), setTo_refs]
      · unfold relink
        rw [putIno_other _ _ e, ih]
        by_cases h : n < k
        · rw [if_pos h, if_pos (by omega)]
        · rw [if_neg h, if_neg (by omega)]
    · rw [if_neg hg, ih]
      by_cases e : n = k
      · subst e
        rw [if_neg (by omega), if_pos (by omega)]
        unfold other at hg
        have hl : m.links n = (m.refs (n : Int) : Int) := by simpa using hg
        unfold lnkd inode; rw [hl]
      · by_cases h : n < k
        · rw [if_pos h, if_pos (by omega)]
        · rw [if_neg h, if_neg (by omega)]
theorem free_links (hm : m.check = 0) {n : Nat} (hn : n < 8) (hl : m.live n = false) : other m n = false := by
  have h1 := inode_free_ok hm hn hl
  have h2 := dead_refs hm hl
  unfold other
  rw [h2]
  have : m.links n = 0 := by unfold inode at h1; injection h1
  rw [this]; rfl
theorem setTo_check (hm : m.check = 0) : ∀ k, k ≤ 8 → (setTo m k).check = 0
  | 0, _ => hm
  | k + 1, hk => by
    have ih := setTo_check hm k (by omega)
    unfold setTo
    by_cases hg : other m k = true
    · rw [if_pos hg]
      have hi := setTo_inode m k k
      rw [if_neg (by omega)] at hi
      obtain ⟨g1, g2, g3, g4⟩ := inode_eq hi
      have hl : (setTo m k).live k = true := by
        rw [g1]
        cases e : m.live k
        · rw [free_links hm (by omega) e] at hg; cases hg
        · rfl
      unfold relink
      exact mputLinks_check ih (by omega) hl _ (Int.le_refl _)
    · rw [if_neg hg]; exact ih
/-! data that are emptied -/
theorem clearTo_rest (m : Img) : ∀ k, (clearTo m k).live = m.live ∧ (clearTo m k).stamp = m.stamp ∧ (clearTo m k).links = m.links ∧ (clearTo m k).part = m.part ∧ (clearTo m k).name = m.name ∧ (clearTo m k).ino = m.ino ∧ (clearTo m k).est = m.est
  | 0 => ⟨rfl, rfl, rfl, rfl, rfl, rfl, rfl⟩
  | k + 1 => by
    have := clearTo_rest m k
    unfold clearTo
    split
    · exact this
    · exact this
theorem holds_rest {a b : Img} (h1 : a.live = b.live) (h2 : a.part = b.part) (x : Int) : a.holds x = b.holds x := by
  unfold holds hasPart; rw [h1, h2]
theorem clearTo_holds (m : Img) (k : Nat) (x : Int) : (clearTo m k).holds x = m.holds x := holds_rest (clearTo_rest m k).1 (clearTo_rest m k).2.2.2.1 x
theorem clearTo_data (m : Img) (x : Nat) : ∀ k, (clearTo m k).of x = (if x < k ∧ lost m x = true then 0 else m.of x) ∧ (clearTo m k).text x = (if x < k ∧ lost m x = true then ⟨#[]⟩ else m.text x)
  | 0 => by simp [clearTo]
  | k + 1 => by
    have ih := clearTo_data m x k
    unfold clearTo
    by_cases hg : lost m k = true
    · rw [if_pos hg]
      by_cases e : x = k
      · subst e
        rw [if_pos ⟨by omega, hg⟩, if_pos ⟨by omega, hg⟩]
        exact ⟨if_pos rfl, if_pos rfl⟩
      · show (if x = k then 0 else (clearTo m k).of x) = _ ∧ (if x = k then ⟨#[]⟩ else (clearTo m k).text x) = _
        rw [if_neg e, if_neg e, ih.1, ih.2]
        by_cases h : x < k ∧ lost m x = true
        · rw [if_pos h, if_pos h, if_pos ⟨by omega, h.2⟩, if_pos ⟨by omega, h.2⟩]; exact ⟨rfl, rfl⟩
        · rw [if_neg h, if_neg h, if_neg (by intro z; exact h ⟨by omega, z.2⟩), if_neg (by intro z; exact h ⟨by omega, z.2⟩)]; exact ⟨rfl, rfl⟩
    · rw [if_neg hg, ih.1, ih.2]
      by_cases e : x = k
      · subst e
        have h0 : ¬ (x < x ∧ lost m x = true) := by intro z; omega
        have h1 : ¬ (x < x + 1 ∧ lost m x = true) := by intro z; exact hg z.2
        rw [if_neg h0, if_neg h0, if_neg h1, if_neg h1]; exact ⟨rfl, rfl⟩
      · by_cases h : x < k ∧ lost m x = true
        · rw [if_pos h, if_pos h, if_pos ⟨by omega, h.2⟩, if_pos ⟨by omega, h.2⟩]; exact ⟨rfl, rfl⟩
        · rw [if_neg h, if_neg h, if_neg (by intro z; exact h ⟨by omega, z.2⟩), if_neg (by intro z; exact h ⟨by omega, z.2⟩)]; exact ⟨rfl, rfl⟩
theorem clearTo_check (hm : m.check = 0) : ∀ k, k ≤ 9 → (clearTo m k).check = 0
  | 0, _ => hm
  | k + 1, hk => by
    have ih := clearTo_check hm k (by omega)
    unfold clearTo
    by_cases hg : lost m k = true
    · rw [if_pos hg]
      refine putData_check ih 0 _ (fun n p hn hp hl hx => ?_)
      have hh : (clearTo m k).holds (k : Int) = false := by
        rw [clearTo_holds]; unfold lost at hg; simp at hg; exact hg.2
      exact absurd hx (mholds_not (by omega) hh hn hp hl)
    · rw [if_neg hg]; exact ih
/-! what is mended -/
theorem mend1_check (hm : m.check = 0) : (mend1 m).check = 0 := dropTo_check hm 8
theorem mend2_check (hm : m.check = 0) : (mend2 m).check = 0 := setTo_check (mend1_check hm) 8 (Nat.le_refl _)
theorem mend_check (hm : m.check = 0) : (mend m).check = 0 := clearTo_check (mend2_check hm) 9 (Nat.le_refl _)
theorem mend_dirs (m : Img) : (mend m).name = m.name ∧ (mend m).ino = m.ino ∧ (mend m).est = m.est := by
  obtain ⟨_, _, _, _, a1, a2, a3⟩ := clearTo_rest (mend2 m) 9
  obtain ⟨b1, b2, b3, _⟩ := setTo_dirs (mend1 m) 8
  obtain ⟨c1, c2, c3, _⟩ := dropTo_dirs m 8
  exact ⟨by unfold mend; rw [a1]; unfold mend2; rw [b1]; unfold mend1; rw [c1], by unfold mend; rw [a2]; unfold mend2; rw [b2]; unfold mend1; rw [c2], by unfold mend; rw [a3]; unfold mend2; rw [b3]; unfold mend1; rw [c3]⟩
theorem mend_refs (m : Img) (i : Int) : (mend m).refs i = m.refs i := refs_of_dirs (mend_dirs m).1 (mend_dirs m).2.1 i
theorem mend_inode (m : Img) {n : Nat} (hn : n < 8) : (mend m).inode n = if goes m n = true then ⟨false, 0, (m.refs (n : Int) : Int), -1, -1⟩ else lnkd m n := by
  obtain ⟨a1, a2, a3, a4, _⟩ := clearTo_rest (mend2 m) 9
  have e : (mend m).inode n = (mend2 m).inode n := by unfold mend inode; rw [a1, a2, a3, a4]
  have e1 := dropTo_inode m n 8
  rw [e]
  unfold mend2
  rw [setTo_inode, if_pos hn]
  by_cases hg : goes m n = true
  · rw [if_pos hg]
    rw [if_pos ⟨hn, hg⟩] at e1
    obtain ⟨g1, g2, g3, g4, g5⟩ := inode_is (show (mend1 m).inode n = ⟨false, 0, 0, -1, -1⟩ from e1)
    unfold lnkd
    rw [g1, g2, g4, g5, show (mend1 m).refs (n : Int) = m.refs (n : Int) from dropTo_refs m 8 _]
  · rw [if_neg hg]
    rw [if_neg (by intro z; exact hg z.2)] at e1
    obtain ⟨g1, g2, g3, g4⟩ := inode_eq (show (mend1 m).inode n = m.inode n from e1)
    unfold lnkd
    rw [g1, g2, g4 0 (by omega), g4 1 (by omega), show (mend1 m).refs (n : Int) = m.refs (n : Int) from dropTo_refs m 8 _]
theorem mend_ex (hm : m.check = 0) : Ex (mend m) := by
  refine ⟨mend_check hm, fun n hn hl => ?_⟩
  have h := mend_inode m hn
  by_cases hg : goes m n = true
  · rw [if_pos hg] at h
    have := (inode_is h).1
    rw [hl] at this; cases this
  · rw [if_neg hg] at h
    obtain ⟨g1, g2, g3, g4, g5⟩ := inode_is h
    rw [g3, mend_refs]
    refine ⟨rfl, ?_⟩
    rw [hl] at g1
    have g1' : m.live n = true := g1.symm
    unfold goes at hg
    rw [g1'] at hg
    have h0 : m.refs (n : Int) ≠ 0 := by simpa using hg
    show 1 ≤ ((m.refs (n : Int) : Nat) : Int)
    omega
end Img
end Go.Proofs.YtmbpckmpnnmnmacGreat
