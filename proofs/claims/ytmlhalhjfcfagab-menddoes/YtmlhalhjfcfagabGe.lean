/-
  The walk of eiderdownlaw.mendBegun. (Written by genge.py.)
-/
import Derived.Test.YtmlhalhjfcfagabGc
import Derived.Test.YtmlhalhjfcfagabGd
namespace Go.Proofs.Ytmlhalhjfcfagab
open Go.RowKit
def lostB (a b c d e f : Int) : Bool := a == d && b == e && c == f
theorem eqLost_v (n : Nat) (a b c d e f : Int) : EqV Try.prog (n + 2) 61 (.agg (lostA a b c)) (.agg (lostA d e f)) (lostB a b c d e f) := by
  intro w
  have u1 := Try.underlying3
  unfold lostA lostB
  rw [show n + 2 = (n + 1) + 1 from rfl]
  go_simp
  cases h1 : a == d <;> cases h2 : b == e <;> cases h3 : c == f <;> simp_all
theorem eqLost (a b c d e f : Int) (w : World) : (binOp .eql 61 (.agg (lostA a b c)) (.agg (lostA d e f))).run Try.prog w = .ok (.bool (lostB a b c d e f)) w := by
  unfold lostA
  rw [run_eql_struct]
  have := eqLost_v 9998 a b c d e f w
  unfold lostA at this
  rw [this]; rfl
theorem run_exec_eqv {P : Program} {o : Oper} {ρ : Operand → Value} (ty tz : TypeId) (x y : Operand) (ho : o.op = .binOp .eql ty x y tz) (cs ds : Array Value) (hx : ρ x = .agg cs) (hy : ρ y = .agg ds) (v : Bool)
    (hm : P.eqGuardType P.depth ty = false) (hq : ∀ w, (binOp .eql ty (.agg cs) (.agg ds)).run P w = .ok (.bool v) w) (w : World) : (execOp ρ o).run P w = .ok (.value (.bool v)) w := by
  unfold execOp
  rw [ho]
  go_simp
theorem run_exec_nev {P : Program} {o : Oper} {ρ : Operand → Value} (ty tz : TypeId) (x y : Operand) (ho : o.op = .binOp .neq ty x y tz) (cs ds : Array Value) (hx : ρ x = .agg cs) (hy : ρ y = .agg ds) (v : Bool)
    (hm : P.eqGuardType P.depth ty = false) (hq : ∀ w, (binOp .neq ty (.agg cs) (.agg ds)).run P w = .ok (.bool v) w) (w : World) : (execOp ρ o).run P w = .ok (.value (.bool v)) w := by
  unfold execOp
  rw [ho]
  go_simp
def mbI : Img := (oneI.putIno 2 ⟨oneI.live 2, oneI.stamp 2, 3, oneI.part 2 0, oneI.part 2 1⟩).putData 5 9 ⟨#[121]⟩
theorem mb_check : mbI.check = 0 := by kernel_rfl
theorem mb_mend : Img.sameImg (Img.mend mbI) oneI = true := by kernel_rfl
theorem mb_f : Img.lostF mbI = 0 := by kernel_rfl
theorem mb_c : Img.lostC mbI = 1 := by kernel_rfl
theorem mb_d : Img.lostD mbI = 1 := by kernel_rfl
theorem mz_check : (imgOf zeroCells).check = 12 := by kernel_rfl
/-- two boxes, of an image and of counts, laid and filled -/
theorem By.pair {w wr : World} {l : List (Nat × Array Value × TypeId)} (h : By w wr l) (c : Array Value) (a b d : Value) :
    By w ((((((wr.alloc (.cells zeroCells 34)).alloc (.cells #[.int .i64 0, .int .i64 0, .int .i64 0] 61)).setRow wr.heap.size c).setCell ⟨wr.heap.size + 1, 0, none⟩ a).setCell ⟨wr.heap.size + 1, 1, none⟩ b).setCell ⟨wr.heap.size + 1, 2, none⟩ d) ((wr.heap.size + 1, #[a, b, d], 61) :: (wr.heap.size, c, 34) :: l) := by
  have h2 := (h.box zeroCells 34).box #[.int .i64 0, .int .i64 0, .int .i64 0] 61
  rw [show (wr.alloc (.cells zeroCells 34)).heap.size = wr.heap.size + 1 by simp] at h2
  have h3 := h2.mut1 (Mv.row' (h2.row (wr.heap.size, zeroCells, 34) (by simp)) c)
  have h4 := h3.mut0 (Mv.set0 (v := a) (h3.row (wr.heap.size + 1, _, 61) (List.mem_cons_self ..)))
  have h5 := h4.mut0 (Mv.set1 (v := b) (h4.row (wr.heap.size + 1, _, 61) (List.mem_cons_self ..)))
  exact h5.mut0 (Mv.set2 (v := d) (h5.row (wr.heap.size + 1, _, 61) (List.mem_cons_self ..)))
/-- what the walk wants to know of them -/
structure Two2 (wr : World) (c : Array Value) : Prop where
  r0 : ((wr.alloc (.cells zeroCells 34)).alloc (.cells #[.int .i64 0, .int .i64 0, .int .i64 0] 61)).heap[wr.heap.size]? = some (.cells zeroCells 34)
  r1 : (((wr.alloc (.cells zeroCells 34)).alloc (.cells #[.int .i64 0, .int .i64 0, .int .i64 0] 61)).setRow wr.heap.size c).heap[wr.heap.size + 1]? = some (.cells #[.int .i64 0, .int .i64 0, .int .i64 0] 61)
theorem two2 (wr : World) (c : Array Value) : Two2 wr c := by
  refine ⟨heap_alloc2_old _ _ _, ?_⟩
  rw [setRow_other _ _ _ _ (by omega)]
  exact heap_alloc2_new _ _ _
theorem Two2.cells {wr : World} {c : Array Value} (h : Two2 wr c) (j : Nat) (hj : j < 3) : (((wr.alloc (.cells zeroCells 34)).alloc (.cells #[.int .i64 0, .int .i64 0, .int .i64 0] 61)).setRow wr.heap.size c).cell? ⟨wr.heap.size + 1, j, none⟩ = some (.int .i64 0) := by
  rw [cell_of_row _ _ _ _ _ _ h.r1]
  match j, hj with
  | 0, _ => rfl
  | 1, _ => rfl
  | 2, _ => rfl
theorem Two2.fz {wr : World} {c : Array Value} (h : Two2 wr c) (j : Nat) : (((wr.alloc (.cells zeroCells 34)).alloc (.cells #[.int .i64 0, .int .i64 0, .int .i64 0] 61)).setRow wr.heap.size c).frozen? ⟨wr.heap.size + 1, j, none⟩ = false := frozen_of_row _ _ _ _ _ h.r1
set_option maxRecDepth 100000 in
set_option maxHeartbeats 16000000 in
theorem mendBegun_any (w : World) :
    Calls Try.prog 36 #[] w fun e w' => e = .returned (.bool true) ∧ Below w.heap.size w w' := by
  have z := zero_img.1
  have bz := build_img
  have zz := zero_sz
  go_enter Try.func36, Try.ntmps36
  go_wp2_with fail
  refine (one_any _).mono ?_
  rintro e w1 ⟨rfl, hb1⟩
  have B1 := hide ((((By.start w).call hb1).box zeroCells 34).mut0 (Mv.row' (heap_alloc_last _ _) oneCells))
  clear hb1
  have s0 := hide (heap_alloc_last w1 (.cells zeroCells 34))
  have hI : IsImg (((oneCells.setIfInBounds 12 (.int .i64 3)).setIfInBounds 86 (.int .i64 9)).setIfInBounds 87 (.string ⟨#[121]⟩)) mbI := (one_is.mLinks (n := 2) (by omega) 3).putData (x := 5) (by omega) 9 ⟨#[121]⟩ (by unfold maxLen; show 1 ≤ _; omega)
  obtain ⟨v12, f0⟩ : ∃ v, ((w1.alloc (.cells zeroCells 34)).setRow w1.heap.size oneCells).cell? ⟨w1.heap.size, 12, none⟩ = some v := ⟨_, by rw [cell_of_row _ _ _ _ _ _ ((unhide B1).row (w1.heap.size, oneCells, 34) (List.mem_cons_self ..))]; exact one_is.links 2 (by omega)⟩
  obtain ⟨v86, f1⟩ : ∃ v, ((w1.alloc (.cells zeroCells 34)).setRow w1.heap.size oneCells).cell? ⟨w1.heap.size, 86, none⟩ = some v := ⟨_, by rw [cell_of_row _ _ _ _ _ _ ((unhide B1).row (w1.heap.size, oneCells, 34) (List.mem_cons_self ..))]; exact one_is.of 5 (by omega)⟩
  obtain ⟨v87, f2⟩ : ∃ v, ((w1.alloc (.cells zeroCells 34)).setRow w1.heap.size oneCells).cell? ⟨w1.heap.size, 87, none⟩ = some v := ⟨_, by rw [cell_of_row _ _ _ _ _ _ ((unhide B1).row (w1.heap.size, oneCells, 34) (List.mem_cons_self ..))]; exact one_is.text 5 (by omega)⟩
  have fz := fun i => frozen_of_row _ _ i _ _ ((unhide B1).row (w1.heap.size, oneCells, 34) (List.mem_cons_self ..))
  have B2 := hide ((unhide B1).mut0 (Mv.set ((unhide B1).row (w1.heap.size, oneCells, 34) (List.mem_cons_self ..)) 12 (.int .i64 3)))
  have B3 := hide ((unhide B2).mut0 (Mv.set ((unhide B2).row (w1.heap.size, _, 34) (List.mem_cons_self ..)) 86 (.int .i64 9)))
  have B4 := hide ((unhide B3).mut0 (Mv.set ((unhide B3).row (w1.heap.size, _, 34) (List.mem_cons_self ..)) 87 (.string ⟨#[121]⟩)))
  generalize hcb : ((oneCells.setIfInBounds 12 (.int .i64 3)).setIfInBounds 86 (.int .i64 9)).setIfInBounds 87 (.string ⟨#[121]⟩) = cb at B4 hI
  clear hcb B1 B2 B3
  have HI := hide hI
  have zI := hI.size
  clear hI
  have rb := hide ((unhide B4).row (w1.heap.size, cb, 34) (List.mem_cons_self ..))
  go_wp2_with (first | (have hx := unhide s0; refine wpList_store_row rfl 34 _ _ rfl w1.heap.size oneCells rfl rfl 34 zeroCells hx (img_info size_one) (zero_size one_is) one_all ?_; clear hx s0; generalize (w1.alloc (.cells zeroCells 34)).setRow w1.heap.size oneCells = X0 at B4 rb f0 f1 f2 fz ⊢) | (have hx := unhide rb; refine wpList_load_row rfl 34 _ rfl w1.heap.size rfl 34 cb (0, 0) _ hx img_under rfl (img_info zI) ?_; clear hx rb))
  generalize ((X0.setCell ⟨w1.heap.size, 12, none⟩ (.int .i64 3)).setCell ⟨w1.heap.size, 86, none⟩ (.int .i64 9)).setCell ⟨w1.heap.size, 87, none⟩ (.string ⟨#[121]⟩) = X1 at B4 ⊢
  generalize w1.heap.size = g1 at B4 ⊢
  clear f0 f1 f2 fz
  refine (mend_any cb mbI (unhide HI) _).mono ?_
  rintro e w2 ⟨hme, hb2⟩
  rcases hme with ⟨_, c2, hi2, rfl⟩ | ⟨hz, _⟩
  case inr => exact absurd mb_check hz
  obtain rfl : c2 = oneCells := hi2.agree one_is (Img.same_iff.1 mb_mend)
  rw [mb_f, mb_c, mb_d, show lostA ((0 : Nat) : Int) ((1 : Nat) : Int) ((1 : Nat) : Int) = #[.int .i64 0, .int .i64 1, .int .i64 1] from rfl]
  have B5 := hide ((unhide B4).call hb2)
  clear B4 hb2 hi2
  have B6 := hide ((unhide B5).pair oneCells (.int .i64 0) (.int .i64 1) (.int .i64 1))
  have T2 := two2 w2 oneCells
  have s1 := hide T2.r0
  have c0 := T2.cells 0 (by omega)
  have c1 := T2.cells 1 (by omega)
  have c2 := T2.cells 2 (by omega)
  have fz := T2.fz
  clear T2
  go_wp2_with (have hx := unhide s1; refine wpList_store_row rfl 34 _ _ rfl w2.heap.size oneCells rfl rfl 34 zeroCells hx (img_info size_one) (zero_size one_is) one_all ?_; clear hx s1; generalize ((w2.alloc (.cells zeroCells 34)).alloc (.cells #[.int .i64 0, .int .i64 0, .int .i64 0] 61)).setRow w2.heap.size oneCells = Yw2 at B6 c0 c1 c2 fz ⊢)
  generalize (((Yw2.setCell ⟨w2.heap.size + 1, 0, none⟩ (.int .i64 0)).setCell ⟨w2.heap.size + 1, 1, none⟩ (.int .i64 1)).setCell ⟨w2.heap.size + 1, 2, none⟩ (.int .i64 1)) = X2 at B6 ⊢
  generalize w2.heap.size + 1 = g4 at B6 ⊢
  generalize w2.heap.size = g3 at B6 ⊢
  clear c0 c1 c2 fz B5
  refine (mend_any zeroCells _ zero_kinds'.isImg _).mono ?_
  rintro e w3 ⟨hme, hb3⟩
  rcases hme with ⟨hz, _⟩ | ⟨_, rfl⟩
  · rw [mz_check] at hz; cases hz
  rw [mz_check, show lostA 0 0 0 = #[.int .i64 0, .int .i64 0, .int .i64 0] from rfl]
  have B7 := hide ((unhide B6).call hb3)
  clear B6 hb3
  have B8 := hide ((unhide B7).pair zeroCells (.int .i64 0) (.int .i64 0) (.int .i64 0))
  have T2 := two2 w3 zeroCells
  have s1 := hide T2.r0
  have c0 := T2.cells 0 (by omega)
  have c1 := T2.cells 1 (by omega)
  have c2 := T2.cells 2 (by omega)
  have fz := T2.fz
  clear T2
  go_wp2_with (have hx := unhide s1; refine wpList_store_row rfl 34 _ _ rfl w3.heap.size zeroCells rfl rfl 34 zeroCells hx (img_info zz) rfl zero_kinds'.isImg.all ?_; clear hx s1; generalize ((w3.alloc (.cells zeroCells 34)).alloc (.cells #[.int .i64 0, .int .i64 0, .int .i64 0] 61)).setRow w3.heap.size zeroCells = Yw3 at B8 c0 c1 c2 fz ⊢)
  generalize (((Yw3.setCell ⟨w3.heap.size + 1, 0, none⟩ (.int .i64 0)).setCell ⟨w3.heap.size + 1, 1, none⟩ (.int .i64 0)).setCell ⟨w3.heap.size + 1, 2, none⟩ (.int .i64 0)) = X3 at B8 ⊢
  generalize w3.heap.size + 1 = g6 at B8 ⊢
  generalize w3.heap.size = g5 at B8 ⊢
  clear c0 c1 c2 fz B7
  have B9 := hide ((unhide B8).call ((Below.refl _ _).drew))
  clear B8
  have SK := hide (show ∀ W, By w W ((g6, #[.int .i64 0, .int .i64 0, .int .i64 0], 61) :: (g5, zeroCells, 34) :: (g4, #[.int .i64 0, .int .i64 1, .int .i64 1], 61) :: (g3, oneCells, 34) :: (g1, cb, 34) :: []) → (W.heap[g3]? = some (.cells oneCells 34) ∧ W.heap[g4]? = some (.cells #[.int .i64 0, .int .i64 1, .int .i64 1] 61)) from fun W h => ⟨h.row (g3, oneCells, 34) (by simp), h.row (g4, _, 61) (.tail _ (.tail _ (.head _)))⟩)
  refine wp_region_held_drew (S := fun W => W.heap[g3]? = some (.cells oneCells 34) ∧ W.heap[g4]? = some (.cells #[.int .i64 0, .int .i64 1, .int .i64 1] 61)) (by kernel_rfl) (unhide SK _ (unhide B9)) (fun hS => ?_)
  generalize X3.drew = X4 at hS B9 ⊢
  refine wpAnyH_take (i := 0) (oi := { dst := some 27, op := Op.move (Operand.tmp 4), type := 3, pos := "law06.go:18", after := #[], guard := none }) (v := .int .i64 0) rfl (by kernel_rfl) (by kernel_rfl) (by kernel_rfl) (fun _ _ _ h => h) (Or.inl ⟨by kernel_rfl, fun W h => by first | kernel_rfl | go_simp⟩) hS ?_
  try simp only [Act.put, List.setIfInBounds_toArray, List.set_cons_zero, List.set_cons_succ]
  refine wpAnyH_take (i := 1) (oi := { dst := some 28, op := Op.binOp BinOp.eql 3 (Operand.tmp 27) (Operand.const (Value.int IntKind.i64 0)) 3, type := 4, pos := "law06.go:18", after := #[{ on := 0, ground := Ground.data }], guard := none }) (v := .bool true) rfl (by kernel_rfl) (by kernel_rfl) (by kernel_rfl) (fun _ _ _ h => h) (Or.inl ⟨by kernel_rfl, fun W h => by first | kernel_rfl | go_simp⟩) hS ?_
  try simp only [Act.put, List.setIfInBounds_toArray, List.set_cons_zero, List.set_cons_succ]
  refine wpAnyH_take (i := 2) (oi := { dst := some 29, op := Op.move (Operand.tmp 28), type := 4, pos := "law06.go:18", after := #[{ on := 1, ground := Ground.data }], guard := none }) (v := .bool true) rfl (by kernel_rfl) (by kernel_rfl) (by kernel_rfl) (fun _ _ _ h => h) (Or.inl ⟨by kernel_rfl, fun W h => by first | kernel_rfl | go_simp⟩) hS ?_
  try simp only [Act.put, List.setIfInBounds_toArray, List.set_cons_zero, List.set_cons_succ]
  refine wpAnyH_take (i := 3) (oi := { dst := some 30, op := Op.load 34 (Operand.tmp 2), type := 34, pos := "law06.go:18", after := #[{ on := 2, ground := Ground.guard }], guard := some (2, true) }) (v := .agg oneCells) rfl (by kernel_rfl) (by kernel_rfl) (by kernel_rfl) (fun _ _ _ h => h) (Or.inl ⟨by kernel_rfl, fun W h => run_exec_load_whole 34 (.tmp 2) (by kernel_rfl) g3 (by kernel_rfl) W 34 oneCells (0, 0) _ h.1 img_under rfl (img_info size_one)⟩) hS ?_
  try simp only [Act.put, List.setIfInBounds_toArray, List.set_cons_zero, List.set_cons_succ]
  refine wpAnyH_ready (rs := [4]) (by kernel_rfl) (by simp) ?_
  refine AllReadyH.cons (o := { dst := some 31, op := Op.call { callee := Callee.value (Operand.func 40), args := #[], argTypes := #[] }, type := 34, pos := "law06.go:18", after := #[{ on := 2, ground := Ground.chain }, { on := 2, ground := Ground.guard }], guard := some (2, true) }) rfl (fun K hK => ?_) AllReadyH.nil
  rw [if_pos (by kernel_rfl)]
  go_simp
  refine (one_any _).mono ?_
  rintro e w4 ⟨rfl, hb4⟩
  have BA := hide ((unhide B9).call hb4)
  clear hb4 B9
  go_wp2_with fail
  refine hK.out _ _ (unhide SK _ (unhide BA)) (fun hS2 => ?_)
  clear hK K
  refine wpAnyH_take (i := 5) (oi := { dst := some 32, op := Op.binOp BinOp.eql 34 (Operand.tmp 30) (Operand.tmp 31) 34, type := 4, pos := "law06.go:18", after := #[{ on := 3, ground := Ground.data }, { on := 4, ground := Ground.data }, { on := 2, ground := Ground.guard }], guard := some (2, true) }) (v := .bool true) rfl (by kernel_rfl) (by kernel_rfl) (by kernel_rfl) (fun _ _ _ h => h) (Or.inl ⟨by kernel_rfl, fun W h => run_exec_eqv 34 34 (.tmp 30) (.tmp 31) (by kernel_rfl) oneCells oneCells (by kernel_rfl) (by kernel_rfl) _ Try.eqGuardType34 (eqImg one_is) W⟩) hS2 ?_
  try simp only [Act.put, List.setIfInBounds_toArray, List.set_cons_zero, List.set_cons_succ]
  refine wpAnyH_take (i := 6) (oi := { dst := some 33, op := Op.pick (Operand.tmp 29) (Operand.tmp 32) (Operand.const (Value.bool false)), type := 4, pos := "law06.go:18", after := #[{ on := 2, ground := Ground.data }, { on := 5, ground := Ground.data }], guard := none }) (v := .bool true) rfl (by kernel_rfl) (by kernel_rfl) (by kernel_rfl) (fun _ _ _ h => h) (Or.inl ⟨by kernel_rfl, fun W h => by first | kernel_rfl | go_simp⟩) hS2 ?_
  try simp only [Act.put, List.setIfInBounds_toArray, List.set_cons_zero, List.set_cons_succ]
  refine wpAnyH_take (i := 7) (oi := { dst := some 34, op := Op.move (Operand.tmp 33), type := 4, pos := "law06.go:18", after := #[{ on := 6, ground := Ground.data }, { on := 4, ground := Ground.chain }], guard := none }) (v := .bool true) rfl (by kernel_rfl) (by kernel_rfl) (by kernel_rfl) (fun _ _ _ h => h) (Or.inl ⟨by kernel_rfl, fun W h => by first | kernel_rfl | go_simp⟩) hS2 ?_
  try simp only [Act.put, List.setIfInBounds_toArray, List.set_cons_zero, List.set_cons_succ]
  refine wpAnyH_take (i := 8) (oi := { dst := some 35, op := Op.load 61 (Operand.tmp 3), type := 61, pos := "law06.go:18", after := #[{ on := 7, ground := Ground.guard }], guard := some (7, true) }) (v := .agg #[.int .i64 0, .int .i64 1, .int .i64 1]) rfl (by kernel_rfl) (by kernel_rfl) (by kernel_rfl) (fun _ _ _ h => h) (Or.inl ⟨by kernel_rfl, fun W h => run_exec_load_whole 61 (.tmp 3) (by kernel_rfl) g4 (by kernel_rfl) W 61 #[.int .i64 0, .int .i64 1, .int .i64 1] (0, 0) _ h.2 lost_under rfl lost_info⟩) hS2 ?_
  try simp only [Act.put, List.setIfInBounds_toArray, List.set_cons_zero, List.set_cons_succ]
  refine wpAnyH_take (i := 9) (oi := { dst := some 36, op := Op.build 61 #[(1, Operand.const (Value.int IntKind.i64 1)), (2, Operand.const (Value.int IntKind.i64 1))], type := 61, pos := "law06.go:18", after := #[{ on := 7, ground := Ground.guard }], guard := some (7, true) }) (v := .agg #[.int .i64 0, .int .i64 1, .int .i64 1]) rfl (by kernel_rfl) (by kernel_rfl) (by kernel_rfl) (fun _ _ _ h => h) (Or.inl ⟨by kernel_rfl, fun W h => by first | kernel_rfl | go_simp⟩) hS2 ?_
  try simp only [Act.put, List.setIfInBounds_toArray, List.set_cons_zero, List.set_cons_succ]
  refine wpAnyH_take (i := 10) (oi := { dst := some 37, op := Op.binOp BinOp.eql 61 (Operand.tmp 35) (Operand.tmp 36) 61, type := 4, pos := "law06.go:18", after := #[{ on := 8, ground := Ground.data }, { on := 9, ground := Ground.data }, { on := 7, ground := Ground.guard }], guard := some (7, true) }) (v := .bool true) rfl (by kernel_rfl) (by kernel_rfl) (by kernel_rfl) (fun _ _ _ h => h) (Or.inl ⟨by kernel_rfl, fun W h => run_exec_eqv 61 61 (.tmp 35) (.tmp 36) (by kernel_rfl) #[.int .i64 0, .int .i64 1, .int .i64 1] #[.int .i64 0, .int .i64 1, .int .i64 1] (by kernel_rfl) (by kernel_rfl) _ (by kernel_rfl) (eqLost 0 1 1 0 1 1) W⟩) hS2 ?_
  try simp only [Act.put, List.setIfInBounds_toArray, List.set_cons_zero, List.set_cons_succ]
  refine wpAnyH_take (i := 11) (oi := { dst := some 38, op := Op.pick (Operand.tmp 34) (Operand.tmp 37) (Operand.const (Value.bool false)), type := 4, pos := "law06.go:18", after := #[{ on := 7, ground := Ground.data }, { on := 10, ground := Ground.data }], guard := none }) (v := .bool true) rfl (by kernel_rfl) (by kernel_rfl) (by kernel_rfl) (fun _ _ _ h => h) (Or.inl ⟨by kernel_rfl, fun W h => by first | kernel_rfl | go_simp⟩) hS2 ?_
  try simp only [Act.put, List.setIfInBounds_toArray, List.set_cons_zero, List.set_cons_succ]
  refine wpAnyH_take (i := 12) (oi := { dst := some 39, op := Op.move (Operand.tmp 38), type := 4, pos := "law06.go:18", after := #[{ on := 11, ground := Ground.data }, { on := 7, ground := Ground.chain }], guard := none }) (v := .bool true) rfl (by kernel_rfl) (by kernel_rfl) (by kernel_rfl) (fun _ _ _ h => h) (Or.inl ⟨by kernel_rfl, fun W h => by first | kernel_rfl | go_simp⟩) hS2 ?_
  try simp only [Act.put, List.setIfInBounds_toArray, List.set_cons_zero, List.set_cons_succ]
  refine wpAnyH_take (i := 13) (oi := { dst := some 40, op := Op.move (Operand.tmp 7), type := 3, pos := "law06.go:18", after := #[{ on := 12, ground := Ground.guard }], guard := some (12, true) }) (v := .int .i64 12) rfl (by kernel_rfl) (by kernel_rfl) (by kernel_rfl) (fun _ _ _ h => h) (Or.inl ⟨by kernel_rfl, fun W h => by first | kernel_rfl | go_simp⟩) hS2 ?_
  try simp only [Act.put, List.setIfInBounds_toArray, List.set_cons_zero, List.set_cons_succ]
  refine wpAnyH_take (i := 14) (oi := { dst := some 41, op := Op.binOp BinOp.eql 3 (Operand.tmp 40) (Operand.const (Value.int IntKind.i64 12)) 3, type := 4, pos := "law06.go:18", after := #[{ on := 13, ground := Ground.data }, { on := 12, ground := Ground.guard }], guard := some (12, true) }) (v := .bool true) rfl (by kernel_rfl) (by kernel_rfl) (by kernel_rfl) (fun _ _ _ h => h) (Or.inl ⟨by kernel_rfl, fun W h => by first | kernel_rfl | go_simp⟩) hS2 ?_
  try simp only [Act.put, List.setIfInBounds_toArray, List.set_cons_zero, List.set_cons_succ]
  refine wpAnyH_take (i := 15) (oi := { dst := some 42, op := Op.pick (Operand.tmp 39) (Operand.tmp 41) (Operand.const (Value.bool false)), type := 4, pos := "law06.go:18", after := #[{ on := 12, ground := Ground.data }, { on := 14, ground := Ground.data }], guard := none }) (v := .bool true) rfl (by kernel_rfl) (by kernel_rfl) (by kernel_rfl) (fun _ _ _ h => h) (Or.inl ⟨by kernel_rfl, fun W h => by first | kernel_rfl | go_simp⟩) hS2 ?_
  try simp only [Act.put, List.setIfInBounds_toArray, List.set_cons_zero, List.set_cons_succ]
  refine wpAnyH_take (i := 16) (oi := { dst := some 0, op := Op.assign (Operand.tmp 42), type := 4, pos := "law06.go:18", after := #[{ on := 15, ground := Ground.data }, { on := 12, ground := Ground.chain }, { on := 0, ground := Ground.phase }, { on := 1, ground := Ground.phase }, { on := 2, ground := Ground.phase }, { on := 3, ground := Ground.phase }, { on := 4, ground := Ground.phase }, { on := 5, ground := Ground.phase }, { on := 6, ground := Ground.phase }, { on := 7, ground := Ground.phase }, { on := 8, ground := Ground.phase }, { on := 9, ground := Ground.phase }, { on := 10, ground := Ground.phase }, { on := 11, ground := Ground.phase }, { on := 12, ground := Ground.phase }, { on := 13, ground := Ground.phase }, { on := 14, ground := Ground.phase }, { on := 15, ground := Ground.phase }], guard := none }) (v := .bool true) rfl (by kernel_rfl) (by kernel_rfl) (by kernel_rfl) (fun _ _ _ h => h) (Or.inl ⟨by kernel_rfl, fun W h => by first | kernel_rfl | go_simp⟩) hS2 ?_
  refine wpAnyH_done (by kernel_rfl) ?_ _
  go_wp2_with fail
  go_ret
  exact ⟨rfl, (unhide BA).below⟩
end Go.Proofs.Ytmlhalhjfcfagab
