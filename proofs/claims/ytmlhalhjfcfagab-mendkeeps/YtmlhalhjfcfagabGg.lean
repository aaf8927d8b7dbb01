/-
  The law MendKeeps: its walk. (Written by gengg.py.)
-/
import Derived.Test.YtmlhalhjfcfagabGe
import Derived.Test.YtmlhalhjfcfagabTp
import Derived.Deep.DeepCutAuto
import Derived.Deep.Cut
import Derived.Deep.CutRange
namespace Go.Proofs.Ytmlhalhjfcfagab
open Go.RowKit
theorem By.tail {w wr : World} {p : Nat × Array Value × TypeId} {l : List (Nat × Array Value × TypeId)} (h : By w wr (p :: l)) : By w wr l :=
  ⟨h.below, fun q hq => h.lo q (List.mem_cons_of_mem _ hq), fun q hq => h.row q (List.mem_cons_of_mem _ hq), by have := h.nd; rw [List.map_cons, List.nodup_cons] at this; exact this.2⟩
theorem By.drop2 {w wr : World} {p q r : Nat × Array Value × TypeId} {l : List (Nat × Array Value × TypeId)} (h : By w wr (p :: q :: r :: l)) : By w wr (p :: q :: l) := By.tail ((h.swap1).swap)
section
variable {P : Program}
theorem wpList_load_part_g {ops : Array Oper} {rest : List Oper} {o : Oper} {a : Act} {w : World} {Q : Exit → Act → World → Prop} (hw : Region.wanted o (yielded ops a.tmps) = true) (ty : TypeId) (x : Operand) (ho : o.op = .load ty x)
    (g off n : Nat) (hx : a.eval x = .pointer (some ⟨g, off, none⟩)) (t : TypeId) (cs : Array Value) (d : TypeDesc) (hg : w.heap[g]? = some (.cells cs t (0, 0)))
    (hu : P.underlying ty = some d) (hd : (match d with | .struct _ | .array _ _ => true | _ => false) = true) (hi : (P.info? ty).map (·.size) = some n) (hn : off + n ≤ cs.size)
    (h : wpList P ops Q rest (a.put o.dst (.agg (cs.extract off (off + n)))) w) : wpList P ops Q (o :: rest) a w :=
  BigFrame.wpList_want hw fun _ hK => by
    unfold Oper.wp execOp
    simp only [ho, hx, Instr.loadAt, Instr.sureAddr, Sem.run_bind, Sem.run_pure, Result.andThen_ok, run_loadVar_part w g off n t ty cs d hg hu hd hi hn]
    exact hK _ _ h
theorem run_exec_load_some {o : Oper} {ρ : Operand → Value} (ty : TypeId) (x : Operand) (ho : o.op = .load ty x) (g off n : Nat) (hx : ρ x = .pointer (some ⟨g, off, none⟩)) (w : World) (t : TypeId) (cs vs : Array Value) (d : TypeDesc)
    (hg : w.heap[g]? = some (.cells cs t (0, 0))) (hu : P.underlying ty = some d) (hd : (match d with | .struct _ | .array _ _ => true | _ => false) = true) (hi : (P.info? ty).map (·.size) = some n) (hn : off + n ≤ cs.size) (hv : cs.extract off (off + n) = vs) :
    (execOp ρ o).run P w = .ok (.value (.agg vs)) w := by
  subst hv
  unfold execOp
  simp only [ho, hx, Instr.loadAt, Instr.sureAddr, Sem.run_bind, Sem.run_pure, Result.andThen_ok, run_loadVar_part w g off n t ty cs d hg hu hd hi hn]
end
theorem dirs_under : Try.prog.underlying 29 = some (.array 3 28) := by kernel_rfl
theorem dirs_info : (Try.prog.info? 29).map (·.size) = some 36 := by kernel_rfl
theorem neqlDirs {cs ds : Array Value} {m k : Img} (h : IsImg cs m) (h' : IsImg ds k) (w : World) : (binOp .neq 29 (.agg (cs.extract 40 (40 + 36))) (.agg (ds.extract 40 (40 + 36)))).run Try.prog w = .ok (.bool (!((List.range 3).all fun e => Img.sameDir m k e))) w := by
  rw [run_neq_struct, eqDirs_v h h' 9996 w]; rfl
theorem neqlParts (a b c e : Int) (w : World) : (binOp .neq 22 (.agg #[.int .i64 a, .int .i64 b]) (.agg #[.int .i64 c, .int .i64 e])).run Try.prog w = .ok (.bool (!(a == c && b == e))) w := by
  rw [run_neq_struct, eqParts_v 9998 a b c e w]; rfl
theorem dirs_same (m : Img) : (!((List.range 3).all fun e => Img.sameDir (Img.mend m) m e)) = false := by
  obtain ⟨h1, h2, h3⟩ := Img.mend_dirs m
  have : ((List.range 3).all fun e => Img.sameDir (Img.mend m) m e) = true := by
    rw [List.all_eq_true]
    intro e _
    unfold Img.sameDir
    rw [List.all_eq_true]
    intro s _
    unfold Img.sameEnt
    rw [h1, h2, h3]; simp
  rw [this]; rfl
theorem ent_info3 : (Try.prog.info? 27).map (·.size) = some 3 := by kernel_rfl
theorem ino_info5 : (Try.prog.info? 24).map (·.size) = some 5 := by kernel_rfl
def inoA (m : Img) (n : Nat) : Array Value := #[.bool (m.live n), .int .i64 (m.stamp n), .int .i64 (m.links n), .int .i64 (m.part n 0), .int .i64 (m.part n 1)]
theorem inoA_row {cs : Array Value} {m : Img} (h : IsImg cs m) {n : Nat} (hn : n < 8) : cs.extract (n * 5) (n * 5 + 5) = inoA m n :=
  cut5 (h.live n hn) (h.stamp n hn) (h.links n hn) (h.part n 0 hn (by omega)) (h.part n 1 hn (by omega))
theorem inoA_info (m : Img) (n : Nat) : (Try.prog.info? 24).map (·.size) = some (inoA m n).size := ino_info5
theorem inoA_all (m : Img) (n : Nat) : (inoA m n).all (·.oneCell') = true := by kernel_rfl
def inoM0 : Array Value := #[.bool false, .int .i64 0, .int .i64 0, .int .i64 0, .int .i64 0]
theorem zero_ino (w : World) : (zeroValue 24).run Try.prog w = .ok (.agg inoM0) w := by kernel_rfl
theorem Mo.ix_ino {o : Oper} {ρ : Operand → Value} (x y : Operand) (ho : o.op = .indexAddr 25 x y) {g j : Nat} (hx : ρ x = .pointer (some ⟨g, 0, none⟩)) (hy : ρ y = .int .i64 ((j : Nat) : Int)) (hj : j < 8) (w : World) : (execOp ρ o).run Try.prog w = .ok (.value (.pointer (some ⟨g, j * 5, none⟩))) w := by
  have jz : (j : Int) < 8 := by omega
  unfold execOp
  rw [ho]
  go_simp
theorem Mo.ld_int {o : Oper} {ρ : Operand → Value} (x : Operand) (ho : o.op = .load 3 x) {g o0 : Nat} (hx : ρ x = .pointer (some ⟨g, o0, none⟩)) {v : Int} (w : World) (h : w.cell? ⟨g, o0, none⟩ = some (.int .i64 v)) : (execOp ρ o).run Try.prog w = .ok (.value (.int .i64 v)) w := by
  unfold execOp
  rw [ho]
  go_simp
set_option maxRecDepth 100000 in
set_option maxHeartbeats 8000000 in
theorem mendKeeps_any (cs : Array Value) (hk : Kinds cs) (w : World) :
    Calls Try.prog 9 #[.agg cs] w fun e w' => e = .returned (.bool true) ∧ Below w.heap.size w w' := by
  have hi := hk.isImg
  have z := zero_img.1
  have bz := build_img
  have zz := zero_sz
  have B0 := hide ((By.start w).box cs 34)
  go_enter Try.func9, Try.ntmps9
  go_wp2_with fail
  generalize w.alloc (.cells cs 34) = X0 at B0 ⊢
  generalize w.heap.size = g1 at B0 ⊢
  refine (mendBegun_any _).mono ?_
  rintro e w1 ⟨rfl, hb1⟩
  have B1 := hide ((unhide B0).call hb1)
  clear B0 hb1
  have r1 := hide ((unhide B1).row (g1, cs, 34) (List.mem_cons_self ..))
  go_wp2_with (have hx := unhide r1; refine wpList_load_row rfl 34 _ rfl g1 rfl 34 cs (0, 0) _ hx img_under rfl (img_info hi.size) ?_; clear hx r1)
  refine (great_any cs _ hi _).mono ?_
  rintro e w2 ⟨⟨v, rfl⟩, hb2⟩
  have B2 := hide ((unhide B1).call hb2)
  clear B1 hb2
  cases v
  case true =>
    go_wp2_with fail
    go_ret
    exact ⟨rfl, (unhide B2).below⟩
  have r2 := hide ((unhide B2).row (g1, cs, 34) (List.mem_cons_self ..))
  go_wp2_with (have hx := unhide r2; refine wpList_load_row rfl 34 _ rfl g1 rfl 34 cs (0, 0) _ hx img_under rfl (img_info hi.size) ?_; clear hx r2)
  refine (mend_any cs _ hi _).mono ?_
  rintro e w3 ⟨hme, hb3⟩
  have B3 := hide ((unhide B2).call hb3)
  clear B2 hb3
  rcases hme with ⟨hc, c3, i3, rfl⟩ | ⟨hc, rfl⟩
  case inr =>
    have hcn : ((imgOf cs).check != 0) = true := by simpa using hc
    have QZ := eqImg zero_kinds'.isImg
    have CK0 := hide fun W (h : HasImg W g1 (imgOf cs)) => check_any g1 (imgOf cs) W h
    clear hc
    generalize (imgOf cs).check = cd at hcn CK0 ⊢
    have qcd : (cd == cd) = true := by simp
    unfold lostA
    have B4 := hide ((unhide B3).pair zeroCells (.int .i64 0) (.int .i64 0) (.int .i64 0))
    have T2 := two2 w3 zeroCells
    have s1 := hide T2.r0
    have c0 := T2.cells 0 (by omega)
    have c1 := T2.cells 1 (by omega)
    have c2 := T2.cells 2 (by omega)
    have fz := T2.fz
    clear T2 B3
    go_wp2_with (have hx := unhide s1; refine wpList_store_row rfl 34 _ _ rfl w3.heap.size zeroCells rfl rfl 34 zeroCells hx (img_info zz) (rfl) (zero_kinds'.isImg.all) ?_; clear hx s1; generalize ((w3.alloc (.cells zeroCells 34)).alloc (.cells #[.int .i64 0, .int .i64 0, .int .i64 0] 61)).setRow w3.heap.size zeroCells = Yw3 at B4 c0 c1 c2 fz ⊢)
    have CK := unhide CK0 _ ((unhide B4).has (g := g1) (c := cs) (by simp) hi)
    refine CK.mono ?_
    rintro e w4 ⟨rfl, hb4⟩
    have B5 := hide ((unhide B4).call hb4)
    clear hb4 B4 CK CK0 c0 c1 c2 fz
    have r5 := hide ((unhide B5).row (w3.heap.size, zeroCells, 34) (by simp))
    go_wp2_with (have hx := unhide r5; refine wpList_load_row_g rfl 34 _ rfl w3.heap.size rfl 34 zeroCells (0, 0) _ hx img_under rfl (img_info zz) ?_; clear hx r5)
    go_ret
    exact ⟨rfl, (unhide B5).below⟩
  case inl =>
    obtain ⟨m, em⟩ : ∃ m, m = imgOf cs := ⟨_, rfl⟩
    rw [← em] at hc hi i3 ⊢
    clear em hk
    unfold lostA
    have HC := hide hc
    clear hc
    have z1 := hi.size
    have z3 := i3.size
    obtain ⟨nf, ef⟩ : ∃ n : Int, n = (Img.lostF m : Nat) := ⟨_, rfl⟩
    obtain ⟨nc, ec⟩ : ∃ n : Int, n = (Img.lostC m : Nat) := ⟨_, rfl⟩
    obtain ⟨nd, ed⟩ : ∃ n : Int, n = (Img.lostD m : Nat) := ⟨_, rfl⟩
    rw [← ef, ← ec, ← ed]
    clear ef ec ed
    have B4 := hide ((unhide B3).pair c3 (.int .i64 nf) (.int .i64 nc) (.int .i64 nd))
    have T2 := two2 w3 c3
    have s1 := hide T2.r0
    have c0 := T2.cells 0 (by omega)
    have c1 := T2.cells 1 (by omega)
    have c2 := T2.cells 2 (by omega)
    have fz := T2.fz
    clear T2 B3
    go_wp2_with (have hx := unhide s1; refine wpList_store_row rfl 34 _ _ rfl w3.heap.size c3 rfl rfl 34 zeroCells hx (img_info z3) (zero_size i3) (i3.all) ?_; clear hx s1; generalize ((w3.alloc (.cells zeroCells 34)).alloc (.cells #[.int .i64 0, .int .i64 0, .int .i64 0] 61)).setRow w3.heap.size c3 = Yw3 at B4 c0 c1 c2 fz ⊢)
    generalize ((Yw3.setCell ⟨w3.heap.size + 1, 0, none⟩ (.int .i64 nf)).setCell ⟨w3.heap.size + 1, 1, none⟩ (.int .i64 nc)).setCell ⟨w3.heap.size + 1, 2, none⟩ (.int .i64 nd) = X4 at B4 ⊢
    generalize w3.heap.size + 1 = g4 at B4 ⊢
    generalize w3.heap.size = g3 at B4 ⊢
    clear c0 c1 c2 fz
    have EX := hide (exact_any g3 (Img.mend m) X4 ((unhide B4).has (g := g3) (c := c3) (by simp) i3))
    rw [Img.ex_iff.2 (Img.mend_ex (unhide HC))] at EX
    refine (unhide EX).mono ?_
    rintro e w4 ⟨rfl, hb4⟩
    have B5 := hide ((unhide B4).call hb4)
    clear hb4 B4 EX
    have r3 := hide ((unhide B5).row (g3, c3, 34) (by simp))
    have r1 := hide ((unhide B5).row (g1, cs, 34) (by simp))
    have QS := neqlDirs i3 hi
    rw [dirs_same] at QS
    go_wp2_with (first | (have hx := unhide r3; refine wpList_load_part_g rfl 29 _ rfl g3 40 36 rfl 34 c3 _ hx dirs_under rfl dirs_info (by omega) ?_; clear hx r3) | (have hx := unhide r1; refine wpList_load_part_g rfl 29 _ rfl g1 40 36 rfl 34 cs _ hx dirs_under rfl dirs_info (by omega) ?_; clear hx r1))
    clear QS
    go_loopw [6] (fun i wr => ∃ d : Nat, d ≤ 3 ∧ i = .int .i64 d ∧ Hid (By w wr ((g4, #[.int .i64 nf, .int .i64 nc, .int .i64 nd], 61) :: (g3, c3, 34) :: (g1, cs, 34) :: []))) (fun i _ => 3 - (intOf i).toNat)
    case atStart => exact ⟨0, by omega, rfl, B5⟩
    case round =>
      clear B5
      obtain ⟨d, hd3, rfl, BD⟩ := hrel
      by_cases hd : d < 3
      case pos =>
        have t3 : decide ((d : Int) < 3) = true := by simp; omega
        have jd : (d : Int) < 3 := by omega
        go_wp2_with fail
        go_loopw [7] (fun i wr => ∃ s : Nat, s ≤ 4 ∧ i = .int .i64 s ∧ Hid (By w wr ((g4, #[.int .i64 nf, .int .i64 nc, .int .i64 nd], 61) :: (g3, c3, 34) :: (g1, cs, 34) :: []))) (fun i _ => 4 - (intOf i).toNat)
        case atStart => exact ⟨0, by omega, rfl, BD⟩
        case round =>
          clear BD
          obtain ⟨s, hs4, rfl, BS⟩ := hrel
          by_cases hs : s < 4
          case pos =>
            have t4 : decide ((s : Int) < 4) = true := by simp; omega
            have js : (s : Int) < 4 := by omega
            have h1 := (unhide BS).has (g := g1) (c := cs) (by simp) hi
            have e1 := h1.name d s hd hs
            have e2 := h1.ino d s hd hs
            have e3 := h1.est d s hd hs
            have NK := hide (Img.named_kept (unhide HC) hd hs)
            have hnm : m.named d s = !(m.name d s).toList.isEmpty := rfl
            clear h1
            have BE := hide ((unhide BS).box #[.string (m.name d s), .int .i64 (m.ino d s), .int .i64 (m.est d s)] 27)
            cases hne : (m.name d s).toList.isEmpty
            case true =>
              clear NK hnm
              go_wp2_with fail
              go_roundw
              case rel => exact ⟨s + 1, by omega, by go_num, hide (By.tail (unhide BE))⟩
              case measure => simp [intOf]; omega
            case false =>
              rw [hne] at hnm
              obtain ⟨n, hN⟩ := unhide NK (by rw [hnm]; rfl)
              have n8 := hN.n8
              rw [hN.ino] at BE e2
              have HN := hide hN
              clear hN NK hnm
              have u1 : decide (((n : Nat) : Int) < 0) = false := by simp
              have u2 : decide (8 ≤ ((n : Nat) : Int)) = false := by simp; omega
              go_wp2_with fail
              generalize hX : wr.alloc (.cells #[.string (m.name d s), .int .i64 (n : Nat), .int .i64 (m.est d s)] 27) = X6 at BE ⊢
              generalize wr.heap.size = g8 at BE ⊢
              clear hX hne e1 e2 e3 u1 u2 BS
              go_cut [9, 10] (fun p q wx => ∃ g9 g10, p = .pointer (some ⟨g9, 0, none⟩) ∧ q = .pointer (some ⟨g10, 0, none⟩) ∧ Hid (By w wx ((g10, inoA (Img.mend m) n, 24) :: (g9, inoA m n, 24) :: (g4, #[.int .i64 nf, .int .i64 nc, .int .i64 nd], 61) :: (g3, c3, 34) :: (g1, cs, 34) :: [])))
              case first =>
                have zN := zero_ino
                have SK := hide (show ∀ W, By w W ((g8, #[.string (m.name d s), .int .i64 (n : Nat), .int .i64 (m.est d s)], 27) :: (g4, #[.int .i64 nf, .int .i64 nc, .int .i64 nd], 61) :: (g3, c3, 34) :: (g1, cs, 34) :: []) → (fun W : World => W.heap[g1]? = some (.cells cs 34) ∧ W.heap[g3]? = some (.cells c3 34) ∧ W.cell? ⟨g8, 1, none⟩ = some (.int .i64 (n : Nat))) W from fun W h => ⟨h.row (g1, cs, 34) (by simp), h.row (g3, c3, 34) (by simp), by rw [cell_of_row _ _ _ _ _ _ (h.row (g8, _, 27) (.head _))]; rfl⟩)
                have SL := hide (show ∀ W g l, By w W ((g, l) :: ((g8, #[.string (m.name d s), .int .i64 (n : Nat), .int .i64 (m.est d s)], 27) :: (g4, #[.int .i64 nf, .int .i64 nc, .int .i64 nd], 61) :: (g3, c3, 34) :: (g1, cs, 34) :: [])) → (fun W : World => W.heap[g1]? = some (.cells cs 34) ∧ W.heap[g3]? = some (.cells c3 34) ∧ W.cell? ⟨g8, 1, none⟩ = some (.int .i64 (n : Nat))) W from fun W g l h => unhide SK W (By.tail h))
                have SM := hide (show ∀ W g l g' l', By w W ((g, l) :: (g', l') :: ((g8, #[.string (m.name d s), .int .i64 (n : Nat), .int .i64 (m.est d s)], 27) :: (g4, #[.int .i64 nf, .int .i64 nc, .int .i64 nd], 61) :: (g3, c3, 34) :: (g1, cs, 34) :: [])) → (fun W : World => W.heap[g1]? = some (.cells cs 34) ∧ W.heap[g3]? = some (.cells c3 34) ∧ W.cell? ⟨g8, 1, none⟩ = some (.int .i64 (n : Nat))) W from fun W g l g' l' h => unhide SK W (By.tail (By.tail h)))
                have B0 := hide ((unhide BE).call ((Below.refl _ X6).drew))
                have S0 := unhide SK _ (unhide B0)
                clear BE
                refine wp_region_held_drew (S := fun W : World => W.heap[g1]? = some (.cells cs 34) ∧ W.heap[g3]? = some (.cells c3 34) ∧ W.cell? ⟨g8, 1, none⟩ = some (.int .i64 (n : Nat))) (by kernel_rfl) (S0) (fun hS => ?_)
                refine wpAnyH_take (i := 0) (oi := { dst := some 69, op := Op.fieldAddr 27 (Operand.tmp 8) 1, type := 0, pos := "law06.go:58", after := #[], guard := none }) (v := .pointer (some ⟨g8, 1, none⟩)) rfl (by kernel_rfl) (by kernel_rfl) (by kernel_rfl) (fun _ _ _ h => h) (Or.inl ⟨by kernel_rfl, fun W h => (by first | kernel_rfl | go_simp)⟩) hS ?_
                try simp only [Act.put, List.setIfInBounds_toArray, List.set_cons_zero, List.set_cons_succ]
                refine wpAnyH_take (i := 1) (oi := { dst := some 70, op := Op.load 3 (Operand.tmp 69), type := 3, pos := "law06.go:58", after := #[{ on := 0, ground := Ground.data }], guard := none }) (v := .int .i64 (n : Nat)) rfl (by kernel_rfl) (by kernel_rfl) (by kernel_rfl) (fun _ _ _ h => h) (Or.inl ⟨by kernel_rfl, fun W h => Mo.ld_int (.tmp 69) (by kernel_rfl) (by kernel_rfl) W (h.2.2)⟩) hS ?_
                try simp only [Act.put, List.setIfInBounds_toArray, List.set_cons_zero, List.set_cons_succ]
                refine wpAnyH_take (i := 2) (oi := { dst := some 71, op := Op.fieldAddr 34 (Operand.tmp 1) 0, type := 0, pos := "law06.go:58", after := #[], guard := none }) (v := .pointer (some ⟨g1, 0, none⟩)) rfl (by kernel_rfl) (by kernel_rfl) (by kernel_rfl) (fun _ _ _ h => h) (Or.inl ⟨by kernel_rfl, fun W h => (by first | kernel_rfl | go_simp)⟩) hS ?_
                try simp only [Act.put, List.setIfInBounds_toArray, List.set_cons_zero, List.set_cons_succ]
                refine wpAnyH_take (i := 3) (oi := { dst := some 72, op := Op.indexAddr 25 (Operand.tmp 71) (Operand.tmp 70), type := 0, pos := "law06.go:58", after := #[{ on := 2, ground := Ground.data }, { on := 1, ground := Ground.data }], guard := none }) (v := .pointer (some ⟨g1, n * 5, none⟩)) rfl (by kernel_rfl) (by kernel_rfl) (by kernel_rfl) (fun _ _ _ h => h) (Or.inl ⟨by kernel_rfl, fun W h => Mo.ix_ino (.tmp 71) (.tmp 70) (by kernel_rfl) (by kernel_rfl) (by kernel_rfl) n8 W⟩) hS ?_
                try simp only [Act.put, List.setIfInBounds_toArray, List.set_cons_zero, List.set_cons_succ]
                refine wpAnyH_take (i := 4) (oi := { dst := some 73, op := Op.load 24 (Operand.tmp 72), type := 24, pos := "law06.go:58", after := #[{ on := 3, ground := Ground.data }], guard := none }) (v := .agg (inoA m n)) rfl (by kernel_rfl) (by kernel_rfl) (by kernel_rfl) (fun _ _ _ h => h) (Or.inl ⟨by kernel_rfl, fun W h => run_exec_load_some 24 (.tmp 72) (by kernel_rfl) g1 (n * 5) 5 (by kernel_rfl) W 34 cs (inoA m n) _ (h.1) ino_under rfl ino_info5 (by omega) (inoA_row hi n8)⟩) hS ?_
                try simp only [Act.put, List.setIfInBounds_toArray, List.set_cons_zero, List.set_cons_succ]
                refine wpAnyH_take (i := 5) (oi := { dst := some 74, op := Op.fieldAddr 27 (Operand.tmp 8) 1, type := 0, pos := "law06.go:58", after := #[{ on := 12, ground := Ground.gcOnly Departure.lateStores }], guard := none }) (v := .pointer (some ⟨g8, 1, none⟩)) rfl (by kernel_rfl) (by kernel_rfl) (by kernel_rfl) (fun _ _ _ h => h) (Or.inl ⟨by kernel_rfl, fun W h => (by first | kernel_rfl | go_simp)⟩) hS ?_
                try simp only [Act.put, List.setIfInBounds_toArray, List.set_cons_zero, List.set_cons_succ]
                refine wpAnyH_take (i := 6) (oi := { dst := some 75, op := Op.load 3 (Operand.tmp 74), type := 3, pos := "law06.go:58", after := #[{ on := 5, ground := Ground.data }, { on := 12, ground := Ground.gcOnly Departure.lateStores }], guard := none }) (v := .int .i64 (n : Nat)) rfl (by kernel_rfl) (by kernel_rfl) (by kernel_rfl) (fun _ _ _ h => h) (Or.inl ⟨by kernel_rfl, fun W h => Mo.ld_int (.tmp 74) (by kernel_rfl) (by kernel_rfl) W (h.2.2)⟩) hS ?_
                try simp only [Act.put, List.setIfInBounds_toArray, List.set_cons_zero, List.set_cons_succ]
                refine wpAnyH_take (i := 7) (oi := { dst := some 76, op := Op.fieldAddr 34 (Operand.tmp 3) 0, type := 0, pos := "law06.go:58", after := #[{ on := 12, ground := Ground.gcOnly Departure.lateStores }], guard := none }) (v := .pointer (some ⟨g3, 0, none⟩)) rfl (by kernel_rfl) (by kernel_rfl) (by kernel_rfl) (fun _ _ _ h => h) (Or.inl ⟨by kernel_rfl, fun W h => (by first | kernel_rfl | go_simp)⟩) hS ?_
                try simp only [Act.put, List.setIfInBounds_toArray, List.set_cons_zero, List.set_cons_succ]
                refine wpAnyH_take (i := 8) (oi := { dst := some 77, op := Op.indexAddr 25 (Operand.tmp 76) (Operand.tmp 75), type := 0, pos := "law06.go:58", after := #[{ on := 7, ground := Ground.data }, { on := 6, ground := Ground.data }, { on := 12, ground := Ground.gcOnly Departure.lateStores }], guard := none }) (v := .pointer (some ⟨g3, n * 5, none⟩)) rfl (by kernel_rfl) (by kernel_rfl) (by kernel_rfl) (fun _ _ _ h => h) (Or.inl ⟨by kernel_rfl, fun W h => Mo.ix_ino (.tmp 76) (.tmp 75) (by kernel_rfl) (by kernel_rfl) (by kernel_rfl) n8 W⟩) hS ?_
                try simp only [Act.put, List.setIfInBounds_toArray, List.set_cons_zero, List.set_cons_succ]
                refine wpAnyH_take (i := 9) (oi := { dst := some 78, op := Op.load 24 (Operand.tmp 77), type := 24, pos := "law06.go:58", after := #[{ on := 8, ground := Ground.data }, { on := 12, ground := Ground.gcOnly Departure.lateStores }], guard := none }) (v := .agg (inoA (Img.mend m) n)) rfl (by kernel_rfl) (by kernel_rfl) (by kernel_rfl) (fun _ _ _ h => h) (Or.inl ⟨by kernel_rfl, fun W h => run_exec_load_some 24 (.tmp 77) (by kernel_rfl) g3 (n * 5) 5 (by kernel_rfl) W 34 c3 (inoA (Img.mend m) n) _ (h.2.1) ino_under rfl ino_info5 (by omega) (inoA_row i3 n8)⟩) hS ?_
                try simp only [Act.put, List.setIfInBounds_toArray, List.set_cons_zero, List.set_cons_succ]
                generalize X6.drew = W0 at B0 hS ⊢
                refine wpAnyH_ready (rs := [10, 11]) (by kernel_rfl) (by simp) ?_
                refine (AllReadyH.cons (o := { dst := some 9, op := Op.alloc 24, type := 0, pos := "law06.go:58", after := #[], guard := none }) rfl (fun K hK => ?_) (AllReadyH.cons (o := { dst := some 10, op := Op.alloc 24, type := 0, pos := "law06.go:58", after := #[], guard := none }) rfl (fun K hK => ?_) AllReadyH.nil))
                · rw [if_pos (by kernel_rfl)]
                  go_simp
                  have B1 := hide ((unhide B0).box inoM0 24)
                  refine hK.out _ _ (unhide SL _ _ _ (unhide B1)) (fun hS1 => ?_)
                  clear hK K
                  try simp only [Act.put, List.setIfInBounds_toArray, List.set_cons_zero, List.set_cons_succ]
                  generalize W0.alloc (.cells inoM0 24) = V1 at B1 hS1 ⊢
                  generalize W0.heap.size = h1 at B1 ⊢
                  refine wpAnyH_ready (rs := [11]) (by kernel_rfl) (by simp) ?_
                  refine (AllReadyH.cons (o := { dst := some 10, op := Op.alloc 24, type := 0, pos := "law06.go:58", after := #[], guard := none }) rfl (fun K hK => ?_) AllReadyH.nil)
                  · rw [if_pos (by kernel_rfl)]
                    go_simp
                    have B2 := hide ((unhide B1).box inoM0 24)
                    refine hK.out _ _ (unhide SM _ _ _ _ _ (unhide B2)) (fun hS2 => ?_)
                    clear hK K
                    try simp only [Act.put, List.setIfInBounds_toArray, List.set_cons_zero, List.set_cons_succ]
                    generalize V1.alloc (.cells inoM0 24) = V2 at B2 hS2 ⊢
                    generalize V1.heap.size = h2 at B2 ⊢
                    have R9 := (unhide B2).row (h1, inoM0, 24) (by simp)
                    have B3a := hide ((unhide B2).mut1 (Mv.row' R9 (inoA m n)))
                    refine wpAnyH_ready (rs := [12]) (by kernel_rfl) (by simp) ?_
                    refine AllReadyH.cons (o := { dst := none, op := Op.store 24 (Operand.tmp 9) (Operand.tmp 73), type := 0, pos := "law06.go:58", after := #[{ on := 10, ground := Ground.data }, { on := 4, ground := Ground.data }, { on := 0, ground := Ground.phase }, { on := 1, ground := Ground.phase }, { on := 2, ground := Ground.phase }, { on := 3, ground := Ground.phase }, { on := 4, ground := Ground.phase }, { on := 5, ground := Ground.textOnly Departure.lateStores }, { on := 6, ground := Ground.textOnly Departure.lateStores }, { on := 7, ground := Ground.textOnly Departure.lateStores }, { on := 8, ground := Ground.textOnly Departure.lateStores }, { on := 9, ground := Ground.textOnly Departure.lateStores }, { on := 10, ground := Ground.phase }, { on := 11, ground := Ground.phase }], guard := none }) rfl (fun K hK => ?_) AllReadyH.nil
                    rw [if_pos (by kernel_rfl)]
                    refine wp_store_row 24 (.tmp 9) (.tmp 73) rfl h1 (inoA m n) (by kernel_rfl) (by kernel_rfl) 24 inoM0 R9 (inoA_info _ _) rfl (inoA_all _ _) ?_
                    generalize V2.setRow h1 (inoA m n) = V2a at B3a ⊢
                    refine hK.out _ _ (unhide SM _ _ _ _ _ (unhide B3a)) (fun hS3a => ?_)
                    clear hK K
                    try simp only [Act.put]
                    have R10 := (unhide B3a).row (h2, inoM0, 24) (by simp)
                    have B3b := hide ((unhide B3a).mut0 (Mv.row' R10 (inoA (Img.mend m) n)))
                    refine wpAnyH_ready (rs := [13]) (by kernel_rfl) (by simp) ?_
                    refine AllReadyH.cons (o := { dst := none, op := Op.store 24 (Operand.tmp 10) (Operand.tmp 78), type := 0, pos := "law06.go:58", after := #[{ on := 11, ground := Ground.data }, { on := 9, ground := Ground.data }, { on := 12, ground := Ground.chain }, { on := 0, ground := Ground.phase }, { on := 1, ground := Ground.phase }, { on := 2, ground := Ground.phase }, { on := 3, ground := Ground.phase }, { on := 4, ground := Ground.phase }, { on := 5, ground := Ground.phase }, { on := 6, ground := Ground.phase }, { on := 7, ground := Ground.phase }, { on := 8, ground := Ground.phase }, { on := 9, ground := Ground.phase }, { on := 10, ground := Ground.phase }, { on := 11, ground := Ground.phase }, { on := 12, ground := Ground.phase }], guard := none }) rfl (fun K hK => ?_) AllReadyH.nil
                    rw [if_pos (by kernel_rfl)]
                    refine wp_store_row 24 (.tmp 10) (.tmp 78) rfl h2 (inoA (Img.mend m) n) (by kernel_rfl) (by kernel_rfl) 24 inoM0 R10 (inoA_info _ _) rfl (inoA_all _ _) ?_
                    generalize V2a.setRow h2 (inoA (Img.mend m) n) = V2b at B3b ⊢
                    refine hK.out _ _ (unhide SM _ _ _ _ _ (unhide B3b)) (fun hS3b => ?_)
                    clear hK K
                    try simp only [Act.put]
                    refine wpAnyH_done (by kernel_rfl) ?_ _
                    go_wp2_with fail
                    go_meet
                    exact ⟨h1, h2, rfl, rfl, hide (By.drop2 ((unhide B3b)))⟩
                · rw [if_pos (by kernel_rfl)]
                  go_simp
                  have B4 := hide ((unhide B0).box inoM0 24)
                  refine hK.out _ _ (unhide SL _ _ _ (unhide B4)) (fun hS4 => ?_)
                  clear hK K
                  try simp only [Act.put, List.setIfInBounds_toArray, List.set_cons_zero, List.set_cons_succ]
                  generalize W0.alloc (.cells inoM0 24) = V4 at B4 hS4 ⊢
                  generalize W0.heap.size = h4 at B4 ⊢
                  refine wpAnyH_ready (rs := [10]) (by kernel_rfl) (by simp) ?_
                  refine (AllReadyH.cons (o := { dst := some 9, op := Op.alloc 24, type := 0, pos := "law06.go:58", after := #[], guard := none }) rfl (fun K hK => ?_) AllReadyH.nil)
                  · rw [if_pos (by kernel_rfl)]
                    go_simp
                    have B5 := hide ((unhide B4).box inoM0 24)
                    refine hK.out _ _ (unhide SM _ _ _ _ _ (unhide B5)) (fun hS5 => ?_)
                    clear hK K
                    try simp only [Act.put, List.setIfInBounds_toArray, List.set_cons_zero, List.set_cons_succ]
                    generalize V4.alloc (.cells inoM0 24) = V5 at B5 hS5 ⊢
                    generalize V4.heap.size = h5 at B5 ⊢
                    have R9 := (unhide B5).row (h5, inoM0, 24) (by simp)
                    have B6a := hide ((unhide B5).mut0 (Mv.row' R9 (inoA m n)))
                    refine wpAnyH_ready (rs := [12]) (by kernel_rfl) (by simp) ?_
                    refine AllReadyH.cons (o := { dst := none, op := Op.store 24 (Operand.tmp 9) (Operand.tmp 73), type := 0, pos := "law06.go:58", after := #[{ on := 10, ground := Ground.data }, { on := 4, ground := Ground.data }, { on := 0, ground := Ground.phase }, { on := 1, ground := Ground.phase }, { on := 2, ground := Ground.phase }, { on := 3, ground := Ground.phase }, { on := 4, ground := Ground.phase }, { on := 5, ground := Ground.textOnly Departure.lateStores }, { on := 6, ground := Ground.textOnly Departure.lateStores }, { on := 7, ground := Ground.textOnly Departure.lateStores }, { on := 8, ground := Ground.textOnly Departure.lateStores }, { on := 9, ground := Ground.textOnly Departure.lateStores }, { on := 10, ground := Ground.phase }, { on := 11, ground := Ground.phase }], guard := none }) rfl (fun K hK => ?_) AllReadyH.nil
                    rw [if_pos (by kernel_rfl)]
                    refine wp_store_row 24 (.tmp 9) (.tmp 73) rfl h5 (inoA m n) (by kernel_rfl) (by kernel_rfl) 24 inoM0 R9 (inoA_info _ _) rfl (inoA_all _ _) ?_
                    generalize V5.setRow h5 (inoA m n) = V5a at B6a ⊢
                    refine hK.out _ _ (unhide SM _ _ _ _ _ (unhide B6a)) (fun hS6a => ?_)
                    clear hK K
                    try simp only [Act.put]
                    have R10 := (unhide B6a).row (h4, inoM0, 24) (by simp)
                    have B6b := hide ((unhide B6a).mut1 (Mv.row' R10 (inoA (Img.mend m) n)))
                    refine wpAnyH_ready (rs := [13]) (by kernel_rfl) (by simp) ?_
                    refine AllReadyH.cons (o := { dst := none, op := Op.store 24 (Operand.tmp 10) (Operand.tmp 78), type := 0, pos := "law06.go:58", after := #[{ on := 11, ground := Ground.data }, { on := 9, ground := Ground.data }, { on := 12, ground := Ground.chain }, { on := 0, ground := Ground.phase }, { on := 1, ground := Ground.phase }, { on := 2, ground := Ground.phase }, { on := 3, ground := Ground.phase }, { on := 4, ground := Ground.phase }, { on := 5, ground := Ground.phase }, { on := 6, ground := Ground.phase }, { on := 7, ground := Ground.phase }, { on := 8, ground := Ground.phase }, { on := 9, ground := Ground.phase }, { on := 10, ground := Ground.phase }, { on := 11, ground := Ground.phase }, { on := 12, ground := Ground.phase }], guard := none }) rfl (fun K hK => ?_) AllReadyH.nil
                    rw [if_pos (by kernel_rfl)]
                    refine wp_store_row 24 (.tmp 10) (.tmp 78) rfl h4 (inoA (Img.mend m) n) (by kernel_rfl) (by kernel_rfl) 24 inoM0 R10 (inoA_info _ _) rfl (inoA_all _ _) ?_
                    generalize V5a.setRow h4 (inoA (Img.mend m) n) = V5b at B6b ⊢
                    refine hK.out _ _ (unhide SM _ _ _ _ _ (unhide B6b)) (fun hS6b => ?_)
                    clear hK K
                    try simp only [Act.put]
                    refine wpAnyH_done (by kernel_rfl) ?_ _
                    go_wp2_with fail
                    go_meet
                    exact ⟨h5, h4, rfl, rfl, hide (By.drop2 ((unhide B6b).swap))⟩
              case rest =>
                obtain ⟨g9, g10, rfl, rfl, BN⟩ := hcut
                clear BE
                have r9 := (unhide BN).row (g9, inoA m n, 24) (by simp)
                have r10 := (unhide BN).row (g10, inoA (Img.mend m) n, 24) (by simp)
                have q0 : wc.cell? ⟨g10, 0, none⟩ = some (.bool true) := by rw [cell_of_row _ _ _ _ _ _ r10, ← (unhide HN).live]; rfl
                have q1 : wc.cell? ⟨g9, 1, none⟩ = some (.int .i64 (m.stamp n)) := by rw [cell_of_row _ _ _ _ _ _ r9]; rfl
                have q2 : wc.cell? ⟨g10, 1, none⟩ = some (.int .i64 (m.stamp n)) := by rw [cell_of_row _ _ _ _ _ _ r10, ← (unhide HN).stamp]; rfl
                have q3 : wc.cell? ⟨g9, 3, none⟩ = some (.int .i64 (m.part n 0)) := by rw [cell_of_row _ _ _ _ _ _ r9]; rfl
                have q4 : wc.cell? ⟨g9, 4, none⟩ = some (.int .i64 (m.part n 1)) := by rw [cell_of_row _ _ _ _ _ _ r9]; rfl
                have q5 : wc.cell? ⟨g10, 3, none⟩ = some (.int .i64 (m.part n 0)) := by rw [cell_of_row _ _ _ _ _ _ r10, ← (unhide HN).part 0 (by omega)]; rfl
                have q6 : wc.cell? ⟨g10, 4, none⟩ = some (.int .i64 (m.part n 1)) := by rw [cell_of_row _ _ _ _ _ _ r10, ← (unhide HN).part 1 (by omega)]; rfl
                have QP := neqlParts (m.part n 0) (m.part n 1) (m.part n 0) (m.part n 1)
                rw [show (!(m.part n 0 == m.part n 0 && m.part n 1 == m.part n 1)) = false by simp] at QP
                have qst : (m.stamp n != m.stamp n) = false := by simp
                clear r9 r10
                go_wp2_with fail
                clear q0 q1 q2 q3 q4 q5 q6 QP qst
                go_loopw [11] (fun i wr => ∃ p : Nat, p ≤ 2 ∧ i = .int .i64 p ∧ Hid (By w wr ((g10, inoA (Img.mend m) n, 24) :: (g9, inoA m n, 24) :: (g4, #[.int .i64 nf, .int .i64 nc, .int .i64 nd], 61) :: (g3, c3, 34) :: (g1, cs, 34) :: []))) (fun i _ => 2 - (intOf i).toNat)
                case atStart => exact ⟨0, by omega, rfl, BN⟩
                case round =>
                  clear BN
                  obtain ⟨p, hp2, rfl, BP⟩ := hrel
                  by_cases hp : p < 2
                  case pos =>
                    have t2 : decide ((p : Int) < 2) = true := by simp; omega
                    have jp : (p : Int) < 2 := by omega
                    have r9 := (unhide BP).row (g9, inoA m n, 24) (by simp)
                    have q1 : wr.cell? ⟨g9, 3 + p, none⟩ = some (.int .i64 (m.part n p)) := by
                      rw [cell_of_row _ _ _ _ _ _ r9]
                      match p, hp with
                      | 0, _ => rfl
                      | 1, _ => rfl
                    have DA := hide ((unhide HN).data p hp)
                    clear r9
                    by_cases hy : 0 ≤ m.part n p
                    case neg =>
                      have u1 : decide (0 ≤ m.part n p) = false := by simp; omega
                      clear DA hy
                      generalize m.part n p = y at q1 u1
                      go_wp2_with fail
                      go_quiet (fail)
                      go_wp2_with fail
                      go_roundw
                      case rel => exact ⟨p + 1, by omega, by go_num, hide ((unhide BP).call (belowN (Below.refl _ _)))⟩
                      case measure => simp [intOf]; omega
                    case pos =>
                      obtain ⟨x, x9, hx, x1, x2⟩ := unhide DA hy
                      clear DA hy
                      rw [hx] at q1
                      have u1 : decide (0 ≤ (x : Int)) = true := by simp
                      have u2 : decide (9 ≤ (x : Int)) = false := by simp; omega
                      have jx : (x : Int) < 9 := by omega
                      have r1 := (unhide BP).row (g1, cs, 34) (by simp)
                      have r3 := (unhide BP).row (g3, c3, 34) (by simp)
                      have d1 : wr.cell? ⟨g1, 76 + x * 2, none⟩ = some (.int .i64 (m.of x)) := by rw [cell_of_row _ _ _ _ _ _ r1]; exact hi.of x x9
                      have d2 : wr.cell? ⟨g1, 76 + x * 2 + 1, none⟩ = some (.string (m.text x)) := by rw [cell_of_row _ _ _ _ _ _ r1]; exact hi.text x x9
                      have d3 : wr.cell? ⟨g3, 76 + x * 2, none⟩ = some (.int .i64 (m.of x)) := by rw [cell_of_row _ _ _ _ _ _ r3, ← x1]; exact i3.of x x9
                      have d4 : wr.cell? ⟨g3, 76 + x * 2 + 1, none⟩ = some (.string (m.text x)) := by rw [cell_of_row _ _ _ _ _ _ r3, ← x2]; exact i3.text x x9
                      have QD := neqlDat (m.of x) (m.of x) (m.text x) (m.text x)
                      rw [show (!(m.of x == m.of x && (m.text x).toList == (m.text x).toList)) = false by simp] at QD
                      clear r1 r3 x1 x2 hx
                      go_wp2_with fail
                      go_quiet (fail)
                      go_wp2_with fail
                      go_roundw
                      case rel => exact ⟨p + 1, by omega, by go_num, hide ((unhide BP).call (belowN (Below.refl _ _)))⟩
                      case measure => simp [intOf]; omega
                  case neg =>
                    have ep : p = 2 := by omega
                    subst ep
                    go_wp2_with fail
                    go_roundw
                    case rel => exact ⟨s + 1, by omega, by go_num, hide (By.tail (By.tail (unhide BP)))⟩
                    case measure => simp [intOf]; omega
          case neg =>
            have es : s = 4 := by omega
            subst es
            go_wp2_with fail
            go_roundw
            case rel => exact ⟨d + 1, by omega, by go_num, BS⟩
            case measure => simp [intOf]; omega
      case neg =>
        have ed : d = 3 := by omega
        subst ed
        have r3 := hide ((unhide BD).row (g3, c3, 34) (by simp))
        go_wp2_with (have hx := unhide r3; refine wpList_load_row rfl 34 _ rfl g3 rfl 34 c3 (0, 0) _ hx img_under rfl (img_info z3) ?_; clear hx r3)
        refine (mend_any c3 _ i3 _).mono ?_
        rintro e w5 ⟨hme, hb5⟩
        have B6 := hide ((unhide BD).call hb5)
        clear BD hb5
        obtain ⟨a1, a2, a3, a4⟩ := Img.again (unhide HC)
        rcases hme with ⟨_, c5, i5, rfl⟩ | ⟨hz, _⟩
        case inr => exact absurd (Img.mend_check (unhide HC)) hz
        rw [a1] at i5
        obtain rfl : c5 = c3 := i5.agree i3 (Img.Agree.refl _)
        rw [a2, a3, a4, show lostA ((0 : Nat) : Int) ((0 : Nat) : Int) ((0 : Nat) : Int) = #[.int .i64 0, .int .i64 0, .int .i64 0] from rfl]
        have QI := eqImg i3
        have QL := eqLost 0 0 0 0 0 0
        rw [show lostB 0 0 0 0 0 0 = true from rfl] at QL
        unfold lostA at QL
        clear a1 a2 a3 a4
        have B7 := hide ((unhide B6).pair c5 (.int .i64 0) (.int .i64 0) (.int .i64 0))
        have T2 := two2 w5 c5
        have s1 := hide T2.r0
        have c0 := T2.cells 0 (by omega)
        have c1 := T2.cells 1 (by omega)
        have c2 := T2.cells 2 (by omega)
        have fz := T2.fz
        clear T2 B6
        go_upto_region 30 with (have hx := unhide s1; refine wpList_store_row rfl 34 _ _ rfl w5.heap.size c5 rfl rfl 34 zeroCells hx (img_info z3) (zero_size i3) (i3.all) ?_; clear hx s1; generalize ((w5.alloc (.cells zeroCells 34)).alloc (.cells #[.int .i64 0, .int .i64 0, .int .i64 0] 61)).setRow w5.heap.size c5 = Yw5 at B7 c0 c1 c2 fz ⊢)
        generalize ((Yw5.setCell ⟨w5.heap.size + 1, 0, none⟩ (.int .i64 0)).setCell ⟨w5.heap.size + 1, 1, none⟩ (.int .i64 0)).setCell ⟨w5.heap.size + 1, 2, none⟩ (.int .i64 0) = X7 at B7 ⊢
        generalize w5.heap.size + 1 = g14 at B7 ⊢
        generalize w5.heap.size = g13 at B7 ⊢
        clear c0 c1 c2 fz
        have r13 := hide ((unhide B7).row (g13, c5, 34) (.tail _ (.head _)))
        have r3 := hide ((unhide B7).row (g3, c5, 34) (.tail _ (.tail _ (.tail _ (.head _)))))
        have r14 := (unhide B7).row (g14, _, 61) (.head _)
        have q0 : X7.cell? ⟨g14, 0, none⟩ = some (.int .i64 0) := by rw [cell_of_row _ _ _ _ _ _ r14]; rfl
        have q1 : X7.cell? ⟨g14, 1, none⟩ = some (.int .i64 0) := by rw [cell_of_row _ _ _ _ _ _ r14]; rfl
        have q2 : X7.cell? ⟨g14, 2, none⟩ = some (.int .i64 0) := by rw [cell_of_row _ _ _ _ _ _ r14]; rfl
        clear r14
        go_wp2_with (first | (have hx := unhide r13; refine wpList_load_row_g rfl 34 _ rfl g13 rfl 34 c5 (0, 0) _ hx img_under rfl (img_info z3) ?_; clear hx r13) | (have hx := unhide r3; refine wpList_load_row_g rfl 34 _ rfl g3 rfl 34 c5 (0, 0) _ hx img_under rfl (img_info z3) ?_; clear hx r3))
        go_ret
        exact ⟨rfl, (unhide B7).below⟩
end Go.Proofs.Ytmlhalhjfcfagab
