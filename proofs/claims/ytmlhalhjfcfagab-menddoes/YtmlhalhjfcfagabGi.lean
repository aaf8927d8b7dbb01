/-
  The law MendDoes: its walk. (Written by gengi.py.)
-/
import Derived.Test.YtmlhalhjfcfagabGh
namespace Go.Proofs.Ytmlhalhjfcfagab
open Go.RowKit
theorem By.pairA {w wr : World} {l : List (Nat × Array Value × TypeId)} (h : By w wr l) (c : Array Value) (a b d : Value) :
    By w ((((((wr.alloc (.cells zeroCells 34)).alloc (.cells #[.int .i64 0, .int .i64 0, .int .i64 0] 64)).setRow wr.heap.size c).setCell ⟨wr.heap.size + 1, 0, none⟩ a).setCell ⟨wr.heap.size + 1, 1, none⟩ b).setCell ⟨wr.heap.size + 1, 2, none⟩ d) ((wr.heap.size + 1, #[a, b, d], 64) :: (wr.heap.size, c, 34) :: l) := by
  have h2 := (h.box zeroCells 34).box #[.int .i64 0, .int .i64 0, .int .i64 0] 64
  rw [show (wr.alloc (.cells zeroCells 34)).heap.size = wr.heap.size + 1 by simp] at h2
  have h3 := h2.mut1 (Mv.row' (h2.row (wr.heap.size, zeroCells, 34) (by simp)) c)
  have h4 := h3.mut0 (Mv.set0 (v := a) (h3.row (wr.heap.size + 1, _, 64) (List.mem_cons_self ..)))
  have h5 := h4.mut0 (Mv.set1 (v := b) (h4.row (wr.heap.size + 1, _, 64) (List.mem_cons_self ..)))
  exact h5.mut0 (Mv.set2 (v := d) (h5.row (wr.heap.size + 1, _, 64) (List.mem_cons_self ..)))
structure Two2A (wr : World) (c : Array Value) : Prop where
  r0 : ((wr.alloc (.cells zeroCells 34)).alloc (.cells #[.int .i64 0, .int .i64 0, .int .i64 0] 64)).heap[wr.heap.size]? = some (.cells zeroCells 34)
  r1 : (((wr.alloc (.cells zeroCells 34)).alloc (.cells #[.int .i64 0, .int .i64 0, .int .i64 0] 64)).setRow wr.heap.size c).heap[wr.heap.size + 1]? = some (.cells #[.int .i64 0, .int .i64 0, .int .i64 0] 64)
theorem two2A (wr : World) (c : Array Value) : Two2A wr c := by
  refine ⟨heap_alloc2_old _ _ _, ?_⟩
  rw [setRow_other _ _ _ _ (by omega)]
  exact heap_alloc2_new _ _ _
theorem Two2A.cells {wr : World} {c : Array Value} (h : Two2A wr c) (j : Nat) (hj : j < 3) : (((wr.alloc (.cells zeroCells 34)).alloc (.cells #[.int .i64 0, .int .i64 0, .int .i64 0] 64)).setRow wr.heap.size c).cell? ⟨wr.heap.size + 1, j, none⟩ = some (.int .i64 0) := by
  rw [cell_of_row _ _ _ _ _ _ h.r1]
  match j, hj with
  | 0, _ => rfl
  | 1, _ => rfl
  | 2, _ => rfl
theorem Two2A.fz {wr : World} {c : Array Value} (h : Two2A wr c) (j : Nat) : (((wr.alloc (.cells zeroCells 34)).alloc (.cells #[.int .i64 0, .int .i64 0, .int .i64 0] 64)).setRow wr.heap.size c).frozen? ⟨wr.heap.size + 1, j, none⟩ = false := frozen_of_row _ _ _ _ _ h.r1
/-- what both Mends answer, whatever it is -/
structure Both2 (m : Img) (c : Array Value) (a b d cd : Int) : Prop where
  size : c.size = 94
  zero : zeroCells.size = c.size
  all : c.all (·.oneCell') = true
  same : ∀ w, (binOp .eql 34 (.agg c) (.agg c)).run Try.prog w = .ok (.bool true) w
  ref : ∀ e, MendIs m e → e = .returned (.tuple #[.agg c, .agg (lostA a b d), .int .i64 cd])
theorem both2 {m : Img} {e : Ending} (h : MendIs m e) : ∃ c a b d cd, e = .returned (.tuple #[.agg c, .agg (lostA a b d), .int .i64 cd]) ∧ Both2 m c a b d cd := by
  rcases h with ⟨hc, c, hi, rfl⟩ | ⟨hc, rfl⟩
  · refine ⟨c, _, _, _, _, rfl, hi.size, zero_size hi, hi.all, eqImg hi, fun e h => ?_⟩
    rcases h with ⟨_, c2, hi2, rfl⟩ | ⟨hz, _⟩
    · rw [hi2.agree hi (Img.Agree.refl _)]
    · exact absurd hc hz
  · refine ⟨zeroCells, _, _, _, _, rfl, zero_sz, rfl, zero_kinds'.isImg.all, eqImg zero_kinds'.isImg, fun e h => ?_⟩
    rcases h with ⟨hz, _⟩ | ⟨_, rfl⟩
    · exact absurd hz hc
    · rfl
set_option maxRecDepth 100000 in
set_option maxHeartbeats 8000000 in
theorem mendDoes_any (cs : Array Value) (hk : Kinds cs) (w : World) :
    Calls Try.prog 8 #[.agg cs] w fun e w' => e = .returned (.bool true) ∧ Below w.heap.size w w' := by
  have hi := hk.isImg
  have z := zero_img.1
  have bz := build_img
  have zz := zero_sz
  have B0 := hide ((By.start w).box cs 34)
  go_enter Try.func8, Try.ntmps8
  go_wp2_with fail
  generalize w.alloc (.cells cs 34) = X0 at B0 ⊢
  generalize w.heap.size = g1 at B0 ⊢
  refine (mendBegun_any _).mono ?_
  rintro e w1 ⟨rfl, hb1⟩
  have B1 := hide ((unhide B0).call hb1)
  clear B0 hb1
  have r1 := hide ((unhide B1).row (g1, cs, 34) (List.mem_cons_self ..))
  go_wp2_with (have hx := unhide r1; refine wpList_load_row rfl 34 _ rfl g1 rfl 34 cs (0, 0) _ hx img_under rfl (img_info hi.size) ?_; clear hx r1)
  refine (great_any cs _ hi _).mono ?_
  rintro e w2 ⟨⟨v, rfl⟩, hb2⟩
  have B2 := hide ((unhide B1).call hb2)
  clear B1 hb2
  cases v
  case true =>
    go_wp2_with fail
    go_ret
    exact ⟨rfl, (unhide B2).below⟩
  have r2 := hide ((unhide B2).row (g1, cs, 34) (List.mem_cons_self ..))
  go_wp2_with (have hx := unhide r2; refine wpList_load_row rfl 34 _ rfl g1 rfl 34 cs (0, 0) _ hx img_under rfl (img_info hi.size) ?_; clear hx r2)
  refine (mend_any cs _ hi _).mono ?_
  rintro e w3 ⟨hme, hb3⟩
  have B3 := hide ((unhide B2).call hb3)
  clear B2 hb3
  obtain ⟨c3, na, nb, nd, cd, rfl, hB⟩ := both2 hme
  have HB := hide hB.ref
  have QI := hide hB.same
  have z3 := hB.size
  have zz3 := hB.zero
  have za3 := hide hB.all
  clear hme hB
  unfold lostA
  have B4 := hide ((unhide B3).pair c3 (.int .i64 na) (.int .i64 nb) (.int .i64 nd))
  have T2 := two2 w3 c3
  have s1 := hide T2.r0
  have c0 := T2.cells 0 (by omega)
  have c1 := T2.cells 1 (by omega)
  have c2 := T2.cells 2 (by omega)
  have fz := T2.fz
  clear T2 B3
  go_upto_region 6 with (have hx := unhide s1; refine wpList_store_row rfl 34 _ _ rfl w3.heap.size c3 rfl rfl 34 zeroCells hx (img_info z3) (zz3) (unhide za3) ?_; clear hx s1; generalize ((w3.alloc (.cells zeroCells 34)).alloc (.cells #[.int .i64 0, .int .i64 0, .int .i64 0] 61)).setRow w3.heap.size c3 = Yw3 at B4 c0 c1 c2 fz ⊢)
  generalize ((Yw3.setCell ⟨w3.heap.size + 1, 0, none⟩ (.int .i64 na)).setCell ⟨w3.heap.size + 1, 1, none⟩ (.int .i64 nb)).setCell ⟨w3.heap.size + 1, 2, none⟩ (.int .i64 nd) = X4 at B4 ⊢
  generalize w3.heap.size + 1 = g4 at B4 ⊢
  generalize w3.heap.size = g3 at B4 ⊢
  clear c0 c1 c2 fz
  have r1 := hide ((unhide B4).row (g1, cs, 34) (.tail _ (.tail _ (.head _))))
  go_wp2_with (have hx := unhide r1; refine wpList_load_row rfl 34 _ rfl g1 rfl 34 cs (0, 0) _ hx img_under rfl (img_info hi.size) ?_; clear hx r1)
  refine (mendOf_any cs _ hi _).mono ?_
  rintro e w5 ⟨hme, hb5⟩
  have B5 := hide ((unhide B4).call hb5)
  clear B4 hb5
  obtain rfl := unhide HB _ hme
  clear hme HB
  unfold lostA
  have B6 := hide ((unhide B5).pairA c3 (.int .i64 na) (.int .i64 nb) (.int .i64 nd))
  have T2 := two2A w5 c3
  have s1 := hide T2.r0
  have c0 := T2.cells 0 (by omega)
  have c1 := T2.cells 1 (by omega)
  have c2 := T2.cells 2 (by omega)
  have fz := T2.fz
  clear T2 B5
  go_upto_region 7 with (have hx := unhide s1; refine wpList_store_row rfl 34 _ _ rfl w5.heap.size c3 rfl rfl 34 zeroCells hx (img_info z3) (zz3) (unhide za3) ?_; clear hx s1; generalize ((w5.alloc (.cells zeroCells 34)).alloc (.cells #[.int .i64 0, .int .i64 0, .int .i64 0] 64)).setRow w5.heap.size c3 = Yw5 at B6 c0 c1 c2 fz ⊢)
  generalize ((Yw5.setCell ⟨w5.heap.size + 1, 0, none⟩ (.int .i64 na)).setCell ⟨w5.heap.size + 1, 1, none⟩ (.int .i64 nb)).setCell ⟨w5.heap.size + 1, 2, none⟩ (.int .i64 nd) = X6 at B6 ⊢
  generalize w5.heap.size + 1 = g7 at B6 ⊢
  generalize w5.heap.size = g6 at B6 ⊢
  clear c0 c1 c2 fz
  have QL := hide (eqLost na nb nd na nb nd)
  rw [show lostB na nb nd na nb nd = true by simp [lostB]] at QL
  unfold lostA at QL
  have r7 := (unhide B6).row (g7, _, 64) (.head _)
  have r4 := (unhide B6).row (g4, _, 61) (.tail _ (.tail _ (.head _)))
  have r3 := hide ((unhide B6).row (g3, c3, 34) (.tail _ (.tail _ (.tail _ (.head _)))))
  have r6 := hide ((unhide B6).row (g6, c3, 34) (.tail _ (.head _)))
  have q0 : X6.cell? ⟨g7, 0, none⟩ = some (.int .i64 na) := by rw [cell_of_row _ _ _ _ _ _ r7]; rfl
  have q1 : X6.cell? ⟨g7, 1, none⟩ = some (.int .i64 nb) := by rw [cell_of_row _ _ _ _ _ _ r7]; rfl
  have q2 : X6.cell? ⟨g7, 2, none⟩ = some (.int .i64 nd) := by rw [cell_of_row _ _ _ _ _ _ r7]; rfl
  have p0 : X6.cell? ⟨g4, 0, none⟩ = some (.int .i64 na) := by rw [cell_of_row _ _ _ _ _ _ r4]; rfl
  have p1 : X6.cell? ⟨g4, 1, none⟩ = some (.int .i64 nb) := by rw [cell_of_row _ _ _ _ _ _ r4]; rfl
  have p2 : X6.cell? ⟨g4, 2, none⟩ = some (.int .i64 nd) := by rw [cell_of_row _ _ _ _ _ _ r4]; rfl
  have qcd : (cd == cd) = true := by simp
  have qI := unhide QI
  have qL := unhide QL
  clear r7 r4 QI QL
  go_wp2_with (first | (have hx := unhide r3; refine wpList_load_row rfl 34 _ rfl g3 rfl 34 c3 (0, 0) _ hx img_under rfl (img_info z3) ?_; clear hx r3) | (have hx := unhide r6; refine wpList_load_row rfl 34 _ rfl g6 rfl 34 c3 (0, 0) _ hx img_under rfl (img_info z3) ?_; clear hx r6))
  go_ret
  exact ⟨rfl, (unhide B6).below⟩
end Go.Proofs.Ytmlhalhjfcfagab
