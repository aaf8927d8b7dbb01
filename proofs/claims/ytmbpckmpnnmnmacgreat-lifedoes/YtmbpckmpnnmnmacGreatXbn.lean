/-
  The reference's (*Bed).Step. (Written by genhp.py.)
-/
import Derived.Test.YtmbpckmpnnmnmacGreatZz
import Derived.Test.YtmbpckmpnnmnmacGreatXbc
import Derived.Test.YtmbpckmpnnmnmacGreatXbe
import Derived.Test.YtmbpckmpnnmnmacGreatXbm
namespace Go.Proofs.YtmbpckmpnnmnmacGreat
open Go.RowKit
open Idl (Stp chk stpA)
theorem Lif.gtrb {o : Oper} {ρ : Operand → Value} (x y : Operand) (ho : o.op = .binOp .gtr 3 x y 3) {u v : Int} (hx : ρ x = .int .i64 u) (hy : ρ y = .int .i64 v) {b : Bool} (hv : decide (v < u) = b) (w : World) : (execOp ρ o).run Tryz.prog w = .ok (.value (.bool b)) w := by
  unfold execOp
  rw [ho]
  go_simp
theorem By.pairA {w wr : World} {l : List (Nat × Array Value × TypeId)} (h : By w wr l) (c : Array Value) (a b d : Value) :
    By w ((((((wr.alloc (.cells zeroCells 44)).alloc (.cells #[.int .i64 0, .int .i64 0, .int .i64 0] 78)).setRow wr.heap.size c).setCell ⟨wr.heap.size + 1, 0, none⟩ a).setCell ⟨wr.heap.size + 1, 1, none⟩ b).setCell ⟨wr.heap.size + 1, 2, none⟩ d) ((wr.heap.size + 1, #[a, b, d], 78) :: (wr.heap.size, c, 44) :: l) := by
  have h2 := (h.box zeroCells 44).box #[.int .i64 0, .int .i64 0, .int .i64 0] 78
  rw [show (wr.alloc (.cells zeroCells 44)).heap.size = wr.heap.size + 1 by simp] at h2
  have h3 := h2.mut1 (Mv.row' (h2.row (wr.heap.size, zeroCells, 44) (by simp)) c)
  have h4 := h3.mut0 (Mv.set0 (v := a) (h3.row (wr.heap.size + 1, _, 78) (List.mem_cons_self ..)))
  have h5 := h4.mut0 (Mv.set1 (v := b) (h4.row (wr.heap.size + 1, _, 78) (List.mem_cons_self ..)))
  exact h5.mut0 (Mv.set2 (v := d) (h5.row (wr.heap.size + 1, _, 78) (List.mem_cons_self ..)))
structure Two2A (wr : World) (c : Array Value) : Prop where
  r0 : ((wr.alloc (.cells zeroCells 44)).alloc (.cells #[.int .i64 0, .int .i64 0, .int .i64 0] 78)).heap[wr.heap.size]? = some (.cells zeroCells 44)
  r1 : (((wr.alloc (.cells zeroCells 44)).alloc (.cells #[.int .i64 0, .int .i64 0, .int .i64 0] 78)).setRow wr.heap.size c).heap[wr.heap.size + 1]? = some (.cells #[.int .i64 0, .int .i64 0, .int .i64 0] 78)
theorem two2A (wr : World) (c : Array Value) : Two2A wr c := by
  refine ⟨heap_alloc2_old _ _ _, ?_⟩
  rw [setRow_other _ _ _ _ (by omega)]
  exact heap_alloc2_new _ _ _
theorem Two2A.cells {wr : World} {c : Array Value} (h : Two2A wr c) (j : Nat) (hj : j < 3) : (((wr.alloc (.cells zeroCells 44)).alloc (.cells #[.int .i64 0, .int .i64 0, .int .i64 0] 78)).setRow wr.heap.size c).cell? ⟨wr.heap.size + 1, j, none⟩ = some (.int .i64 0) := by
  rw [cell_of_row _ _ _ _ _ _ h.r1]
  match j, hj with
  | 0, _ => rfl
  | 1, _ => rfl
  | 2, _ => rfl
theorem Two2A.fz {wr : World} {c : Array Value} (h : Two2A wr c) (j : Nat) : (((wr.alloc (.cells zeroCells 44)).alloc (.cells #[.int .i64 0, .int .i64 0, .int .i64 0] 78)).setRow wr.heap.size c).frozen? ⟨wr.heap.size + 1, j, none⟩ = false := frozen_of_row _ _ _ _ _ h.r1
/-- a bed with the state of a life -/
def Bl (W : World) (g : Nat) (S : Lv) : Prop := ∃ cs ds, W.heap[g]? = some (.cells (cs ++ (ds ++ (Sft.btl S.last (.int .i64 S.cr) (.int .i64 S.lf) (.int .i64 S.lc) (.int .i64 S.ld)))) 55) ∧ IsImg cs S.now ∧ IsImg ds S.disk
theorem Bl.lt {W : World} {g : Nat} {S : Lv} (h : Bl W g S) : g < W.heap.size := by
  obtain ⟨cs, ds, h, _⟩ := h
  exact (Array.getElem?_eq_some_iff.1 h).1
theorem Bl.keep {W W' : World} {g : Nat} {S : Lv} (h : Bl W g S) (e : W'.heap[g]? = W.heap[g]?) : Bl W' g S := by
  obtain ⟨cs, ds, h, r⟩ := h
  exact ⟨cs, ds, e.trans h, r⟩
theorem btl_get {cs ds : Array Value} {l : Int} {a b c d : Value} (hc : cs.size = 94) (hd : ds.size = 94) (i : Nat) : (cs ++ (ds ++ Sft.btl l a b c d))[188 + i]? = (Sft.btl l a b c d)[i]? := by
  rw [Array.getElem?_append_right (by omega), Array.getElem?_append_right (by omega), hc, hd, show 188 + i - 94 - 94 = i by omega]
theorem btl_put {cs ds tl : Array Value} (hc : cs.size = 94) (hd : ds.size = 94) (i : Nat) (v : Value) : (cs ++ (ds ++ tl)).setIfInBounds (188 + i) v = cs ++ (ds ++ tl.setIfInBounds i v) := by
  refine Array.ext_getElem? fun j => ?_
  rw [Array.getElem?_setIfInBounds]
  by_cases h1 : j < 94
  · rw [if_neg (by omega), Array.getElem?_append_left (by omega), Array.getElem?_append_left (by omega)]
  · rw [Array.getElem?_append_right (by omega : cs.size ≤ j), Array.getElem?_append_right (by omega : cs.size ≤ j)]
    by_cases h2 : j - cs.size < 94
    · rw [if_neg (by omega), Array.getElem?_append_left (by omega), Array.getElem?_append_left (by omega)]
    · rw [Array.getElem?_append_right (by omega : ds.size ≤ j - cs.size), Array.getElem?_append_right (by omega : ds.size ≤ j - cs.size), Array.getElem?_setIfInBounds]
      simp only [Array.size_append, hc, hd]
      repeat' split
      all_goals first | rfl | (exfalso; omega)
section
variable {W : World} {g : Nat} {S : Lv}
theorem chg_mut {w w' : World} {c : Array Value} {t : TypeId} (h : Mut w w' g c t) : Idl.Chg (fun i => i = g) w w' := by
  have b := h.below 0 (Nat.zero_le _) (Nat.zero_le _)
  exact ⟨b.os, b.tape, b.output, h.size, fun j hj hn => h.old j hj hn⟩
theorem chg_mv {w w' : World} {c : Array Value} {t : TypeId} (h : Mv w w' g c t) : Idl.Chg (fun i => i = g) w w' := by
  have b := h.below 0 (Nat.zero_le _) (Nat.zero_le _)
  exact ⟨b.os, b.tape, b.output, h.size, fun j hj hn => h.old j hj hn⟩
set_option maxHeartbeats 4000000 in
set_option maxRecDepth 100000 in
theorem bStep_plain (h : Bl W g S) {n : Nat} (hO : S.Ok n) (hn : n ≤ 1000000) (x : Stp) (h1 : x.name.size ≤ maxLen) (h2 : x.to.size ≤ maxLen) (h3 : x.text.size ≤ maxLen) (h9 : x.kind ≠ 9) :
    Calls Tryz.prog 17 #[.pointer (some ⟨g, 0, none⟩), .agg (stpA x)] W fun e w' => e = .returned (.int .i64 (S.code x)) ∧ Bl w' g (S.step x) ∧ Idl.Chg (fun i => i = g) W w' := by
  have hl := h.lt
  obtain ⟨cs, ds, hr, hi, hj⟩ := h
  have hB : Below W.heap.size W (W.alloc (.cells (stpA x) 31)) := (Below.refl _ W).alloc (Nat.le_refl _) _
  have CB := hide (Idl.Chg.of_below (own := fun i => i = g) hB)
  have hr1 : (W.alloc (.cells (stpA x) 31)).heap[g]? = some (.cells (cs ++ (ds ++ (Sft.btl S.last (.int .i64 S.cr) (.int .i64 S.lf) (.int .i64 S.lc) (.int .i64 S.ld)))) 55) := by rw [hB.block _ hl]; exact hr
  have rx : (W.alloc (.cells (stpA x) 31)).heap[W.heap.size]? = some (.cells (stpA x) 31) := heap_alloc_last _ _
  have e0 : (W.alloc (.cells (stpA x) 31)).cell? ⟨W.heap.size, 0, none⟩ = some (.int .i64 x.kind) := by rw [cell_of_row _ _ _ _ _ _ rx]; rfl
  have e3 : (W.alloc (.cells (stpA x) 31)).cell? ⟨W.heap.size, 3, none⟩ = some (.int .i64 x.p) := by rw [cell_of_row _ _ _ _ _ _ rx]; rfl
  have RX := hide rx
  have C7 := hide (bWrite_any g cs ds _ S.now S.disk hi hj x.p _ hr1)
  have C8 := hide (bSync_any g cs ds _ S.now S.disk hi hj _ hr1)
  have CF := hide (files0_any hr1 hi hj hO.hold.good (by have := hO.few; omega) x h1 h2 h3)
  have HI := hide hi
  have HJ := hide hj
  clear hr hr1 rx hB hO hn h1 h2 h3 hi hj
  by_cases h7 : x.kind = 7
  · have k7 : (x.kind == 7) = true := by simpa using h7
    rw [(S.step_seven h7).1, (S.step_seven h7).2]
    cases hb : Img.inB x.p <;> rw [hb] at C7
    all_goals
      go_enter Tryz.func17, Tryz.ntmps17
      go_wp2_with fail
      refine (unhide C7).mono ?_
      rintro e w' ⟨es, rfl, hes, hm⟩
      have R := hide (And.intro (show Bl w' g { S with disk := Img.write S.now S.disk x.p } from ⟨cs, es, hm.row, unhide HI, hes⟩) ((unhide CB).trans (chg_mut hm) (fun i hi => .inl hi)))
      clear hm hes
      go_wp2_with fail
      go_ret
      exact ⟨rfl, (unhide R).1, (unhide R).2⟩
  have k7 : (x.kind == 7) = false := by simpa using h7
  by_cases h8 : x.kind = 8
  · have k8 : (x.kind == 8) = true := by simpa using h8
    rw [(S.step_eight h8).1, (S.step_eight h8).2]
    go_enter Tryz.func17, Tryz.ntmps17
    go_wp2_with fail
    refine (unhide C8).mono ?_
    rintro e w' ⟨es, rfl, hes, hm⟩
    have R := hide (And.intro (show Bl w' g { S with disk := (Img.syn S.now 8 S.disk).2 } from ⟨cs, es, hm.row, unhide HI, hes⟩) ((unhide CB).trans (chg_mut hm) (fun i hi => .inl hi)))
    clear hm hes
    go_wp2_with fail
    go_ret
    exact ⟨rfl, (unhide R).1, (unhide R).2⟩
  have k8 : (x.kind == 8) = false := by simpa using h8
  have k9 : (x.kind == 9) = false := by simpa using h9
  rw [(S.step_file ⟨h7, h8, h9⟩).1, (S.step_file ⟨h7, h8, h9⟩).2]
  clear h7 h8 h9
  go_enter Tryz.func17, Tryz.ntmps17
  go_wp2_with (have hx := unhide RX; refine wpList_load_row rfl 31 _ rfl W.heap.size rfl 31 (stpA x) (0, 0) _ hx stp_under7 rfl stp_info7 ?_; clear hx RX)
  refine (unhide CF).mono ?_
  rintro e w' ⟨rfl, cs', hb, h4⟩
  have R := hide (And.intro (show Bl w' g { S with now := Img.sstep S.now S.disk S.last x, last := Img.slast S.now S.disk S.last x } from ⟨cs', ds, hb.row, h4, unhide HJ⟩) ((unhide CB).trans hb.chg (fun i hi => .inl hi)))
  clear hb h4
  go_wp2_with fail
  go_ret
  exact ⟨rfl, (unhide R).1, (unhide R).2⟩
set_option maxHeartbeats 8000000 in
set_option maxRecDepth 100000 in
theorem bStep_crash (h : Bl W g S) {n : Nat} (hO : S.Ok n) (hn : n ≤ 1000000) (x : Stp) (h9 : x.kind = 9) :
    Calls Tryz.prog 17 #[.pointer (some ⟨g, 0, none⟩), .agg (stpA x)] W fun e w' => e = .returned (.int .i64 0) ∧ Bl w' g S.crash ∧ Idl.Chg (fun i => i = g) W w' := by
  have z := zero_img.1
  have hl := h.lt
  obtain ⟨cs, ds, hr, hi, hj⟩ := h
  have zi := hi.size
  have zj := hj.size
  have hB : Below W.heap.size W (W.alloc (.cells (stpA x) 31)) := (Below.refl _ W).alloc (Nat.le_refl _) _
  have BB := hide hB
  have hr1 := hide (show (W.alloc (.cells (stpA x) 31)).heap[g]? = some (.cells (cs ++ (ds ++ (Sft.btl S.last (.int .i64 S.cr) (.int .i64 S.lf) (.int .i64 S.lc) (.int .i64 S.ld)))) 55) by rw [hB.block _ hl]; exact hr)
  have rx : (W.alloc (.cells (stpA x) 31)).heap[W.heap.size]? = some (.cells (stpA x) 31) := heap_alloc_last _ _
  have e0 : (W.alloc (.cells (stpA x) 31)).cell? ⟨W.heap.size, 0, none⟩ = some (.int .i64 x.kind) := by rw [cell_of_row _ _ _ _ _ _ rx]; rfl
  have k7 : (x.kind == 7) = false := by simp [h9]
  have k8 : (x.kind == 8) = false := by simp [h9]
  have k9 : (x.kind == 9) = true := by simp [h9]
  have hle : 94 + 94 ≤ (cs ++ (ds ++ (Sft.btl S.last (.int .i64 S.cr) (.int .i64 S.lf) (.int .i64 S.lc) (.int .i64 S.ld)))).size := by rw [Array.size_append, Array.size_append, zi, zj]; omega
  have MO := hide fun V => mendOf_ok ds S.disk hj hO.hold.ok V
  have KC := hide hO.hold.ok
  have hcr : -9223372036854775808 ≤ S.cr + 1 ∧ S.cr + 1 ≤ 9223372036854775807 := by have := hO.cr0; have := hO.crn; omega
  clear hr rx hB hO hn hj h9
  go_enter Tryz.func17, Tryz.ntmps17
  go_wp2_with (have hx := unhide hr1; refine wpList_load_part rfl 44 _ rfl g 94 94 rfl 55 (cs ++ (ds ++ (Sft.btl S.last (.int .i64 S.cr) (.int .i64 S.lf) (.int .i64 S.lc) (.int .i64 S.ld)))) _ hx img_under rfl zero_img.2 hle ?_; rw [app3_snd zi zj]; clear hx)
  refine (unhide MO _).mono ?_
  rintro e w3 ⟨hme, b3⟩
  have B3' := hide ((unhide BB).trans (b3.mono (unhide BB).size))
  have hr3 := hide (show w3.heap[g]? = some (.cells (cs ++ (ds ++ (Sft.btl S.last (.int .i64 S.cr) (.int .i64 S.lf) (.int .i64 S.lc) (.int .i64 S.ld)))) 55) by rw [b3.block _ (Array.getElem?_eq_some_iff.1 (unhide hr1)).1]; exact unhide hr1)
  have hme2 : ∃ c, IsImg c (Img.mend S.disk) ∧ e = .returned (.tuple #[.agg c, .agg (lostA (Img.lostF S.disk : Nat) (Img.lostC S.disk : Nat) (Img.lostD S.disk : Nat)), .int .i64 0]) := by
    rcases hme with ⟨_, c, i, e⟩ | ⟨z, _⟩
    · exact ⟨c, i, e⟩
    · exact absurd (unhide KC) z
  clear hme b3 MO BB hr1 e0
  obtain ⟨c3, i3, rfl⟩ := hme2
  have z3 := i3.size
  have hall := i3.all
  have hzs := zero_size i3
  unfold lostA
  obtain ⟨nf, ef⟩ : ∃ n : Int, n = (Img.lostF S.disk : Nat) := ⟨_, rfl⟩
  obtain ⟨nc, ec⟩ : ∃ n : Int, n = (Img.lostC S.disk : Nat) := ⟨_, rfl⟩
  obtain ⟨nd, ed⟩ : ∃ n : Int, n = (Img.lostD S.disk : Nat) := ⟨_, rfl⟩
  rw [← ef, ← ec, ← ed]
  have EF := hide ef
  have EC := hide ec
  have ED := hide ed
  clear ef ec ed
  have B4 := hide ((By.start w3).pairA c3 (.int .i64 nf) (.int .i64 nc) (.int .i64 nd))
  have T2 := two2A w3 c3
  have s1 := hide T2.r0
  have c0 := T2.cells 0 (by omega)
  have c1 := T2.cells 1 (by omega)
  have c2 := T2.cells 2 (by omega)
  have fz := T2.fz
  clear T2
  go_upto_region 13 with (have hx := unhide s1; refine wpList_store_row rfl 44 _ _ rfl w3.heap.size c3 rfl rfl 44 zeroCells hx (img_info z3) (hzs) (hall) ?_; clear hx s1; generalize ((w3.alloc (.cells zeroCells 44)).alloc (.cells #[.int .i64 0, .int .i64 0, .int .i64 0] 78)).setRow w3.heap.size c3 = Yw3 at B4 c0 c1 c2 fz ⊢)
  generalize ((Yw3.setCell ⟨w3.heap.size + 1, 0, none⟩ (.int .i64 nf)).setCell ⟨w3.heap.size + 1, 1, none⟩ (.int .i64 nc)).setCell ⟨w3.heap.size + 1, 2, none⟩ (.int .i64 nd) = X4 at B4 ⊢
  clear c0 c1 c2 fz
  have B45 := hide ((unhide B3').trans ((unhide B4).below.mono (unhide B3').size))
  have hr4 := hide (show X4.drew.heap[g]? = some (.cells (cs ++ (ds ++ (Sft.btl S.last (.int .i64 S.cr) (.int .i64 S.lf) (.int .i64 S.lc) (.int .i64 S.ld)))) 55) by show X4.heap[g]? = _; rw [(unhide B4).below.block _ (Array.getElem?_eq_some_iff.1 (unhide hr3)).1]; exact unhide hr3)
  have m5 : X4.drew.heap[w3.heap.size]? = some (.cells c3 44) := (unhide B4).row (w3.heap.size, c3, 44) (by simp)
  have m6 := hide (show X4.drew.heap[w3.heap.size + 1]? = some (.cells #[.int .i64 nf, .int .i64 nc, .int .i64 nd] 78) from (unhide B4).row (w3.heap.size + 1, #[.int .i64 nf, .int .i64 nc, .int .i64 nd], 78) (by simp))
  have NG := hide (show w3.heap.size ≠ g ∧ w3.heap.size + 1 ≠ g by have := (Array.getElem?_eq_some_iff.1 (unhide hr3)).1; omega)
  have MV0 := hide (Mv.refl' (Below.refl _ X4.drew) (Array.getElem?_eq_some_iff.1 (unhide hr4)).1 (unhide hr4))
  have MV1 := hide ((unhide MV0).trans (Mv.row' (unhide MV0).row (splice (cs ++ (ds ++ (Sft.btl S.last (.int .i64 S.cr) (.int .i64 S.lf) (.int .i64 S.lc) (.int .i64 S.ld)))) 0 c3)))
  rw [splice_fst zi z3] at MV1
  have MV2 := hide ((unhide MV1).trans (Mv.row' (unhide MV1).row (splice (c3 ++ (ds ++ (Sft.btl S.last (.int .i64 S.cr) (.int .i64 S.lf) (.int .i64 S.lc) (.int .i64 S.ld)))) 94 c3)))
  rw [splice3_snd z3 zj z3] at MV2
  generalize w3.heap.size + 1 = g6 at m6 NG ⊢
  generalize w3.heap.size = g5 at m5 NG ⊢
  clear hr3 B4 B3'
  refine wp_region_held_drew (S := fun V => V.heap[g5]? = some (.cells c3 44)) (by kernel_rfl) (m5) (fun hS => ?_)
  refine tkP (i := 0) (oi := ⟨some 36, .move (.tmp 0), 27, "base.go:623", #[], none⟩) (v := .pointer (some ⟨g, 0, none⟩)) m5 ?_
  try simp only [Act.put, z1, z2, YtmbpckmpnnmnmacGreat.z3]
  refine tkP (i := 1) (oi := { dst := some 37, op := Op.move (Operand.tmp 0), type := 27, pos := "base.go:623", after := #[{ on := 6, ground := Ground.gcOnly Departure.lateStores }], guard := none }) (v := .pointer (some ⟨g, 0, none⟩)) m5 ?_
  try simp only [Act.put, z1, z2, YtmbpckmpnnmnmacGreat.z3]
  refine tkH (i := 2) (oi := ⟨some 38, .load 44 (.tmp 5), 44, "base.go:623", #[], none⟩) (v := .agg c3) (fun W h => Lif.ld_img (off := 0) (.tmp 5) (by kernel_rfl) (by kernel_rfl) W h (by rw [z3]; omega) (by rw [Nat.zero_add, show 94 = c3.size from z3.symm]; simp)) m5 ?_
  try simp only [Act.put, z1, z2, YtmbpckmpnnmnmacGreat.z3]
  refine tkH (i := 3) (oi := { dst := some 39, op := Op.load 44 (Operand.tmp 5), type := 44, pos := "base.go:623", after := #[{ on := 6, ground := Ground.gcOnly Departure.lateStores }], guard := none }) (v := .agg c3) (fun W h => Lif.ld_img (off := 0) (.tmp 5) (by kernel_rfl) (by kernel_rfl) W h (by rw [z3]; omega) (by rw [Nat.zero_add, show 94 = c3.size from z3.symm]; simp)) m5 ?_
  try simp only [Act.put, z1, z2, YtmbpckmpnnmnmacGreat.z3]
  refine tkP (i := 4) (oi := { dst := some 40, op := Op.nilCheck (Operand.tmp 36), type := 0, pos := "base.go:623", after := #[⟨0, .data⟩, ⟨0, .phase⟩, { on := 1, ground := Ground.textOnly Departure.lateStores }, ⟨2, .phase⟩, { on := 3, ground := Ground.textOnly Departure.lateStores }], guard := none }) (v := .pointer (some ⟨g, 0, none⟩)) m5 ?_
  try simp only [Act.put, z1, z2, YtmbpckmpnnmnmacGreat.z3]
  refine tkP (i := 5) (oi := { dst := some 41, op := Op.fieldAddr 55 (Operand.tmp 40) 0, type := 0, pos := "base.go:623", after := #[⟨4, .data⟩, ⟨0, .phase⟩, { on := 1, ground := Ground.textOnly Departure.lateStores }, ⟨2, .phase⟩, { on := 3, ground := Ground.textOnly Departure.lateStores }], guard := none }) (v := .pointer (some ⟨g, 0, none⟩)) m5 ?_
  try simp only [Act.put, z1, z2, YtmbpckmpnnmnmacGreat.z3]
  have m51 : (X4.drew.setRow g (splice (cs ++ (ds ++ (Sft.btl S.last (.int .i64 S.cr) (.int .i64 S.lf) (.int .i64 S.lc) (.int .i64 S.ld)))) 0 c3)).heap[g5]? = some (.cells c3 44) := by rw [setRow_other _ _ _ _ (unhide NG).1]; exact m5
  refine wpAnyH_ready (rs := [6]) (by kernel_rfl) (by simp) ?_
  refine AllReadyH.cons (o := { dst := none, op := Op.store 44 (Operand.tmp 41) (Operand.tmp 38), type := 0, pos := "base.go:623", after := #[⟨5, .data⟩, ⟨2, .data⟩, ⟨0, .phase⟩, { on := 1, ground := Ground.textOnly Departure.lateStores }, ⟨2, .phase⟩, { on := 3, ground := Ground.textOnly Departure.lateStores }], guard := none }) rfl (fun K hK => ?_) AllReadyH.nil
  rw [if_pos (by kernel_rfl)]
  refine Op1.st_part 44 (.tmp 41) (.tmp 38) (by kernel_rfl) (by kernel_rfl) (g := g) (o0 := 0) (cells := c3) (by kernel_rfl) (by kernel_rfl) (t := 55) (old := cs ++ (ds ++ (Sft.btl S.last (.int .i64 S.cr) (.int .i64 S.lf) (.int .i64 S.lc) (.int .i64 S.ld)))) (unhide hr4) (img_info z3) (by rw [Array.size_append, zi, z3]; omega) hall ?_
  refine hK.out _ _ m51 (fun hS1 => ?_)
  clear hK K
  try simp only [Act.put, z1, z2, YtmbpckmpnnmnmacGreat.z3]
  rw [splice_fst zi z3] at m51 hS1 ⊢
  refine tkP (i := 7) (oi := ⟨some 42, .nilCheck (.tmp 37), 0, "base.go:623", #[⟨1, .data⟩, ⟨0, .phase⟩, ⟨1, .phase⟩, ⟨2, .phase⟩, ⟨3, .phase⟩, ⟨4, .phase⟩, ⟨5, .phase⟩, ⟨6, .phase⟩], none⟩) (v := .pointer (some ⟨g, 0, none⟩)) hS1 ?_
  try simp only [Act.put, z1, z2, YtmbpckmpnnmnmacGreat.z3]
  refine tkP (i := 8) (oi := ⟨some 43, .fieldAddr 55 (.tmp 42) 1, 0, "base.go:623", #[⟨7, .data⟩, ⟨0, .phase⟩, ⟨1, .phase⟩, ⟨2, .phase⟩, ⟨3, .phase⟩, ⟨4, .phase⟩, ⟨5, .phase⟩, ⟨6, .phase⟩], none⟩) (v := .pointer (some ⟨g, 94, none⟩)) hS1 ?_
  try simp only [Act.put, z1, z2, YtmbpckmpnnmnmacGreat.z3]
  have m52 : ((X4.drew.setRow g (c3 ++ (ds ++ (Sft.btl S.last (.int .i64 S.cr) (.int .i64 S.lf) (.int .i64 S.lc) (.int .i64 S.ld))))).setRow g (splice (c3 ++ (ds ++ (Sft.btl S.last (.int .i64 S.cr) (.int .i64 S.lf) (.int .i64 S.lc) (.int .i64 S.ld)))) 94 c3)).heap[g5]? = some (.cells c3 44) := by rw [setRow_other _ _ _ _ (unhide NG).1]; exact m51
  refine wpAnyH_ready (rs := [9]) (by kernel_rfl) (by simp) ?_
  refine AllReadyH.cons (o := ⟨none, .store 44 (.tmp 43) (.tmp 39), 0, "base.go:623", #[⟨8, .data⟩, ⟨3, .data⟩, ⟨6, .chain⟩, ⟨0, .phase⟩, ⟨1, .phase⟩, ⟨2, .phase⟩, ⟨3, .phase⟩, ⟨4, .phase⟩, ⟨5, .phase⟩, ⟨6, .phase⟩], none⟩) rfl (fun K hK => ?_) AllReadyH.nil
  rw [if_pos (by kernel_rfl)]
  refine Op1.st_part 44 (.tmp 43) (.tmp 39) (by kernel_rfl) (by kernel_rfl) (g := g) (o0 := 94) (cells := c3) (by kernel_rfl) (by kernel_rfl) (t := 55) (old := c3 ++ (ds ++ (Sft.btl S.last (.int .i64 S.cr) (.int .i64 S.lf) (.int .i64 S.lc) (.int .i64 S.ld)))) (unhide MV1).row (img_info z3) (by rw [Array.size_append, Array.size_append, z3, zj]; omega) hall ?_
  refine hK.out _ _ m52 (fun hS2 => ?_)
  clear hK K
  try simp only [Act.put, z1, z2, YtmbpckmpnnmnmacGreat.z3]
  rw [splice3_snd z3 zj z3] at m52 hS2 ⊢
  refine wpAnyH_done (by kernel_rfl) ?_ _
  have M5 := hide m52
  clear hS hS1 hS2 m51 m52 m5 MV0 MV1
  have MV2 : Hid (Mv X4.drew ((X4.drew.setRow g (c3 ++ (ds ++ (Sft.btl S.last (.int .i64 S.cr) (.int .i64 S.lf) (.int .i64 S.lc) (.int .i64 S.ld))))).setRow g (c3 ++ (c3 ++ (Sft.btl S.last (.int .i64 S.cr) (.int .i64 S.lf) (.int .i64 S.lc) (.int .i64 S.ld))))) g (c3 ++ (c3 ++ (Sft.btl S.last (.int .i64 S.cr) (.int .i64 S.lf) (.int .i64 S.lc) (.int .i64 S.ld)))) 55) := MV2
  have m62 := hide (show ((X4.drew.setRow g (c3 ++ (ds ++ (Sft.btl S.last (.int .i64 S.cr) (.int .i64 S.lf) (.int .i64 S.lc) (.int .i64 S.ld))))).setRow g (c3 ++ (c3 ++ (Sft.btl S.last (.int .i64 S.cr) (.int .i64 S.lf) (.int .i64 S.lc) (.int .i64 S.ld))))).heap[g6]? = some (.cells #[.int .i64 nf, .int .i64 nc, .int .i64 nd] 78) by rw [(unhide MV2).old _ (Array.getElem?_eq_some_iff.1 (unhide m6)).1 (unhide NG).2]; exact unhide m6)
  clear hr4 m6
  generalize (X4.drew.setRow g (c3 ++ (ds ++ (Sft.btl S.last (.int .i64 S.cr) (.int .i64 S.lf) (.int .i64 S.lc) (.int .i64 S.ld))))).setRow g (c3 ++ (c3 ++ (Sft.btl S.last (.int .i64 S.cr) (.int .i64 S.lf) (.int .i64 S.lc) (.int .i64 S.ld)))) = X6 at MV2 M5 m62 ⊢
  have q3 : X6.cell? ⟨g, 189, none⟩ = some (.int .i64 S.cr) := by rw [cell_of_row _ _ _ _ _ _ (unhide MV2).row]; exact btl_get z3 z3 1
  have fz := fun i => frozen_of_row _ _ i _ _ (unhide MV2).row
  have MV3 := hide ((unhide MV2).trans (Mv.set (unhide MV2).row 189 (.int .i64 (S.cr + 1))))
  rw [btl_put z3 z3 1] at MV3
  go_upto_region 15 with fail
  try simp only [Act.put]
  have M53 := hide (show (X6.setCell ⟨g, 189, none⟩ (.int .i64 (S.cr + 1))).drew.heap[g5]? = some (.cells c3 44) by show (X6.setCell ⟨g, 189, none⟩ (.int .i64 (S.cr + 1))).heap[g5]? = _; rw [(Mv.set (unhide MV2).row 189 (.int .i64 (S.cr + 1))).old _ (Array.getElem?_eq_some_iff.1 (unhide M5)).1 (unhide NG).1]; exact unhide M5)
  have m63 : (X6.setCell ⟨g, 189, none⟩ (.int .i64 (S.cr + 1))).drew.heap[g6]? = some (.cells #[.int .i64 nf, .int .i64 nc, .int .i64 nd] 78) := by show (X6.setCell ⟨g, 189, none⟩ (.int .i64 (S.cr + 1))).heap[g6]? = _; rw [(Mv.set (unhide MV2).row 189 (.int .i64 (S.cr + 1))).old _ (Array.getElem?_eq_some_iff.1 (unhide m62)).1 (unhide NG).2]; exact unhide m62
  clear q3 fz M5 m62
  have MV3 : Hid (Mv X4.drew (X6.setCell ⟨g, 189, none⟩ (.int .i64 (S.cr + 1))).drew g (c3 ++ (c3 ++ Sft.btl S.last (.int .i64 (S.cr + 1)) (.int .i64 S.lf) (.int .i64 S.lc) (.int .i64 S.ld))) 55) := hide ⟨fun B h1 h2 => ((unhide MV3).below B h1 h2).drew, (unhide MV3).row, (unhide MV3).old⟩
  clear MV2
  generalize hX7 : (X6.setCell ⟨g, 189, none⟩ (.int .i64 (S.cr + 1))).drew = X7 at MV3 M53 m63
  refine wp_region_held_drew (S := fun (V : World) => V.heap[g6]? = some (.cells #[.int .i64 nf, .int .i64 nc, .int .i64 nd] 78)) (by kernel_rfl) (by rw [hX7]; exact m63) (fun hS => ?_)
  rw [hX7]
  refine tkP (i := 0) (oi := ⟨some 51, .move (.tmp 0), 27, "base.go:625", #[], none⟩) (v := .pointer (some ⟨g, 0, none⟩)) m63 ?_
  try simp only [Act.put, z1, z2, YtmbpckmpnnmnmacGreat.z3]
  refine tkP (i := 1) (oi := { dst := some 52, op := Op.move (Operand.tmp 0), type := 27, pos := "base.go:625", after := #[{ on := 11, ground := Ground.gcOnly Departure.lateStores }], guard := none }) (v := .pointer (some ⟨g, 0, none⟩)) m63 ?_
  try simp only [Act.put, z1, z2, YtmbpckmpnnmnmacGreat.z3]
  refine tkP (i := 2) (oi := { dst := some 53, op := Op.move (Operand.tmp 0), type := 27, pos := "base.go:625", after := #[{ on := 14, ground := Ground.gcOnly Departure.lateStores }], guard := none }) (v := .pointer (some ⟨g, 0, none⟩)) m63 ?_
  try simp only [Act.put, z1, z2, YtmbpckmpnnmnmacGreat.z3]
  refine tkP (i := 3) (oi := ⟨some 54, .indexAddr 78 (.tmp 6) (.const (.int .i64 0)), 0, "base.go:625", #[], none⟩) (v := .pointer (some ⟨g6, 0, none⟩)) m63 ?_
  try simp only [Act.put, z1, z2, YtmbpckmpnnmnmacGreat.z3]
  refine tkH (i := 4) (oi := ⟨some 55, .load 3 (.tmp 54), 3, "base.go:625", #[⟨3, .data⟩], none⟩) (v := .int .i64 nf) (fun W h => Lif.ld_int (g := g6) (o0 := 0) (.tmp 54) (by kernel_rfl) (by kernel_rfl) W (by rw [cell_of_row _ _ _ _ _ _ h]; rfl)) m63 ?_
  try simp only [Act.put, z1, z2, YtmbpckmpnnmnmacGreat.z3]
  refine tkP (i := 5) (oi := ⟨some 56, .indexAddr 78 (.tmp 6) (.const (.int .i64 1)), 0, "base.go:625", #[], none⟩) (v := .pointer (some ⟨g6, 1, none⟩)) m63 ?_
  try simp only [Act.put, z1, z2, YtmbpckmpnnmnmacGreat.z3]
  refine tkH (i := 6) (oi := ⟨some 57, .load 3 (.tmp 56), 3, "base.go:625", #[⟨5, .data⟩], none⟩) (v := .int .i64 nc) (fun W h => Lif.ld_int (g := g6) (o0 := 1) (.tmp 56) (by kernel_rfl) (by kernel_rfl) W (by rw [cell_of_row _ _ _ _ _ _ h]; rfl)) m63 ?_
  try simp only [Act.put, z1, z2, YtmbpckmpnnmnmacGreat.z3]
  refine tkP (i := 7) (oi := ⟨some 58, .indexAddr 78 (.tmp 6) (.const (.int .i64 2)), 0, "base.go:625", #[], none⟩) (v := .pointer (some ⟨g6, 2, none⟩)) m63 ?_
  try simp only [Act.put, z1, z2, YtmbpckmpnnmnmacGreat.z3]
  refine tkH (i := 8) (oi := ⟨some 59, .load 3 (.tmp 58), 3, "base.go:625", #[⟨7, .data⟩], none⟩) (v := .int .i64 nd) (fun W h => Lif.ld_int (g := g6) (o0 := 2) (.tmp 58) (by kernel_rfl) (by kernel_rfl) W (by rw [cell_of_row _ _ _ _ _ _ h]; rfl)) m63 ?_
  try simp only [Act.put, z1, z2, YtmbpckmpnnmnmacGreat.z3]
  refine tkP (i := 9) (oi := { dst := some 60, op := Op.nilCheck (Operand.tmp 51), type := 0, pos := "base.go:625", after := #[⟨0, .data⟩, ⟨0, .phase⟩, { on := 1, ground := Ground.textOnly Departure.lateStores }, { on := 2, ground := Ground.textOnly Departure.lateStores }, ⟨3, .phase⟩, ⟨4, .phase⟩, { on := 5, ground := Ground.textOnly Departure.lateStoresUnsure }, { on := 6, ground := Ground.textOnly Departure.lateStoresUnsure }, { on := 7, ground := Ground.textOnly Departure.lateStoresUnsure }, { on := 8, ground := Ground.textOnly Departure.lateStoresUnsure }], guard := none }) (v := .pointer (some ⟨g, 0, none⟩)) m63 ?_
  try simp only [Act.put, z1, z2, YtmbpckmpnnmnmacGreat.z3]
  refine tkP (i := 10) (oi := { dst := some 61, op := Op.fieldAddr 55 (Operand.tmp 60) 4, type := 0, pos := "base.go:625", after := #[⟨9, .data⟩, ⟨0, .phase⟩, { on := 1, ground := Ground.textOnly Departure.lateStores }, { on := 2, ground := Ground.textOnly Departure.lateStores }, ⟨3, .phase⟩, ⟨4, .phase⟩, { on := 5, ground := Ground.textOnly Departure.lateStoresUnsure }, { on := 6, ground := Ground.textOnly Departure.lateStoresUnsure }, { on := 7, ground := Ground.textOnly Departure.lateStoresUnsure }, { on := 8, ground := Ground.textOnly Departure.lateStoresUnsure }], guard := none }) (v := .pointer (some ⟨g, 190, none⟩)) m63 ?_
  try simp only [Act.put, z1, z2, YtmbpckmpnnmnmacGreat.z3]
  have M5m63 := M53
  refine wpAnyH_ready (rs := [11]) (by kernel_rfl) (by simp) ?_
  refine AllReadyH.cons (o := { dst := none, op := Op.store 3 (Operand.tmp 61) (Operand.tmp 55), type := 0, pos := "base.go:625", after := #[⟨10, .data⟩, ⟨4, .data⟩, ⟨0, .phase⟩, { on := 1, ground := Ground.textOnly Departure.lateStores }, { on := 2, ground := Ground.textOnly Departure.lateStores }, ⟨3, .phase⟩, ⟨4, .phase⟩, { on := 5, ground := Ground.textOnly Departure.lateStoresUnsure }, { on := 6, ground := Ground.textOnly Departure.lateStoresUnsure }, { on := 7, ground := Ground.textOnly Departure.lateStoresUnsure }, { on := 8, ground := Ground.textOnly Departure.lateStoresUnsure }], guard := none }) rfl (fun K hK => ?_) AllReadyH.nil
  rw [if_pos (by kernel_rfl)]
  refine Op1.st_int (.tmp 61) (.tmp 55) (by kernel_rfl) rfl (g := g) (o0 := 190) (v := nf) (by kernel_rfl) (by kernel_rfl) (u := _) (by rw [cell_of_row _ _ _ _ _ _ (unhide MV3).row]; exact btl_get z3 z3 2) (frozen_of_row _ _ _ _ _ (unhide MV3).row) ?_
  have MV4 := hide ((unhide MV3).trans (Mv.set (unhide MV3).row 190 (.int .i64 nf)))
  rw [btl_put z3 z3 2] at MV4
  have MV4 : Hid (Mv X4.drew (X7.setCell ⟨g, 190, none⟩ (.int .i64 nf)) g (c3 ++ (c3 ++ Sft.btl S.last (.int .i64 (S.cr + 1)) (.int .i64 nf) (.int .i64 S.lc) (.int .i64 S.ld))) 55) := MV4
  have m64 : (X7.setCell ⟨g, 190, none⟩ (.int .i64 nf)).heap[g6]? = some (.cells #[.int .i64 nf, .int .i64 nc, .int .i64 nd] 78) := by rw [(Mv.set (unhide MV3).row 190 (.int .i64 nf)).old _ (Array.getElem?_eq_some_iff.1 m63).1 (unhide NG).2]; exact m63
  have M5m64 := hide (show (X7.setCell ⟨g, 190, none⟩ (.int .i64 nf)).heap[g5]? = some (.cells c3 44) by rw [(Mv.set (unhide MV3).row 190 (.int .i64 nf)).old _ (Array.getElem?_eq_some_iff.1 (unhide M5m63)).1 (unhide NG).1]; exact unhide M5m63)
  refine hK.out _ _ m64 (fun hS11 => ?_)
  clear hK K
  try simp only [Act.put, z1, z2, YtmbpckmpnnmnmacGreat.z3]
  generalize X7.setCell ⟨g, 190, none⟩ (.int .i64 nf) = X8 at MV4 m64 M5m64 hS11 ⊢
  refine tkP (i := 12) (oi := { dst := some 62, op := Op.nilCheck (Operand.tmp 52), type := 0, pos := "base.go:625", after := #[⟨1, .data⟩, ⟨0, .phase⟩, ⟨1, .phase⟩, { on := 2, ground := Ground.textOnly Departure.lateStores }, ⟨3, .phase⟩, ⟨4, .phase⟩, ⟨5, .phase⟩, ⟨6, .phase⟩, { on := 7, ground := Ground.textOnly Departure.lateStoresUnsure }, { on := 8, ground := Ground.textOnly Departure.lateStoresUnsure }, ⟨9, .phase⟩, ⟨10, .phase⟩, ⟨11, .phase⟩], guard := none }) (v := .pointer (some ⟨g, 0, none⟩)) hS11 ?_
  try simp only [Act.put, z1, z2, YtmbpckmpnnmnmacGreat.z3]
  refine tkP (i := 13) (oi := { dst := some 63, op := Op.fieldAddr 55 (Operand.tmp 62) 5, type := 0, pos := "base.go:625", after := #[⟨12, .data⟩, ⟨0, .phase⟩, ⟨1, .phase⟩, { on := 2, ground := Ground.textOnly Departure.lateStores }, ⟨3, .phase⟩, ⟨4, .phase⟩, ⟨5, .phase⟩, ⟨6, .phase⟩, { on := 7, ground := Ground.textOnly Departure.lateStoresUnsure }, { on := 8, ground := Ground.textOnly Departure.lateStoresUnsure }, ⟨9, .phase⟩, ⟨10, .phase⟩, ⟨11, .phase⟩], guard := none }) (v := .pointer (some ⟨g, 191, none⟩)) hS11 ?_
  try simp only [Act.put, z1, z2, YtmbpckmpnnmnmacGreat.z3]
  refine wpAnyH_ready (rs := [14]) (by kernel_rfl) (by simp) ?_
  refine AllReadyH.cons (o := { dst := none, op := Op.store 3 (Operand.tmp 63) (Operand.tmp 57), type := 0, pos := "base.go:625", after := #[⟨13, .data⟩, ⟨6, .data⟩, ⟨11, .chain⟩, ⟨0, .phase⟩, ⟨1, .phase⟩, { on := 2, ground := Ground.textOnly Departure.lateStores }, ⟨3, .phase⟩, ⟨4, .phase⟩, ⟨5, .phase⟩, ⟨6, .phase⟩, { on := 7, ground := Ground.textOnly Departure.lateStoresUnsure }, { on := 8, ground := Ground.textOnly Departure.lateStoresUnsure }, ⟨9, .phase⟩, ⟨10, .phase⟩, ⟨11, .phase⟩], guard := none }) rfl (fun K hK => ?_) AllReadyH.nil
  rw [if_pos (by kernel_rfl)]
  refine Op1.st_int (.tmp 63) (.tmp 57) (by kernel_rfl) rfl (g := g) (o0 := 191) (v := nc) (by kernel_rfl) (by kernel_rfl) (u := _) (by rw [cell_of_row _ _ _ _ _ _ (unhide MV4).row]; exact btl_get z3 z3 3) (frozen_of_row _ _ _ _ _ (unhide MV4).row) ?_
  have MV5 := hide ((unhide MV4).trans (Mv.set (unhide MV4).row 191 (.int .i64 nc)))
  rw [btl_put z3 z3 3] at MV5
  have MV5 : Hid (Mv X4.drew (X8.setCell ⟨g, 191, none⟩ (.int .i64 nc)) g (c3 ++ (c3 ++ Sft.btl S.last (.int .i64 (S.cr + 1)) (.int .i64 nf) (.int .i64 nc) (.int .i64 S.ld))) 55) := MV5
  have m65 : (X8.setCell ⟨g, 191, none⟩ (.int .i64 nc)).heap[g6]? = some (.cells #[.int .i64 nf, .int .i64 nc, .int .i64 nd] 78) := by rw [(Mv.set (unhide MV4).row 191 (.int .i64 nc)).old _ (Array.getElem?_eq_some_iff.1 m64).1 (unhide NG).2]; exact m64
  have M5m65 := hide (show (X8.setCell ⟨g, 191, none⟩ (.int .i64 nc)).heap[g5]? = some (.cells c3 44) by rw [(Mv.set (unhide MV4).row 191 (.int .i64 nc)).old _ (Array.getElem?_eq_some_iff.1 (unhide M5m64)).1 (unhide NG).1]; exact unhide M5m64)
  refine hK.out _ _ m65 (fun hS14 => ?_)
  clear hK K
  try simp only [Act.put, z1, z2, YtmbpckmpnnmnmacGreat.z3]
  generalize X8.setCell ⟨g, 191, none⟩ (.int .i64 nc) = X9 at MV5 m65 M5m65 hS14 ⊢
  refine tkP (i := 15) (oi := ⟨some 64, .nilCheck (.tmp 53), 0, "base.go:625", #[⟨2, .data⟩, ⟨0, .phase⟩, ⟨1, .phase⟩, ⟨2, .phase⟩, ⟨3, .phase⟩, ⟨4, .phase⟩, ⟨5, .phase⟩, ⟨6, .phase⟩, ⟨7, .phase⟩, ⟨8, .phase⟩, ⟨9, .phase⟩, ⟨10, .phase⟩, ⟨11, .phase⟩, ⟨12, .phase⟩, ⟨13, .phase⟩, ⟨14, .phase⟩], none⟩) (v := .pointer (some ⟨g, 0, none⟩)) hS14 ?_
  try simp only [Act.put, z1, z2, YtmbpckmpnnmnmacGreat.z3]
  refine tkP (i := 16) (oi := ⟨some 65, .fieldAddr 55 (.tmp 64) 6, 0, "base.go:625", #[⟨15, .data⟩, ⟨0, .phase⟩, ⟨1, .phase⟩, ⟨2, .phase⟩, ⟨3, .phase⟩, ⟨4, .phase⟩, ⟨5, .phase⟩, ⟨6, .phase⟩, ⟨7, .phase⟩, ⟨8, .phase⟩, ⟨9, .phase⟩, ⟨10, .phase⟩, ⟨11, .phase⟩, ⟨12, .phase⟩, ⟨13, .phase⟩, ⟨14, .phase⟩], none⟩) (v := .pointer (some ⟨g, 192, none⟩)) hS14 ?_
  try simp only [Act.put, z1, z2, YtmbpckmpnnmnmacGreat.z3]
  refine wpAnyH_ready (rs := [17]) (by kernel_rfl) (by simp) ?_
  refine AllReadyH.cons (o := ⟨none, .store 3 (.tmp 65) (.tmp 59), 0, "base.go:625", #[⟨16, .data⟩, ⟨8, .data⟩, ⟨14, .chain⟩, ⟨0, .phase⟩, ⟨1, .phase⟩, ⟨2, .phase⟩, ⟨3, .phase⟩, ⟨4, .phase⟩, ⟨5, .phase⟩, ⟨6, .phase⟩, ⟨7, .phase⟩, ⟨8, .phase⟩, ⟨9, .phase⟩, ⟨10, .phase⟩, ⟨11, .phase⟩, ⟨12, .phase⟩, ⟨13, .phase⟩, ⟨14, .phase⟩], none⟩) rfl (fun K hK => ?_) AllReadyH.nil
  rw [if_pos (by kernel_rfl)]
  refine Op1.st_int (.tmp 65) (.tmp 59) (by kernel_rfl) rfl (g := g) (o0 := 192) (v := nd) (by kernel_rfl) (by kernel_rfl) (u := _) (by rw [cell_of_row _ _ _ _ _ _ (unhide MV5).row]; exact btl_get z3 z3 4) (frozen_of_row _ _ _ _ _ (unhide MV5).row) ?_
  have MV6 := hide ((unhide MV5).trans (Mv.set (unhide MV5).row 192 (.int .i64 nd)))
  rw [btl_put z3 z3 4] at MV6
  have MV6 : Hid (Mv X4.drew (X9.setCell ⟨g, 192, none⟩ (.int .i64 nd)) g (c3 ++ (c3 ++ Sft.btl S.last (.int .i64 (S.cr + 1)) (.int .i64 nf) (.int .i64 nc) (.int .i64 nd))) 55) := MV6
  have m66 : (X9.setCell ⟨g, 192, none⟩ (.int .i64 nd)).heap[g6]? = some (.cells #[.int .i64 nf, .int .i64 nc, .int .i64 nd] 78) := by rw [(Mv.set (unhide MV5).row 192 (.int .i64 nd)).old _ (Array.getElem?_eq_some_iff.1 m65).1 (unhide NG).2]; exact m65
  have M5m66 := hide (show (X9.setCell ⟨g, 192, none⟩ (.int .i64 nd)).heap[g5]? = some (.cells c3 44) by rw [(Mv.set (unhide MV5).row 192 (.int .i64 nd)).old _ (Array.getElem?_eq_some_iff.1 (unhide M5m65)).1 (unhide NG).1]; exact unhide M5m65)
  refine hK.out _ _ m66 (fun hS17 => ?_)
  clear hK K
  try simp only [Act.put, z1, z2, YtmbpckmpnnmnmacGreat.z3]
  generalize X9.setCell ⟨g, 192, none⟩ (.int .i64 nd) = X10 at MV6 m66 M5m66 hS17 ⊢
  refine wpAnyH_done (by kernel_rfl) ?_ _
  have M5 := M5m66
  clear hS hS11 hS14 hS17 m63 m64 m65 m66 MV3 MV4 MV5 M5m63 M5m64 M5m65 M5m66 M53 hX7
  have q2 : X10.cell? ⟨g, 188, none⟩ = some (.int .i64 S.last) := by rw [cell_of_row _ _ _ _ _ _ (unhide MV6).row]; exact btl_get z3 z3 0
  have fz := fun i => frozen_of_row _ _ i _ _ (unhide MV6).row
  have MV7 := hide ((unhide MV6).trans (Mv.set (unhide MV6).row 188 (.int .i64 0)))
  rw [btl_put z3 z3 0] at MV7
  have MV7 : Hid (Mv X4.drew (X10.setCell ⟨g, 188, none⟩ (.int .i64 0)) g (c3 ++ (c3 ++ Sft.btl 0 (.int .i64 (S.cr + 1)) (.int .i64 nf) (.int .i64 nc) (.int .i64 nd))) 55) := MV7
  have M57 := hide (show (X10.setCell ⟨g, 188, none⟩ (.int .i64 0)).heap[g5]? = some (.cells c3 44) by rw [(Mv.set (unhide MV6).row 188 (.int .i64 0)).old _ (Array.getElem?_eq_some_iff.1 (unhide M5)).1 (unhide NG).1]; exact unhide M5)
  go_upto_region 17 with fail
  try simp only [Act.put]
  generalize X10.setCell ⟨g, 188, none⟩ (.int .i64 0) = X11 at MV7 M57 ⊢
  clear q2 fz M5 MV6
  go_wp2_with fail
  go_loopw [8] (fun i wr => ∃ q : Nat, q ≤ 8 ∧ i = .int .i64 q ∧ Hid (Mv X4.drew wr g (c3 ++ (c3 ++ Sft.btl (Img.topTo (Img.mend S.disk) q) (.int .i64 (S.cr + 1)) (.int .i64 nf) (.int .i64 nc) (.int .i64 nd))) 55) ∧ Hid (wr.heap[g5]? = some (.cells c3 44))) (fun i _ => 8 - (intOf i).toNat)
  case atStart => exact ⟨0, Nat.zero_le _, rfl, MV7, M57⟩
  case round =>
    clear MV7 M57
    obtain ⟨q, hq, rfl, MV, M5⟩ := hrel
    by_cases hq8 : q < 8
    case neg =>
      have t8 : decide ((q : Int) < 8) = false := by simp; omega
      have e8 : q = 8 := by omega
      subst e8
      go_wp2_with fail
      go_ret
      refine ⟨rfl, ⟨c3, c3, ?_, i3, i3⟩, ?_⟩
      · have := (unhide MV).row
        rw [unhide EF, unhide EC, unhide ED] at this
        exact this
      · exact (Idl.Chg.of_below (own := fun i => i = g) (unhide B45)).trans ((Idl.Chg.of_below (own := fun i => i = g) (Below.refl _ X4).drew).trans (chg_mv (unhide MV)) (fun i hi => .inl hi)) (fun i hi => .inl hi)
    have t8 : decide ((q : Int) < 8) = true := by simp; omega
    have jq : (q : Int) < 8 := by omega
    have MVd : Hid (Mv X4.drew wr.drew g (c3 ++ (c3 ++ Sft.btl (Img.topTo (Img.mend S.disk) q) (.int .i64 (S.cr + 1)) (.int .i64 nf) (.int .i64 nc) (.int .i64 nd))) 55) := hide ⟨fun B h1 h2 => ((unhide MV).below B h1 h2).drew, (unhide MV).row, (unhide MV).old⟩
    have M5d : Hid (wr.drew.heap[g5]? = some (.cells c3 44)) := M5
    clear MV M5
    have hs20 : wr.drew.heap[g5]? = some (.cells c3 44) ∧ wr.drew.cell? ⟨g, 188, none⟩ = some (.int .i64 (Img.topTo (Img.mend S.disk) q)) := ⟨unhide M5d, by rw [cell_of_row _ _ _ _ _ _ (unhide MVd).row]; exact btl_get z3 z3 0⟩
    have HST := hide fun (V : World) (h : V.heap[g5]? = some (.cells c3 44)) => show V.cell? ⟨g5, q * 5 + 1, none⟩ = some (.int .i64 ((Img.mend S.disk).stamp q)) by
      rw [cell_of_row _ _ _ _ _ _ h]; exact i3.stamp q hq8
    obtain ⟨bt, hbt⟩ : ∃ b : Bool, b = decide (Img.topTo (Img.mend S.disk) q < (Img.mend S.disk).stamp q) := ⟨_, rfl⟩
    have HBT := hide hbt
    go_upto_region 20 with fail
    refine wp_region_held_drew (S := fun (V : World) => V.heap[g5]? = some (.cells c3 44) ∧ V.cell? ⟨g, 188, none⟩ = some (.int .i64 (Img.topTo (Img.mend S.disk) q))) (by kernel_rfl) (hs20) (fun hS => ?_)
    refine tkP (i := 0) (oi := ⟨some 73, .move (.tmp 8), 3, "base.go:628", #[], none⟩) (v := .int .i64 (q : Int)) hs20 ?_
    try simp only [Act.put, z1, z2, YtmbpckmpnnmnmacGreat.z3]
    refine tkP (i := 1) (oi := ⟨some 74, .fieldAddr 44 (.tmp 5) 0, 0, "base.go:628", #[], none⟩) (v := .pointer (some ⟨g5, 0, none⟩)) hs20 ?_
    try simp only [Act.put, z1, z2, YtmbpckmpnnmnmacGreat.z3]
    refine tkH (i := 2) (oi := ⟨some 75, .indexAddr 35 (.tmp 74) (.tmp 73), 0, "base.go:628", #[⟨1, .data⟩, ⟨0, .data⟩], none⟩) (v := .pointer (some ⟨g5, q * 5, none⟩)) (fun W h => Lif.ix_inos (.tmp 74) (.tmp 73) (by kernel_rfl) (by kernel_rfl) (by kernel_rfl) hq8 W) hs20 ?_
    try simp only [Act.put, z1, z2, YtmbpckmpnnmnmacGreat.z3]
    refine tkP (i := 3) (oi := ⟨some 76, .fieldAddr 34 (.tmp 75) 1, 0, "base.go:628", #[⟨2, .data⟩], none⟩) (v := .pointer (some ⟨g5, q * 5 + 1, none⟩)) hs20 ?_
    try simp only [Act.put, z1, z2, YtmbpckmpnnmnmacGreat.z3]
    refine tkH (i := 4) (oi := ⟨some 77, .load 3 (.tmp 76), 3, "base.go:628", #[⟨3, .data⟩], none⟩) (v := .int .i64 ((Img.mend S.disk).stamp q)) (fun W h => Lif.ld_int (.tmp 76) (by kernel_rfl) (by kernel_rfl) W (unhide HST W h.1)) hs20 ?_
    try simp only [Act.put, z1, z2, YtmbpckmpnnmnmacGreat.z3]
    refine tkP (i := 5) (oi := ⟨some 78, .move (.tmp 0), 27, "base.go:628", #[], none⟩) (v := .pointer (some ⟨g, 0, none⟩)) hs20 ?_
    try simp only [Act.put, z1, z2, YtmbpckmpnnmnmacGreat.z3]
    refine tkP (i := 6) (oi := ⟨some 79, .nilCheck (.tmp 78), 0, "base.go:628", #[⟨5, .data⟩], none⟩) (v := .pointer (some ⟨g, 0, none⟩)) hs20 ?_
    try simp only [Act.put, z1, z2, YtmbpckmpnnmnmacGreat.z3]
    refine tkP (i := 7) (oi := ⟨some 80, .fieldAddr 55 (.tmp 79) 2, 0, "base.go:628", #[⟨6, .data⟩], none⟩) (v := .pointer (some ⟨g, 188, none⟩)) hs20 ?_
    try simp only [Act.put, z1, z2, YtmbpckmpnnmnmacGreat.z3]
    refine tkH (i := 8) (oi := ⟨some 81, .load 3 (.tmp 80), 3, "base.go:628", #[⟨7, .data⟩], none⟩) (v := .int .i64 (Img.topTo (Img.mend S.disk) q)) (fun W h => Lif.ld_int (.tmp 80) (by kernel_rfl) (by kernel_rfl) W h.2) hs20 ?_
    try simp only [Act.put, z1, z2, YtmbpckmpnnmnmacGreat.z3]
    refine tkH (i := 9) (oi := ⟨some 82, .binOp .gtr 3 (.tmp 77) (.tmp 81) 3, 4, "base.go:628", #[⟨4, .data⟩, ⟨8, .data⟩], none⟩) (v := .bool bt) (fun W h => Lif.gtrb (.tmp 77) (.tmp 81) (by kernel_rfl) (by kernel_rfl) (by kernel_rfl) hbt.symm W) hs20 ?_
    try simp only [Act.put, z1, z2, YtmbpckmpnnmnmacGreat.z3]
    refine wpAnyH_done (by kernel_rfl) ?_ _
    clear hS hbt
    have q1 := unhide HST wr.drew (unhide M5d)
    have q2 := hs20.2
    have fz := fun i => frozen_of_row _ _ i _ _ (unhide MVd).row
    clear hs20 HST
    cases bt
    case false =>
      have ET := hide (show Img.topTo (Img.mend S.disk) (q + 1) = Img.topTo (Img.mend S.disk) q from if_neg (fun z => by have := unhide HBT; rw [decide_eq_true z] at this; cases this))
      go_wp2_with fail
      go_roundw
      case rel => exact ⟨q + 1, by omega, by go_num, by rw [unhide ET]; exact MVd, M5d⟩
      case measure => simp [intOf]; omega
    have ET := hide (show Img.topTo (Img.mend S.disk) (q + 1) = (Img.mend S.disk).stamp q from if_pos (of_decide_eq_true (unhide HBT).symm))
    have MV9 := hide ((unhide MVd).trans (Mv.set (unhide MVd).row 188 (.int .i64 ((Img.mend S.disk).stamp q))))
    rw [btl_put z3 z3 0] at MV9
    have MV9 : Hid (Mv X4.drew (wr.drew.setCell ⟨g, 188, none⟩ (.int .i64 ((Img.mend S.disk).stamp q))) g (c3 ++ (c3 ++ Sft.btl ((Img.mend S.disk).stamp q) (.int .i64 (S.cr + 1)) (.int .i64 nf) (.int .i64 nc) (.int .i64 nd))) 55) := MV9
    have M59 := hide (show (wr.drew.setCell ⟨g, 188, none⟩ (.int .i64 ((Img.mend S.disk).stamp q))).heap[g5]? = some (.cells c3 44) by rw [(Mv.set (unhide MVd).row 188 (.int .i64 ((Img.mend S.disk).stamp q))).old _ (Array.getElem?_eq_some_iff.1 (unhide M5d)).1 (unhide NG).1]; exact unhide M5d)
    go_wp2_with fail
    go_roundw
    case rel => exact ⟨q + 1, by omega, by go_num, by rw [unhide ET]; exact MV9, M59⟩
    case measure => simp [intOf]; omega
theorem bStep_any (h : Bl W g S) {n : Nat} (hO : S.Ok n) (hn : n ≤ 1000000) (x : Stp) (h1 : x.name.size ≤ maxLen) (h2 : x.to.size ≤ maxLen) (h3 : x.text.size ≤ maxLen) :
    Calls Tryz.prog 17 #[.pointer (some ⟨g, 0, none⟩), .agg (stpA x)] W fun e w' => e = .returned (.int .i64 (S.code x)) ∧ Bl w' g (S.step x) ∧ Idl.Chg (fun i => i = g) W w' := by
  by_cases h9 : x.kind = 9
  · rw [(S.step_nine h9).1, (S.step_nine h9).2]; exact bStep_crash h hO hn x h9
  · exact bStep_plain h hO hn x h1 h2 h3 h9
end
end Go.Proofs.YtmbpckmpnnmnmacGreat
