/-
  The law SoftDoes: its walk. (Written by gensd.py.)
-/
import Derived.Test.YtmbpckmpnnmnmabGreatZz
import Derived.Test.YtmbpckmpnnmnmabGreatYr
import Derived.Test.YtmbpckmpnnmnmabGreatYp
import Derived.Test.YtmbpckmpnnmnmabGreatYq
import Derived.Test.YtmbpckmpnnmnmabGreatYs
import Derived.Test.YtmbpckmpnnmnmabGreatYm
namespace Go.Proofs.YtmbpckmpnnmnmabGreat
open Go.RowKit
open Idl (Stp chk stpA)
/-- what the loop over the steps keeps -/
structure Sd (m : Img) (last : Int) (n : Nat) : Prop where
  good : Img.Good m last
  few : last ≤ 1099511627776 + n
theorem Sd.any {m : Img} {last : Int} {n : Nat} (h : Sd m last n) (k : Img) (x : Stp) : Sd (Img.anow m k last x) (Img.alast m k last x) (n + 1) := by
  have hf := h.few
  unfold Img.anow Img.alast
  by_cases hk : x.kind = 7 ∨ x.kind = 8 ∨ x.kind = 9
  · rw [if_pos hk, if_pos hk]; exact ⟨h.good, by omega⟩
  · rw [if_neg hk, if_neg hk]
    exact ⟨Img.good_step h.good x, by have := Img.slast_le (now := m) (disk := k) (last := last) x; omega⟩
/-- the files' pointer, their images, and the bed's -/
structure TwoS (bf bc gb : Nat) (cs ds bs : Array Value) (V : World) : Prop where
  p1 : V.cell? ⟨bf, 0, none⟩ = some (.pointer (some ⟨bc, 0, none⟩))
  l1 : bf < V.heap.size
  row : V.heap[bc]? = some (.cells (cs ++ ds) 57)
  bed : V.heap[gb]? = some (.cells bs 48)
theorem TwoS.below {bf bc gb : Nat} {cs ds bs : Array Value} {V V' : World} (h : TwoS bf bc gb cs ds bs V) (hb : Below V.heap.size V V') : TwoS bf bc gb cs ds bs V' :=
  ⟨by rw [hb.cell (p := ⟨bf, 0, none⟩) h.l1]; exact h.p1, Nat.lt_of_lt_of_le h.l1 hb.size, by rw [hb.block _ (Array.getElem?_eq_some_iff.1 h.row).1]; exact h.row, by rw [hb.block _ (Array.getElem?_eq_some_iff.1 h.bed).1]; exact h.bed⟩
theorem wpAnyH_mono2 {P : Program} {ops : Array Oper} {Q : Exit → Act → World → Prop} {md : Region.Mode} {S S' : World → Prop} (h : ∀ w, S' w → S w) : ∀ (fuel : Nat) (listed : Array Bool) (a : Act) (w : World), wpAnyH P md ops Q S' fuel listed a w → wpAnyH P md ops Q S fuel listed a w
  | 0, _, _, _, hh => hh
  | fuel + 1, _, _, _, hh => ⟨hh.1, fun i hi => wpOp_mono (fun a' w' h' => ⟨h w' h'.1, wpAnyH_mono2 h fuel _ a' w' h'.2⟩) (hh.2 i hi)⟩
theorem wp_value {P : Program} {o : Oper} {a : Act} {w : World} {K : Act → World → Prop} {Q : Exit → Act → World → Prop} {v : Value} (h0 : (execOp a.eval o).run P w = .ok (.value v) w) (h : K (a.put o.dst v) w) : Oper.wp P o a w K Q := by
  unfold Oper.wp
  rw [h0]
  exact h
theorem ld_img2 {o : Oper} {ρ : Operand → Value} (x : Operand) (ho : o.op = .load 34 x) {g off : Nat} (hx : ρ x = .pointer (some ⟨g, off, none⟩)) {t : TypeId} {cs vs : Array Value} (w : World)
    (hg : w.heap[g]? = some (.cells cs t (0, 0))) (hn : off + 94 ≤ cs.size) (hv : cs.extract off (off + 94) = vs) : (execOp ρ o).run Tryz.prog w = .ok (.value (.agg vs)) w := by
  subst hv
  unfold execOp
  simp only [ho, hx, Instr.loadAt, Instr.sureAddr, Sem.run_bind, Sem.run_pure, Result.andThen_ok, run_loadVar_part w g off 94 t 34 cs _ hg img_under rfl zero_img.2 hn]
theorem run_exec_nev2 {P : Program} {o : Oper} {ρ : Operand → Value} (ty tz : TypeId) (x y : Operand) (ho : o.op = .binOp .neq ty x y tz) (cs ds : Array Value) (hx : ρ x = .agg cs) (hy : ρ y = .agg ds) (v : Bool)
    (hm : P.eqGuardType P.depth ty = false) (hq : ∀ w, (binOp .neq ty (.agg cs) (.agg ds)).run P w = .ok (.bool v) w) (w : World) : (execOp ρ o).run P w = .ok (.value (.bool v)) w := by
  unfold execOp
  rw [ho]
  go_simp
theorem eq_str {o : Oper} {ρ : Operand → Value} (x y : Operand) (ho : o.op = .binOp .eql 9 x y 9) {s : ByteArray} (hx : ρ x = .string s) (hy : ρ y = .string s) (w : World) : (execOp ρ o).run Tryz.prog w = .ok (.value (.bool true)) w := by
  have h : (s.toList == s.toList) = true := by simp
  unfold execOp
  rw [ho]
  go_simp
theorem eq_bool {o : Oper} {ρ : Operand → Value} (x y : Operand) (ho : o.op = .binOp .eql 4 x y 4) {s : Bool} (hx : ρ x = .bool s) (hy : ρ y = .bool s) (w : World) : (execOp ρ o).run Tryz.prog w = .ok (.value (.bool true)) w := by
  have h : (s == s) = true := by simp
  unfold execOp
  rw [ho]
  go_simp
theorem eq_int {o : Oper} {ρ : Operand → Value} (x y : Operand) (ho : o.op = .binOp .eql 3 x y 3) {s : Int} (hx : ρ x = .int .i64 s) (hy : ρ y = .int .i64 s) (w : World) : (execOp ρ o).run Tryz.prog w = .ok (.value (.bool true)) w := by
  unfold execOp
  rw [ho]
  go_simp
theorem snames_short (m : Img) (hm : m.check = 0) (d : Int) : (Img.snames m d).length ≤ 1000 := by
  by_cases h : 0 ≤ d ∧ d < 3
  · obtain ⟨q, rfl⟩ := Int.eq_ofNat_of_zero_le h.1
    have := Sft.snames_len m hm (d := q) (by omega)
    omega
  · unfold Img.snames; rw [if_neg h]; simp
theorem Op1.maxI {o : Oper} {ρ : Operand → Value} (x y : Operand) (ho : o.op = .call { callee := .builtin .max, args := #[x, y], argTypes := #[3, 3] }) {u v : Int} (hx : ρ x = .int .i64 u) (hy : ρ y = .int .i64 v) (w : World) : (execOp ρ o).run Tryz.prog w = .ok (.value (.int .i64 (if v > u then v else u))) w := by
  unfold execOp
  rw [ho]
  go_simp
  by_cases c : u < v
  · rw [if_pos c]; omega
  · rw [if_neg c]; omega
/-- the greatest Stamp so far -/
structure Sft.Up (m : Img) (i : Nat) (st : Int) : Prop where
  lo : 0 ≤ st
  all : ∀ n, n < i → m.stamp n ≤ st
  one : st = 0 ∨ ∃ n, n < 8 ∧ st = m.stamp n
theorem Sft.Up.next {m : Img} {i : Nat} {st : Int} (h : Sft.Up m i st) (hi : i < 8) : Sft.Up m (i + 1) (if m.stamp i > st then m.stamp i else st) := by
  by_cases c : m.stamp i > st
  · rw [if_pos c]
    refine ⟨by have := h.lo; omega, fun n hn => ?_, .inr ⟨i, hi, rfl⟩⟩
    by_cases e : n = i
    · rw [e]; exact Int.le_refl _
    · have := h.all n (by omega); omega
  · rw [if_neg c]
    refine ⟨h.lo, fun n hn => ?_, h.one⟩
    by_cases e : n = i
    · rw [e]; omega
    · exact h.all n (by omega)
theorem Sft.stamp_lo {m : Img} (h : m.check = 0) {n : Nat} (hn : n < 8) : 0 ≤ m.stamp n := by
  cases hl : m.live n
  · have h0 := (Img.well_iff.1 h).inode n hn
    unfold Img.checkInode at h0
    rw [if_pos hl] at h0
    by_cases e : m.free n
    · have z : m.stamp n = 0 := by unfold Img.free at e; simp_all
      omega
    · rw [if_neg e] at h0; simp at h0
  · have := (Img.inode_parts_ok h hn hl).1; omega
theorem Sft.Up.last {m : Img} {st last : Int} (h : Sft.Up m 8 st) (hc : m.check = 0) {b : Nat} (hl : last = m.stamp b) (hm : Maxi m b 8) : st = last := by
  have h1 := h.all b hm.1
  rcases h.one with z | ⟨n, hn, z⟩
  · have := Sft.stamp_lo hc hm.1; omega
  · have := hm.2 n hn; omega
namespace Sft
set_option maxHeartbeats 8000000 in
set_option maxRecDepth 100000 in
theorem softDoes_any {w : World} {cs : Array Value} {m0 : Img} (hi : IsImg cs m0) {v : Value} {L : List Stp} (hs : Idl.Steps w v L) (y : Stp) (hy : y.ok) :
    Calls Tryz.prog 3 #[.agg cs, v, .agg (stpA y)] w fun e w' => e = .returned (.bool true) ∧ Below w.heap.size w w' := by
  have hbg := hide fun W => begun_any W
  have HG := hide fun W (bW : Below w.heap.size w W) => Idl.greatSteps_any (hs.below bW)
  have HGS := hide fun W => Idl.greatStep_any y hy W
  have HGM := hide fun W => great_any cs m0 hi W
  have HYB := hide hy.big
  have HOk := hide hs.ok
  have hgl : Idl.greats L = false → L.length ≤ 200 := fun h => by
    simp only [Idl.greats, Bool.or_eq_false_iff, decide_eq_false_iff_not] at h
    omega
  have HGL := hide hgl
  obtain ⟨a, c, rfl, hst⟩ := Steps.gen hs
  have HST := hide hst
  have HI := hide hi
  have z0 := hi.size
  clear hs hgl hst hy hi
  have BB := hide (show Below w.heap.size w ((w.alloc (.cells cs 34)).alloc (.cells (stpA y) 37)) from ((Below.refl w.heap.size w).alloc (Nat.le_refl _) _).alloc (by simp) _)
  have r1 := hide (show ((w.alloc (.cells cs 34)).alloc (.cells (stpA y) 37)).heap[w.heap.size]? = some (.cells cs 34) from by rw [heap_alloc_old _ _ (by simp)]; exact heap_alloc_last w _)
  have r2 := hide (show ((w.alloc (.cells cs 34)).alloc (.cells (stpA y) 37)).heap[w.heap.size + 1]? = some (.cells (stpA y) 37) from by have := heap_alloc_last (w.alloc (.cells cs 34)) (.cells (stpA y) 37); simpa using this)
  obtain ⟨kind, dir, toDir, p, name, tu, text⟩ := y
  simp only [stpA] at HGS r2
  generalize hWW : ((w.alloc (.cells cs 34)).alloc (.cells #[.int .i64 kind, .int .i64 dir, .int .i64 toDir, .int .i64 p, .string name, .string tu, .string text] 37)) = W1 at *
  go_enter Tryz.func3, Tryz.ntmps3
  go_upto_region 1 with fail
  try rw [hWW]
  clear hWW
  go_wp2_with fail
  refine (unhide hbg W1).mono ?_
  rintro e w1 ⟨rfl, b1⟩
  have B1 := hide ((unhide BB).trans (b1.mono (unhide BB).size))
  have s1 := hide (show w1.heap[w.heap.size]? = some (.cells cs 34) by rw [b1.block _ (Array.getElem?_eq_some_iff.1 (unhide r1)).1]; exact unhide r1)
  have s2 := hide (show w1.heap[w.heap.size + 1]? = some (.cells #[.int .i64 kind, .int .i64 dir, .int .i64 toDir, .int .i64 p, .string name, .string tu, .string text] 37) by rw [b1.block _ (Array.getElem?_eq_some_iff.1 (unhide r2)).1]; exact unhide r2)
  clear b1 r1 r2 hbg BB
  have s1' := s1
  go_wp2_with (have hx := unhide s1'; refine wpList_load_row rfl 34 _ rfl w.heap.size rfl 34 cs (0, 0) _ hx img_under rfl (img_info z0) ?_; clear hx s1')
  refine (unhide HGM w1).mono ?_
  rintro e w2 ⟨⟨gv, rfl⟩, b2⟩
  have B2 := hide ((unhide B1).trans (b2.mono (unhide B1).size))
  have t1 := hide (show w2.heap[w.heap.size]? = some (.cells cs 34) by rw [b2.block _ (Array.getElem?_eq_some_iff.1 (unhide s1)).1]; exact unhide s1)
  have t2 := hide (show w2.heap[w.heap.size + 1]? = some (.cells #[.int .i64 kind, .int .i64 dir, .int .i64 toDir, .int .i64 p, .string name, .string tu, .string text] 37) by rw [b2.block _ (Array.getElem?_eq_some_iff.1 (unhide s2)).1]; exact unhide s2)
  clear b2 s1 s2 B1 HGM
  cases gv
  case true =>
    go_wp2_with fail
    go_ret
    exact ⟨rfl, unhide B2⟩
  have hg := unhide HG w2 (unhide B2)
  cases hgr : Idl.greats L <;> rw [hgr] at hg
  case true =>
    clear hgr
    go_wp2_with fail
    refine hg.mono ?_
    rintro e w3 ⟨rfl, b3⟩
    have B3 := hide ((unhide B2).trans (b3.mono (unhide B2).size))
    clear b3 hg
    go_wp2_with fail
    go_ret
    exact ⟨rfl, unhide B3⟩
  have h200 := unhide HGL hgr
  clear hgr HGL HG
  go_wp2_with fail
  refine hg.mono ?_
  rintro e w3 ⟨rfl, b3⟩
  have B3 := hide ((unhide B2).trans (b3.mono (unhide B2).size))
  have u1 := hide (show w3.heap[w.heap.size]? = some (.cells cs 34) by rw [b3.block _ (Array.getElem?_eq_some_iff.1 (unhide t1)).1]; exact unhide t1)
  have u2 := hide (show w3.heap[w.heap.size + 1]? = some (.cells #[.int .i64 kind, .int .i64 dir, .int .i64 toDir, .int .i64 p, .string name, .string tu, .string text] 37) by rw [b3.block _ (Array.getElem?_eq_some_iff.1 (unhide t2)).1]; exact unhide t2)
  clear b3 hg t1 t2 B2
  have QQ := fun i => cell_of_row w3 (w.heap.size + 1) i _ _ _ (unhide u2)
  have q0 := QQ 0
  have q1 := QQ 1
  have q2 := QQ 2
  have q3 := QQ 3
  have q4 := QQ 4
  have q5 := QQ 5
  have q6 := QQ 6
  clear QQ
  simp only [List.getElem?_toArray, List.getElem?_cons_zero, List.getElem?_cons_succ] at q0 q1 q2 q3 q4 q5 q6
  have hgs := unhide HGS w3
  generalize Idl.great ⟨kind, dir, toDir, p, name, tu, text⟩ = gy at hgs
  go_wp2_with fail
  refine hgs.mono ?_
  rintro e w4 ⟨rfl, b4⟩
  have B4 := hide ((unhide B3).trans (b4.mono (unhide B3).size))
  have v1 := hide (show w4.heap[w.heap.size]? = some (.cells cs 34) by rw [b4.block _ (Array.getElem?_eq_some_iff.1 (unhide u1)).1]; exact unhide u1)
  have v2 := hide (show w4.heap[w.heap.size + 1]? = some (.cells #[.int .i64 kind, .int .i64 dir, .int .i64 toDir, .int .i64 p, .string name, .string tu, .string text] 37) by rw [b4.block _ (Array.getElem?_eq_some_iff.1 (unhide u2)).1]; exact unhide u2)
  clear b4 hgs u1 u2 B3 q0 q1 q2 q3 q4 q5 q6 HGS
  cases gy
  case true =>
    go_wp2_with fail
    go_ret
    exact ⟨rfl, unhide B4⟩
  go_wp2_with fail
  refine (Fo.new w (unhide B4)).mono ?_
  rintro e w5 ⟨bf0, bc0, rfl, hbf, hbc, h5, b5⟩
  have F5 := hide h5
  have x1 := hide (show w5.heap[w.heap.size]? = some (.cells cs 34) by rw [b5.block _ (Array.getElem?_eq_some_iff.1 (unhide v1)).1]; exact unhide v1)
  have x2 := hide (show w5.heap[w.heap.size + 1]? = some (.cells #[.int .i64 kind, .int .i64 dir, .int .i64 toDir, .int .i64 p, .string name, .string tu, .string text] 37) by rw [b5.block _ (Array.getElem?_eq_some_iff.1 (unhide v2)).1]; exact unhide v2)
  have NX := hide (show w.heap.size + 1 < bf0 ∧ w.heap.size + 1 < bc0 by have := (Array.getElem?_eq_some_iff.1 (unhide v2)).1; omega)
  clear h5 b5 hbf hbc v1 v2 B4
  go_wp2_with fail
  refine (newBed_row w5).mono ?_
  rintro e w6 ⟨gb, rfl, hgb, rgb, b6⟩
  have F6 := hide ((unhide F5).call b6)
  have NB := hide (show w.heap.size ≤ gb ∧ gb ≠ bf0 ∧ gb ≠ bc0 ∧ w.heap.size + 1 < gb from ⟨by have := (unhide F5).bel.size; omega, by have := (unhide F5).cells.2.1; omega, by have := (unhide F5).cells.2.2.1; omega, by have := (Array.getElem?_eq_some_iff.1 (unhide x2)).1; omega⟩)
  have RG := hide rgb
  have y1 := hide (show w6.heap[w.heap.size]? = some (.cells cs 34) by rw [b6.block _ (Array.getElem?_eq_some_iff.1 (unhide x1)).1]; exact unhide x1)
  have y2 := hide (show w6.heap[w.heap.size + 1]? = some (.cells #[.int .i64 kind, .int .i64 dir, .int .i64 toDir, .int .i64 p, .string name, .string tu, .string text] 37) by rw [b6.block _ (Array.getElem?_eq_some_iff.1 (unhide x2)).1]; exact unhide x2)
  clear hgb rgb b6 x1 x2 F5
  have y1' := y1
  go_wp2_with (have hx := unhide y1'; refine wpList_load_row rfl 34 _ rfl w.heap.size rfl 34 cs (0, 0) _ hx img_under rfl (img_info z0) ?_; clear hx y1')
  by_cases hck : m0.check = 0
  · refine (sOf_any cs m0 (unhide HI) hck w6).mono ?_
    rintro e w7 ⟨⟨bf, bc, last, rfl, hbf, hbc, fl, bb, hlast, hmax⟩, b7⟩
    have F7 := hide (show Fo w bf bc m0 m0 last w7 from ⟨⟨cs, cs, fl⟩, (unhide F6).bel.trans (b7.mono (unhide F6).bel.size), Nat.le_trans (unhide F6).bel.size hbf, Nat.le_trans (unhide F6).bel.size hbc⟩)
    have MX := hide (And.intro hlast hmax)
    have CK := hide hck
    have a1 := hide (show w7.heap[w.heap.size]? = some (.cells cs 34) by rw [b7.block _ (Array.getElem?_eq_some_iff.1 (unhide y1)).1]; exact unhide y1)
    have a2 := hide (show w7.heap[w.heap.size + 1]? = some (.cells #[.int .i64 kind, .int .i64 dir, .int .i64 toDir, .int .i64 p, .string name, .string tu, .string text] 37) by rw [b7.block _ (Array.getElem?_eq_some_iff.1 (unhide y2)).1]; exact unhide y2)
    have R7 := hide (show w7.heap[gb]? = some (.cells (blankCells ++ (blankCells ++ bedTail)) 48) by rw [b7.block _ (Array.getElem?_eq_some_iff.1 (unhide RG)).1]; exact unhide RG)
    have NE := hide (show gb ≠ bf ∧ gb ≠ bc ∧ w.heap.size + 1 ≠ bf ∧ w.heap.size + 1 ≠ bc ∧ w.heap.size + 1 ≠ gb ∧ w.heap.size ≠ gb ∧ w.heap.size ≤ gb from by have := (Array.getElem?_eq_some_iff.1 (unhide RG)).1; have := (Array.getElem?_eq_some_iff.1 (unhide y2)).1; have := (unhide NB).1; have := (unhide NB).2.2.2; omega)
    have zb := size_blank
    have e1 : splice (blankCells ++ (blankCells ++ bedTail)) 0 cs = cs ++ (blankCells ++ bedTail) := splice_fst zb z0
    have e2 : splice (cs ++ (blankCells ++ bedTail)) 94 cs = cs ++ (cs ++ bedTail) := splice3_snd z0 zb z0
    have R8 := hide (show (w7.setRow gb (cs ++ (blankCells ++ bedTail))).heap[gb]? = some (.cells (cs ++ (blankCells ++ bedTail)) 48) from setRow_heap _ _ _ _ _ _ (unhide R7))
    have hl1 : 0 + cs.size ≤ (blankCells ++ (blankCells ++ bedTail)).size := by rw [Array.size_append, Array.size_append, z0, zb]; omega
    have hl2 : 94 + cs.size ≤ (cs ++ (blankCells ++ bedTail)).size := by rw [Array.size_append, Array.size_append, z0, zb]; omega
    have hall := (unhide HI).all
    clear hbf hbc fl hlast hmax b7 hck y1 y2 RG NB F6 NX
    have a1' := a1
    go_upto_region 10 with (first | (have hx := unhide a1'; refine wpList_load_row rfl 34 _ rfl w.heap.size rfl 34 cs (0, 0) _ hx img_under rfl (img_info z0) ?_; clear hx) | (have hx := unhide R7; refine wpList_store_part rfl 34 _ _ rfl gb 0 cs rfl rfl 48 (blankCells ++ (blankCells ++ bedTail)) hx (img_info z0) hl1 hall ?_; clear hx; rw [e1]) | (have hx := unhide R8; refine wpList_store_part rfl 34 _ _ rfl gb 94 cs rfl rfl 48 (cs ++ (blankCells ++ bedTail)) hx (img_info z0) hl2 hall ?_; clear hx; rw [e2]))
    try simp only [Act.put]
    have M := hide ((Mut.of (Below.refl _ w7) (Array.getElem?_eq_some_iff.1 (unhide R7)).1 rfl (unhide R7)).trans (Mut.of (Below.refl _ _) (Array.getElem?_eq_some_iff.1 (unhide R8)).1 (c' := cs ++ (cs ++ bedTail)) rfl (unhide R8)))
    generalize (w7.setRow gb (cs ++ (blankCells ++ bedTail))).setRow gb (cs ++ (cs ++ bedTail)) = X8 at M ⊢
    have Z8 := hide ((show Fz w bf bc gb m0 m0 last blankI blankI 0 w7 from ⟨unhide F7, ⟨blankCells, blankCells, _, _, _, _, unhide R7, blank_is, blank_is⟩, (unhide NE).2.2.2.2.2.2, (unhide NE).1, (unhide NE).2.1⟩).bmut (mb' := m0) (kb' := m0) (lb' := 0) ⟨cs, cs, _, _, _, _, (unhide M).row, unhide HI, unhide HI⟩ (unhide M)).1
    have c1 := hide (show X8.heap[w.heap.size]? = some (.cells cs 34) by rw [(unhide M).old _ (Array.getElem?_eq_some_iff.1 (unhide a1)).1 (unhide NE).2.2.2.2.2.1]; exact unhide a1)
    have c2 := hide (show X8.heap[w.heap.size + 1]? = some (.cells #[.int .i64 kind, .int .i64 dir, .int .i64 toDir, .int .i64 p, .string name, .string tu, .string text] 37) by rw [(unhide M).old _ (Array.getElem?_eq_some_iff.1 (unhide a2)).1 (unhide NE).2.2.2.2.1]; exact unhide a2)
    clear M R7 R8 F7 a1 a1' a2 e1 e2 hl1 hl2 hall zb
    go_wp2_with fail
    go_loopw [10] (fun i wr => ∃ (n : Nat) (st : Int), n ≤ 8 ∧ i = .int .i64 n ∧ Hid (Fz w bf bc gb m0 m0 last m0 m0 st wr) ∧ Hid (Up m0 n st) ∧ Hid (wr.heap[w.heap.size]? = some (.cells cs 34)) ∧ Hid (wr.heap[w.heap.size + 1]? = some (.cells #[.int .i64 kind, .int .i64 dir, .int .i64 toDir, .int .i64 p, .string name, .string tu, .string text] 37))) (fun i _ => 8 - (intOf i).toNat)
    case atStart => exact ⟨0, 0, by omega, rfl, Z8, hide ⟨Int.le_refl _, fun n hn => by omega, .inl rfl⟩, c1, c2⟩
    case round =>
      clear Z8 c1 c2
      obtain ⟨n, st, hn, rfl, ZN, UP, c1, c2⟩ := hrel
      by_cases hlt : n < 8
      case pos =>
        have t8 : decide ((n : Int) < 8) = true := by simp; omega
        have ZD := hide ((unhide ZN).call (Below.refl _ wr).drew)
        have d1 : Hid (wr.drew.heap[w.heap.size]? = some (.cells cs 34)) := c1
        have d2 : Hid (wr.drew.heap[w.heap.size + 1]? = some (.cells #[.int .i64 kind, .int .i64 dir, .int .i64 toDir, .int .i64 p, .string name, .string tu, .string text] 37)) := c2
        obtain ⟨xs, ys, t1, t2, t3, t4, hr, hx1, hy1⟩ := (unhide ZD).bed
        have HX := hide hx1
        have HY := hide hy1
        have RB := hide hr
        clear hr hx1 hy1
        go_wp2_with fail
        refine wp_region_F (S := fun W => W.cell? ⟨gb, 188, none⟩ = some (.int .i64 st) ∧ HasAt W w.heap.size 0 m0) 13 (by kernel_rfl) (⟨by rw [cell_of_row _ _ 188 _ _ _ (unhide RB)]; exact Sft.btl_cell (unhide HX).size (unhide HY).size, hasAt_of (unhide d1) (by rw [z0]; omega) (by rw [Nat.zero_add, show 94 = cs.size from z0.symm]; simp) (unhide HI)⟩) (fun hS => ?_)
        refine wpAnyF_take (i := 0) (oi := ⟨some 50, .move (.tmp 8), 44, "law05.go:50", #[], none⟩) (v := .pointer (some ⟨gb, 0, none⟩)) rfl (by kernel_rfl) (by kernel_rfl) (by kernel_rfl) (by kernel_rfl) (fun _ _ _ h => h) (Or.inl ⟨by kernel_rfl, fun W h => (by first | kernel_rfl | go_simp)⟩) hS ?_
        try simp only [Act.put, z1, z2, z3]
        refine wpAnyF_take (i := 1) (oi := ⟨some 51, .move (.tmp 8), 44, "law05.go:50", #[], none⟩) (v := .pointer (some ⟨gb, 0, none⟩)) rfl (by kernel_rfl) (by kernel_rfl) (by kernel_rfl) (by kernel_rfl) (fun _ _ _ h => h) (Or.inl ⟨by kernel_rfl, fun W h => (by first | kernel_rfl | go_simp)⟩) hS ?_
        try simp only [Act.put, z1, z2, z3]
        refine wpAnyF_take (i := 2) (oi := ⟨some 52, .nilCheck (.tmp 51), 0, "law05.go:50", #[⟨1, .data⟩], none⟩) (v := .pointer (some ⟨gb, 0, none⟩)) rfl (by kernel_rfl) (by kernel_rfl) (by kernel_rfl) (by kernel_rfl) (fun _ _ _ h => h) (Or.inl ⟨by kernel_rfl, fun W h => (by first | kernel_rfl | go_simp)⟩) hS ?_
        try simp only [Act.put, z1, z2, z3]
        refine wpAnyF_take (i := 3) (oi := ⟨some 53, .fieldAddr 48 (.tmp 52) 2, 0, "law05.go:50", #[⟨2, .data⟩], none⟩) (v := .pointer (some ⟨gb, 188, none⟩)) rfl (by kernel_rfl) (by kernel_rfl) (by kernel_rfl) (by kernel_rfl) (fun _ _ _ h => h) (Or.inl ⟨by kernel_rfl, fun W h => (by first | kernel_rfl | go_simp)⟩) hS ?_
        try simp only [Act.put, z1, z2, z3]
        refine wpAnyF_take (i := 4) (oi := ⟨some 54, .load 3 (.tmp 53), 3, "law05.go:50", #[⟨3, .data⟩], none⟩) (v := .int .i64 st) rfl (by kernel_rfl) (by kernel_rfl) (by kernel_rfl) (by kernel_rfl) (fun _ _ _ h => h) (Or.inl ⟨by kernel_rfl, fun W h => Op1.ld_int (.tmp 53) (by kernel_rfl) (by kernel_rfl) W (h.1)⟩) hS ?_
        try simp only [Act.put, z1, z2, z3]
        refine wpAnyF_take (i := 5) (oi := ⟨some 55, .move (.tmp 10), 3, "law05.go:50", #[], none⟩) (v := .int .i64 (n : Int)) rfl (by kernel_rfl) (by kernel_rfl) (by kernel_rfl) (by kernel_rfl) (fun _ _ _ h => h) (Or.inl ⟨by kernel_rfl, fun W h => (by first | kernel_rfl | go_simp)⟩) hS ?_
        try simp only [Act.put, z1, z2, z3]
        refine wpAnyF_take (i := 6) (oi := ⟨some 56, .fieldAddr 34 (.tmp 3) 0, 0, "law05.go:50", #[], none⟩) (v := .pointer (some ⟨w.heap.size, 0, none⟩)) rfl (by kernel_rfl) (by kernel_rfl) (by kernel_rfl) (by kernel_rfl) (fun _ _ _ h => h) (Or.inl ⟨by kernel_rfl, fun W h => (by first | kernel_rfl | go_simp)⟩) hS ?_
        try simp only [Act.put, z1, z2, z3]
        refine wpAnyF_take (i := 7) (oi := ⟨some 57, .indexAddr 25 (.tmp 56) (.tmp 55), 0, "law05.go:50", #[⟨6, .data⟩, ⟨5, .data⟩], none⟩) (v := .pointer (some ⟨w.heap.size, n * 5, none⟩)) rfl (by kernel_rfl) (by kernel_rfl) (by kernel_rfl) (by kernel_rfl) (fun _ _ _ h => h) (Or.inl ⟨by kernel_rfl, fun W h => Op1.ix_ino (.tmp 56) (.tmp 55) (by kernel_rfl) (by kernel_rfl) (by kernel_rfl) (hlt) W⟩) hS ?_
        try simp only [Act.put, z1, z2, z3]
        refine wpAnyF_take (i := 8) (oi := ⟨some 58, .fieldAddr 24 (.tmp 57) 1, 0, "law05.go:50", #[⟨7, .data⟩], none⟩) (v := .pointer (some ⟨w.heap.size, n * 5 + 1, none⟩)) rfl (by kernel_rfl) (by kernel_rfl) (by kernel_rfl) (by kernel_rfl) (fun _ _ _ h => h) (Or.inl ⟨by kernel_rfl, fun W h => (by first | kernel_rfl | go_simp)⟩) hS ?_
        try simp only [Act.put, z1, z2, z3]
        refine wpAnyF_take (i := 9) (oi := ⟨some 59, .load 3 (.tmp 58), 3, "law05.go:50", #[⟨8, .data⟩], none⟩) (v := .int .i64 (m0.stamp n)) rfl (by kernel_rfl) (by kernel_rfl) (by kernel_rfl) (by kernel_rfl) (fun _ _ _ h => h) (Or.inl ⟨by kernel_rfl, fun W h => Op1.ld_int (.tmp 58) (by kernel_rfl) (by kernel_rfl) W (by have := h.2.stamp n hlt; rw [Nat.zero_add] at this; exact this)⟩) hS ?_
        try simp only [Act.put, z1, z2, z3]
        refine wpAnyF_take (i := 10) (oi := ⟨some 60, .call { callee := .builtin .max, args := #[.tmp 54, .tmp 59], argTypes := #[3, 3] }, 3, "law05.go:50", #[⟨4, .data⟩, ⟨9, .data⟩], none⟩) (v := .int .i64 (if m0.stamp n > st then m0.stamp n else st)) rfl (by kernel_rfl) (by kernel_rfl) (by kernel_rfl) (by kernel_rfl) (fun _ _ _ h => h) (Or.inl ⟨by kernel_rfl, fun W h => Op1.maxI (.tmp 54) (.tmp 59) (by kernel_rfl) (by kernel_rfl) (by kernel_rfl) W⟩) hS ?_
        try simp only [Act.put, z1, z2, z3]
        refine wpAnyF_free (i := 11) (oi := ⟨some 61, .nilCheck (.tmp 50), 0, "law05.go:50", #[⟨0, .data⟩, ⟨0, .phase⟩, ⟨1, .phase⟩, ⟨2, .phase⟩, ⟨3, .phase⟩, ⟨4, .phase⟩, ⟨5, .phase⟩, ⟨6, .phase⟩, ⟨7, .phase⟩, ⟨8, .phase⟩, ⟨9, .phase⟩, ⟨10, .phase⟩], none⟩) (v := .pointer (some ⟨gb, 0, none⟩)) rfl (by kernel_rfl) (by kernel_rfl) (by kernel_rfl) (by kernel_rfl) (fun _ _ _ h => h) (Or.inl ⟨by kernel_rfl, fun W _ => (by first | kernel_rfl | go_simp)⟩) hS ?_
        try simp only [Act.put, z1, z2, z3]
        refine wpAnyF_take (i := 12) (oi := ⟨some 62, .fieldAddr 48 (.tmp 61) 2, 0, "law05.go:50", #[⟨11, .data⟩, ⟨0, .phase⟩, ⟨1, .phase⟩, ⟨2, .phase⟩, ⟨3, .phase⟩, ⟨4, .phase⟩, ⟨5, .phase⟩, ⟨6, .phase⟩, ⟨7, .phase⟩, ⟨8, .phase⟩, ⟨9, .phase⟩, ⟨10, .phase⟩], none⟩) (v := .pointer (some ⟨gb, 188, none⟩)) rfl (by kernel_rfl) (by kernel_rfl) (by kernel_rfl) (by kernel_rfl) (fun _ _ _ h => h) (Or.inl ⟨by kernel_rfl, fun W h => (by first | kernel_rfl | go_simp)⟩) hS ?_
        try simp only [Act.put, z1, z2, z3]
        refine wpAnyF_last (o := ⟨none, .store 3 (.tmp 62) (.tmp 60), 0, "law05.go:50", #[⟨12, .data⟩, ⟨10, .data⟩, ⟨0, .phase⟩, ⟨1, .phase⟩, ⟨2, .phase⟩, ⟨3, .phase⟩, ⟨4, .phase⟩, ⟨5, .phase⟩, ⟨6, .phase⟩, ⟨7, .phase⟩, ⟨8, .phase⟩, ⟨9, .phase⟩, ⟨10, .phase⟩], none⟩) (by kernel_rfl) rfl (by kernel_rfl) (by kernel_rfl) (fun K hK => ?_)
        refine Op1.st_int (.tmp 62) (.tmp 60) (by kernel_rfl) rfl (g := gb) (o0 := 188) (v := if m0.stamp n > st then m0.stamp n else st) (by kernel_rfl) (by kernel_rfl) (u := .int .i64 st) (hS.1) ((Bm.start (unhide RB)).frozen _) ?_
        refine hK.out _ _ ?_
        clear hK K
        try simp only [Act.put, z1, z2, z3]
        refine wpAnyF_done (by kernel_rfl) ?_ _
        have RB2 := hide (show (wr.drew.setCell ⟨gb, 188, none⟩ (.int .i64 (if m0.stamp n > st then m0.stamp n else st))).heap[gb]? = some (.cells (xs ++ (ys ++ Sft.btl (if m0.stamp n > st then m0.stamp n else st) t1 t2 t3 t4)) 48) by
          have := ((Bm.start (unhide RB)).set 188 (.int .i64 (if m0.stamp n > st then m0.stamp n else st))).row
          rw [Sft.btl_set (unhide HX).size (unhide HY).size] at this
          exact this)
        have CH := hide ((Bm.start (unhide RB)).set 188 (.int .i64 (if m0.stamp n > st then m0.stamp n else st))).chg
        have UP2 := hide ((unhide UP).next hlt)
        generalize wr.drew.setCell ⟨gb, 188, none⟩ (.int .i64 (if m0.stamp n > st then m0.stamp n else st)) = X9 at RB2 CH ⊢
        generalize (if m0.stamp n > st then m0.stamp n else st) = st2 at RB2 UP2 ⊢
        have Z9 := hide ((unhide ZD).chgB (unhide CH) (mb' := m0) (kb' := m0) (lb' := st2) ⟨xs, ys, t1, t2, t3, t4, unhide RB2, unhide HX, unhide HY⟩)
        have f1 := hide (show X9.heap[w.heap.size]? = some (.cells cs 34) by rw [(unhide CH).block _ (Array.getElem?_eq_some_iff.1 (unhide d1)).1 (unhide NE).2.2.2.2.2.1]; exact unhide d1)
        have f2 := hide (show X9.heap[w.heap.size + 1]? = some (.cells #[.int .i64 kind, .int .i64 dir, .int .i64 toDir, .int .i64 p, .string name, .string tu, .string text] 37) by rw [(unhide CH).block _ (Array.getElem?_eq_some_iff.1 (unhide d2)).1 (unhide NE).2.2.2.2.1]; exact unhide d2)
        clear hS
        go_wp2_with fail
        go_roundw
        case rel => exact ⟨n + 1, st2, by omega, by go_num, Z9, UP2, f1, f2⟩
        case measure => simp [intOf]; omega
      have t8 : decide ((n : Int) < 8) = false := by simp; omega
      have e8 : n = 8 := by omega
      subst e8
      have SL := (unhide UP).last (unhide CK) (unhide MX).1 (unhide MX).2
      rw [SL] at ZN
      have FA := hide (fault_any w.heap.size m0 wr (HasAt.img (hasAt_of (unhide c1) (by rw [z0]; omega) (by rw [Nat.zero_add, show 94 = cs.size from z0.symm]; simp) (unhide HI))))
      go_wp2_with fail
      refine (unhide FA).mono ?_
      rintro e w9 ⟨⟨c0, rfl, hc0⟩, b9⟩
      have c0z : c0 = 0 := hc0.2 (unhide CK)
      subst c0z
      have Z9 := hide ((unhide ZN).call b9)
      have f2 := hide (show w9.heap[w.heap.size + 1]? = some (.cells #[.int .i64 kind, .int .i64 dir, .int .i64 toDir, .int .i64 p, .string name, .string tu, .string text] 37) by rw [b9.block _ (Array.getElem?_eq_some_iff.1 (unhide c2)).1]; exact unhide c2)
      clear b9 hc0 FA c1 c2 ZN UP
      have GDL := hide (show Img.Ex m0 → Img.Good m0 last from fun hx => ⟨hx, by rw [(unhide MX).1]; exact Sft.stamp_lo (unhide CK) (unhide MX).2.1, fun q hq _ => by rw [(unhide MX).1]; exact (unhide MX).2.2 q hq⟩)
      have NE2 := hide (show w.heap.size + 1 ≠ bf ∧ w.heap.size + 1 ≠ bc ∧ w.heap.size + 1 ≠ gb from ⟨(unhide NE).2.2.1, (unhide NE).2.2.2.1, (unhide NE).2.2.2.2.1⟩)
      clear NE MX CK SL
      obtain ⟨xs, ys, t1, t2, t3, t4, hr, hx1, hy1⟩ := (unhide Z9).bed
      have c188 : w9.cell? ⟨gb, 188, none⟩ = some (.int .i64 last) := by rw [cell_of_row _ _ 188 _ _ _ hr]; exact Sft.btl_cell hx1.size hy1.size
      clear hr hx1 hy1
      by_cases h40 : last ≤ 1099511627776
      case neg =>
        have t40 : decide (1099511627776 < last) = true := by simp; omega
        go_wp2_with fail
        go_ret
        exact ⟨rfl, (unhide Z9).fo.bel⟩
      have t40 : decide (1099511627776 < last) = false := by simp; omega
      go_upto_region 20 with fail
      clear c188 t40
      generalize m0 = M at Z9 GDL
      have EXC := hide (isExact_any w9 (unhide Z9).bed.has.1)
      go_wp2_with fail
      refine (unhide EXC).mono ?_
      rintro e w10 ⟨⟨vx, rfl, hvx⟩, b10⟩
      have Z10 := hide ((unhide Z9).call b10)
      have g2 := hide (show w10.heap[w.heap.size + 1]? = some (.cells #[.int .i64 kind, .int .i64 dir, .int .i64 toDir, .int .i64 p, .string name, .string tu, .string text] 37) by rw [b10.block _ (Array.getElem?_eq_some_iff.1 (unhide f2)).1]; exact unhide f2)
      clear b10 EXC Z9 f2
      cases vx
      case false =>
        go_wp2_with fail
        go_ret
        exact ⟨rfl, (unhide Z10).fo.bel⟩
      have SD := hide (show Sd M last 0 from ⟨unhide GDL (hvx rfl), by omega⟩)
      clear hvx GDL
      go_wp2_with fail
      go_loopw [11] (fun i wr => ∃ (j : Nat) (m k : Img) (la : Int), j ≤ L.length ∧ i = .int .i64 j ∧ Hid (Fz w bf bc gb m k la m k la wr) ∧ Hid (Sd m la j) ∧ Hid (wr.heap[w.heap.size + 1]? = some (.cells #[.int .i64 kind, .int .i64 dir, .int .i64 toDir, .int .i64 p, .string name, .string tu, .string text] 37))) (fun i _ => L.length - (intOf i).toNat)
      case atStart => exact ⟨0, M, M, last, Nat.zero_le _, rfl, Z10, SD, g2⟩
      case round =>
        clear Z10 SD g2
        obtain ⟨j, m, k, la, hj, rfl, ZF, SD, g2⟩ := hrel
        by_cases hlt : j < L.length
        case pos =>
          have hjn : (j : Int) < (L.length : Int) := by omega
          obtain ⟨ga, oa, rfl, hga, hca⟩ := unhide HST j hlt
          have hxo := unhide HOk L[j] (List.getElem_mem hlt)
          generalize L[j] = x at hca hxo
          have HXO := hide hxo.big
          have HCA := hide hca
          have SD1 := hide ((unhide SD).any k x)
          have ZD := hide ((unhide ZF).call (Below.refl _ wr).drew)
          have g2d : Hid (wr.drew.heap[w.heap.size + 1]? = some (.cells #[.int .i64 kind, .int .i64 dir, .int .i64 toDir, .int .i64 p, .string name, .string tu, .string text] 37)) := g2
          have S0 := unhide HCA _ (unhide ZD).fo.bel
          have DS := hide (softStepZ (unhide ZD) (unhide g2d) (unhide NE2) (unhide SD).good (by have := (unhide SD).few; omega) x (unhide HXO).1 (unhide HXO).2.1 (unhide HXO).2.2)
          clear hca hxo HST HOk hga
          go_upto_region 25 with fail
          refine wp_region_held_drew (S := fun _ => True) (by kernel_rfl) (trivial) (fun hS => ?_)
          refine tkP (i := 0) (oi := ⟨some 83, .move (.tmp 7), 42, "law05.go:67", #[], none⟩) (v := .pointer (some ⟨bf, 0, none⟩)) hS ?_
          try simp only [Act.put, z1, z2, z3]
          refine tkP (i := 1) (oi := ⟨some 84, .move (.tmp 8), 44, "law05.go:67", #[], none⟩) (v := .pointer (some ⟨gb, 0, none⟩)) hS ?_
          try simp only [Act.put, z1, z2, z3]
          refine tkP (i := 2) (oi := ⟨some 85, .move (.tmp 1), 35, "law05.go:67", #[], none⟩) (v := .slice (some ⟨ga, oa, none⟩) L.length c) hS ?_
          try simp only [Act.put, z1, z2, z3]
          refine tkP (i := 3) (oi := ⟨some 86, .move (.tmp 11), 3, "law05.go:67", #[], none⟩) (v := .int .i64 (j : Nat)) hS ?_
          try simp only [Act.put, z1, z2, z3]
          refine tkH (i := 4) (oi := ⟨some 87, .indexAddr 35 (.tmp 85) (.tmp 86), 0, "law05.go:67", #[⟨2, .data⟩, ⟨3, .data⟩], none⟩) (v := .pointer (some ⟨ga, oa + j * 7, none⟩)) (fun W h => Op1.ix_step (c := c) (.tmp 85) (.tmp 86) (by kernel_rfl) (by kernel_rfl) (by kernel_rfl) hlt W) hS ?_
          try simp only [Act.put, z1, z2, z3]
          refine wpAnyH_ready (rs := [5]) (by kernel_rfl) (by simp) ?_
          refine AllReadyH.cons (o := ⟨some 88, .load 37 (.tmp 87), 37, "law05.go:67", #[⟨4, .data⟩], none⟩) rfl (fun K hK => ?_) AllReadyH.nil
          rw [if_pos (by kernel_rfl)]
          refine wp_value (v := .agg (stpA x)) (Op1.ld_step (.tmp 87) (by kernel_rfl) (by kernel_rfl) x _ S0) ?_
          refine hK.out _ _ hS (fun _ => ?_)
          clear hK K
          try simp only [Act.put, z1, z2, z3]
          refine wpAnyH_ready (rs := [6]) (by kernel_rfl) (by simp) ?_
          refine AllReadyH.cons (o := ⟨some 89, .call { callee := .value (.func 17), args := #[.tmp 83, .tmp 84, .tmp 88], argTypes := #[42, 44, 37] }, 4, "law05.go:67", #[⟨0, .data⟩, ⟨1, .data⟩, ⟨5, .data⟩], none⟩) rfl (fun K hK => ?_) AllReadyH.nil
          rw [if_pos (by kernel_rfl)]
          go_simp
          refine (unhide DS).mono ?_
          rintro e W6 ⟨rfl, h6, g6⟩
          have Z6 := hide h6
          have G6 := hide g6
          clear h6 g6 DS ZD g2d S0
          go_wp2_with fail
          refine hK.out _ _ (trivial) (fun hS6 => ?_)
          clear hK K
          try simp only [Act.put, z1, z2, z3]
          refine tkP (i := 7) (oi := ⟨some 90, .unOp .not 4 (.tmp 89), 4, "law05.go:67", #[⟨6, .data⟩], none⟩) (v := .bool false) hS6 ?_
          try simp only [Act.put, z1, z2, z3]
          refine tkP (i := 8) (oi := ⟨some 91, .move (.tmp 90), 4, "law05.go:67", #[⟨7, .data⟩, ⟨6, .chain⟩], none⟩) (v := .bool false) hS6 ?_
          try simp only [Act.put, z1, z2, z3]
          obtain ⟨cs1, ds1, fl⟩ := (unhide Z6).fo.it
          obtain ⟨xs, ys, t1, t2, t3, t4, hr, hx1, hy1⟩ := (unhide Z6).bed
          have hi := fl.now
          have hk1 := fl.disk
          have zc := hi.size
          have zd := hk1.size
          have zx := hx1.size
          have zy := hy1.size
          have hsd : TwoS bf bc gb cs1 ds1 (xs ++ (ys ++ Sft.btl (Img.alast m k la x) t1 t2 t3 t4)) W6 := ⟨fl.ptr, fl.flt, fl.row, hr⟩
          have QN := fun W => neqlImg hi hx1 W
          have QD := fun W => neqlImg hk1 hy1 W
          rw [same_self] at QN QD
          clear hS hS6 fl hr
          refine wpAnyH_mono2 (S' := TwoS bf bc gb cs1 ds1 (xs ++ (ys ++ Sft.btl (Img.alast m k la x) t1 t2 t3 t4))) (fun _ _ => trivial) _ _ _ _ ?_
          refine tkP (i := 9) (oi := ⟨some 92, .move (.tmp 7), 42, "law05.go:67", #[⟨8, .guard⟩], some (8, false)⟩) (v := .pointer (some ⟨bf, 0, none⟩)) hsd ?_
          try simp only [Act.put, z1, z2, z3]
          refine tkP (i := 10) (oi := ⟨some 93, .nilCheck (.tmp 92), 0, "law05.go:67", #[⟨9, .data⟩, ⟨8, .guard⟩], some (8, false)⟩) (v := .pointer (some ⟨bf, 0, none⟩)) hsd ?_
          try simp only [Act.put, z1, z2, z3]
          refine tkP (i := 11) (oi := ⟨some 94, .fieldAddr 55 (.tmp 93) 0, 0, "law05.go:67", #[⟨10, .data⟩, ⟨8, .guard⟩], some (8, false)⟩) (v := .pointer (some ⟨bf, 0, none⟩)) hsd ?_
          try simp only [Act.put, z1, z2, z3]
          refine tkH (i := 12) (oi := ⟨some 95, .load 53 (.tmp 94), 53, "law05.go:67", #[⟨11, .data⟩, ⟨8, .guard⟩], some (8, false)⟩) (v := .pointer (some ⟨bc, 0, none⟩)) (fun W h => Op1.ld_ptr (.tmp 94) (by kernel_rfl) (by kernel_rfl) W h.p1) hsd ?_
          try simp only [Act.put, z1, z2, z3]
          refine tkP (i := 13) (oi := ⟨some 96, .nilCheck (.tmp 95), 0, "law05.go:67", #[⟨12, .data⟩, ⟨8, .guard⟩], some (8, false)⟩) (v := .pointer (some ⟨bc, 0, none⟩)) hsd ?_
          try simp only [Act.put, z1, z2, z3]
          refine tkP (i := 14) (oi := ⟨some 97, .fieldAddr 57 (.tmp 96) 0, 0, "law05.go:67", #[⟨13, .data⟩, ⟨8, .guard⟩], some (8, false)⟩) (v := .pointer (some ⟨bc, 0, none⟩)) hsd ?_
          try simp only [Act.put, z1, z2, z3]
          refine tkH (i := 15) (oi := ⟨some 98, .load 34 (.tmp 97), 34, "law05.go:67", #[⟨14, .data⟩, ⟨8, .guard⟩], some (8, false)⟩) (v := .agg cs1) (fun W h => ld_img2 (off := 0) (.tmp 97) (by kernel_rfl) (by kernel_rfl) W h.row (by rw [Array.size_append, zc]; omega) (app_fst zc)) hsd ?_
          try simp only [Act.put, z1, z2, z3]
          refine tkP (i := 16) (oi := ⟨some 99, .move (.tmp 8), 44, "law05.go:67", #[⟨8, .guard⟩], some (8, false)⟩) (v := .pointer (some ⟨gb, 0, none⟩)) hsd ?_
          try simp only [Act.put, z1, z2, z3]
          refine tkP (i := 17) (oi := ⟨some 100, .nilCheck (.tmp 99), 0, "law05.go:67", #[⟨16, .data⟩, ⟨8, .guard⟩], some (8, false)⟩) (v := .pointer (some ⟨gb, 0, none⟩)) hsd ?_
          try simp only [Act.put, z1, z2, z3]
          refine tkP (i := 18) (oi := ⟨some 101, .fieldAddr 48 (.tmp 100) 0, 0, "law05.go:67", #[⟨17, .data⟩, ⟨8, .guard⟩], some (8, false)⟩) (v := .pointer (some ⟨gb, 0, none⟩)) hsd ?_
          try simp only [Act.put, z1, z2, z3]
          refine tkH (i := 19) (oi := ⟨some 102, .load 34 (.tmp 101), 34, "law05.go:67", #[⟨18, .data⟩, ⟨8, .guard⟩], some (8, false)⟩) (v := .agg xs) (fun W h => ld_img2 (off := 0) (.tmp 101) (by kernel_rfl) (by kernel_rfl) W h.bed (by rw [Array.size_append, zx]; omega) (app_fst zx)) hsd ?_
          try simp only [Act.put, z1, z2, z3]
          refine tkH (i := 20) (oi := ⟨some 103, .binOp .neq 34 (.tmp 98) (.tmp 102) 34, 4, "law05.go:67", #[⟨15, .data⟩, ⟨19, .data⟩, ⟨8, .guard⟩], some (8, false)⟩) (v := .bool false) (fun W h => run_exec_nev2 34 34 (.tmp 98) (.tmp 102) (by kernel_rfl) _ _ (by kernel_rfl) (by kernel_rfl) false (by kernel_rfl) QN W) hsd ?_
          try simp only [Act.put, z1, z2, z3]
          refine tkP (i := 21) (oi := ⟨some 104, .pick (.tmp 91) (.const (.bool true)) (.tmp 103), 4, "law05.go:67", #[⟨8, .data⟩, ⟨20, .data⟩], none⟩) (v := .bool false) hsd ?_
          try simp only [Act.put, z1, z2, z3]
          refine tkP (i := 22) (oi := ⟨some 105, .move (.tmp 104), 4, "law05.go:67", #[⟨21, .data⟩, ⟨8, .chain⟩], none⟩) (v := .bool false) hsd ?_
          try simp only [Act.put, z1, z2, z3]
          refine tkP (i := 23) (oi := ⟨some 106, .move (.tmp 7), 42, "law05.go:67", #[⟨22, .guard⟩], some (22, false)⟩) (v := .pointer (some ⟨bf, 0, none⟩)) hsd ?_
          try simp only [Act.put, z1, z2, z3]
          refine tkP (i := 24) (oi := ⟨some 107, .nilCheck (.tmp 106), 0, "law05.go:67", #[⟨23, .data⟩, ⟨22, .guard⟩], some (22, false)⟩) (v := .pointer (some ⟨bf, 0, none⟩)) hsd ?_
          try simp only [Act.put, z1, z2, z3]
          refine tkP (i := 25) (oi := ⟨some 108, .fieldAddr 55 (.tmp 107) 0, 0, "law05.go:67", #[⟨24, .data⟩, ⟨22, .guard⟩], some (22, false)⟩) (v := .pointer (some ⟨bf, 0, none⟩)) hsd ?_
          try simp only [Act.put, z1, z2, z3]
          refine tkH (i := 26) (oi := ⟨some 109, .load 53 (.tmp 108), 53, "law05.go:67", #[⟨25, .data⟩, ⟨22, .guard⟩], some (22, false)⟩) (v := .pointer (some ⟨bc, 0, none⟩)) (fun W h => Op1.ld_ptr (.tmp 108) (by kernel_rfl) (by kernel_rfl) W h.p1) hsd ?_
          try simp only [Act.put, z1, z2, z3]
          refine tkP (i := 28) (oi := ⟨some 111, .move (.tmp 8), 44, "law05.go:67", #[⟨22, .guard⟩], some (22, false)⟩) (v := .pointer (some ⟨gb, 0, none⟩)) hsd ?_
          try simp only [Act.put, z1, z2, z3]
          refine tkP (i := 29) (oi := ⟨some 112, .nilCheck (.tmp 111), 0, "law05.go:67", #[⟨28, .data⟩, ⟨22, .guard⟩], some (22, false)⟩) (v := .pointer (some ⟨gb, 0, none⟩)) hsd ?_
          try simp only [Act.put, z1, z2, z3]
          refine tkP (i := 30) (oi := ⟨some 113, .fieldAddr 48 (.tmp 112) 1, 0, "law05.go:67", #[⟨29, .data⟩, ⟨22, .guard⟩], some (22, false)⟩) (v := .pointer (some ⟨gb, 94, none⟩)) hsd ?_
          try simp only [Act.put, z1, z2, z3]
          refine tkH (i := 31) (oi := ⟨some 114, .load 34 (.tmp 113), 34, "law05.go:67", #[⟨30, .data⟩, ⟨22, .guard⟩], some (22, false)⟩) (v := .agg ys) (fun W h => ld_img2 (off := 94) (.tmp 113) (by kernel_rfl) (by kernel_rfl) W h.bed (by rw [Array.size_append, Array.size_append, zx, zy]; omega) (app3_snd zx zy)) hsd ?_
          try simp only [Act.put, z1, z2, z3]
          refine wpAnyH_ready (rs := [27]) (by kernel_rfl) (by simp) ?_
          refine AllReadyH.cons (o := ⟨some 110, .call { callee := .value (.func 18), args := #[.tmp 109], argTypes := #[53] }, 34, "law05.go:67", #[⟨26, .data⟩, ⟨22, .chain⟩, ⟨22, .guard⟩], some (22, false)⟩) rfl (fun K hK => ?_) AllReadyH.nil
          rw [if_pos (by kernel_rfl)]
          go_simp
          refine (disk_any bc cs1 ds1 _ _ hi hk1 _ hsd.row).mono ?_
          rintro e W7 ⟨rfl, b7⟩
          have Z7 := hide ((unhide Z6).call b7)
          have G7 := hide (show W7.heap[w.heap.size + 1]? = some (.cells #[.int .i64 kind, .int .i64 dir, .int .i64 toDir, .int .i64 p, .string name, .string tu, .string text] 37) by rw [b7.block _ (Array.getElem?_eq_some_iff.1 (unhide G6)).1]; exact unhide G6)
          have hs7 := hsd.below b7
          clear b7
          go_wp2_with fail
          refine hK.out _ _ (hs7) (fun hS7 => ?_)
          clear hK K
          try simp only [Act.put, z1, z2, z3]
          refine tkH (i := 32) (oi := ⟨some 115, .binOp .neq 34 (.tmp 110) (.tmp 114) 34, 4, "law05.go:67", #[⟨27, .data⟩, ⟨31, .data⟩, ⟨22, .guard⟩], some (22, false)⟩) (v := .bool false) (fun W h => run_exec_nev2 34 34 (.tmp 110) (.tmp 114) (by kernel_rfl) _ _ (by kernel_rfl) (by kernel_rfl) false (by kernel_rfl) QD W) hS7 ?_
          try simp only [Act.put, z1, z2, z3]
          refine tkP (i := 33) (oi := ⟨some 116, .pick (.tmp 105) (.const (.bool true)) (.tmp 115), 4, "law05.go:67", #[⟨22, .data⟩, ⟨32, .data⟩], none⟩) (v := .bool false) hS7 ?_
          try simp only [Act.put, z1, z2, z3]
          refine wpAnyH_done (by kernel_rfl) ?_ _
          clear hS7 hs7 hsd QN QD Z6 G6
          go_wp2_with fail
          go_roundw
          case rel => exact ⟨j + 1, _, _, _, by omega, by go_num, Z7, SD1, G7⟩
          case measure => simp [intOf]; omega
        clear HST HOk
        have MOK := hide (unhide SD).good.ex.ok
        clear SD
        go_wp2_with fail
        go_loopw [12] (fun i wr => ∃ q : Nat, q ≤ 5 ∧ i = .int .i64 ((q : Int) - 1) ∧ Hid (Fz w bf bc gb m k la m k la wr) ∧ Hid (wr.heap[w.heap.size + 1]? = some (.cells #[.int .i64 kind, .int .i64 dir, .int .i64 toDir, .int .i64 p, .string name, .string tu, .string text] 37))) (fun i _ => 5 - (intOf i + 1).toNat)
        case atStart => exact ⟨0, Nat.zero_le _, rfl, ZF, g2⟩
        case round =>
          clear ZF g2
          obtain ⟨q, hq, rfl, ZF, g2⟩ := hrel
          by_cases hq5 : q < 5
          case pos =>
            obtain ⟨dq, hdq⟩ : ∃ i : Int, i = (q : Int) - 1 := ⟨_, rfl⟩
            have HDQ := hide hdq
            rw [← hdq]
            have t3 : decide (dq ≤ 3) = true := by simp; omega
            have rng : -9223372036854775808 ≤ dq + 1 ∧ dq + 1 ≤ 9223372036854775807 := by omega
            have LF := hide ((unhide ZF).fo.list (unhide MOK) dq)
            clear hdq
            go_wp2_with fail
            refine (unhide LF).mono ?_
            rintro e W8 ⟨v8, rfl, ho8, _, b8⟩
            have Z8 := hide ((unhide ZF).call b8)
            have g8 := hide (show W8.heap[w.heap.size + 1]? = some (.cells #[.int .i64 kind, .int .i64 dir, .int .i64 toDir, .int .i64 p, .string name, .string tu, .string text] 37) by rw [b8.block _ (Array.getElem?_eq_some_iff.1 (unhide g2)).1]; exact unhide g2)
            have HO8 := hide ho8
            have LB := hide (Idl.bList_any W8 (unhide Z8).bed.has.1 (unhide MOK) dq)
            have S8 := W8.heap.size
            clear b8 ho8 LF ZF g2
            go_wp2_with fail
            refine (unhide LB).mono ?_
            rintro e W9 ⟨v9, rfl, ho9, b9⟩
            have Z9 := hide ((unhide Z8).call b9)
            have g9 := hide (show W9.heap[w.heap.size + 1]? = some (.cells #[.int .i64 kind, .int .i64 dir, .int .i64 toDir, .int .i64 p, .string name, .string tu, .string text] 37) by rw [b9.block _ (Array.getElem?_eq_some_iff.1 (unhide g8)).1]; exact unhide g8)
            have ST := hide (SameTexts_any (Idl.ownsRow_of_block (unhide HO8) (fun g hg => b9.block g ((unhide HO8).lt g hg).2)) ho9 (snames_short m (unhide MOK) dq))
            clear b9 ho9 LB Z8 g8 HO8
            go_wp2_with fail
            refine (unhide ST).mono ?_
            rintro e WA ⟨rfl, bA⟩
            have ZA := hide ((unhide Z9).call bA)
            have gA := hide (show WA.heap[w.heap.size + 1]? = some (.cells #[.int .i64 kind, .int .i64 dir, .int .i64 toDir, .int .i64 p, .string name, .string tu, .string text] 37) by rw [bA.block _ (Array.getElem?_eq_some_iff.1 (unhide g9)).1]; exact unhide g9)
            clear bA ST Z9 g9
            go_wp2_with fail
            go_roundw
            case rel => exact ⟨q + 1, by omega, by have := unhide HDQ; rw [this]; go_num, ZA, gA⟩
            case measure => have := unhide HDQ; simp [intOf]; omega
          have e5 : q = 5 := by omega
          subst e5
          have QQ := fun i => cell_of_row wr (w.heap.size + 1) i _ _ _ (unhide g2)
          have q1 := QQ 1
          have q2 := QQ 2
          have q3 := QQ 3
          have q4 := QQ 4
          have q5 := QQ 5
          clear QQ
          simp only [List.getElem?_toArray, List.getElem?_cons_zero, List.getElem?_cons_succ] at q1 q2 q3 q4 q5
          have RD := hide ((unhide ZF).fo.read (unhide MOK) dir name (unhide HYB).1 p)
          have hy1 := (unhide HYB).1
          generalize hrt : Img.sreadT m dir name p = rt at RD
          generalize hrb : Img.sreadB m dir name p = rb at RD
          generalize hrc : Img.sreadC m dir name p = rc at RD
          go_wp2_with fail
          refine (unhide RD).mono ?_
          rintro e WB ⟨rfl, _, bB⟩
          have ZB := hide ((unhide ZF).call bB)
          have gB := hide (show WB.heap[w.heap.size + 1]? = some (.cells #[.int .i64 kind, .int .i64 dir, .int .i64 toDir, .int .i64 p, .string name, .string tu, .string text] 37) by rw [bB.block _ (Array.getElem?_eq_some_iff.1 (unhide g2)).1]; exact unhide g2)
          clear bB RD ZF g2 q1 q2 q3 q4 q5
          have QQ := fun i => cell_of_row WB (w.heap.size + 1) i _ _ _ (unhide gB)
          have q1 := QQ 1
          have q2 := QQ 2
          have q3 := QQ 3
          have q4 := QQ 4
          have q5 := QQ 5
          clear QQ
          simp only [List.getElem?_toArray, List.getElem?_cons_zero, List.getElem?_cons_succ] at q1 q2 q3 q4 q5
          have RB := hide (bRead_any WB (unhide ZB).bed.has.1 (unhide MOK) dir name hy1 p)
          rw [hrt, hrb, hrc] at RB
          go_wp2_with fail
          refine (unhide RB).mono ?_
          rintro e WC ⟨rfl, bC⟩
          have ZC := hide ((unhide ZB).call bC)
          have gC := hide (show WC.heap[w.heap.size + 1]? = some (.cells #[.int .i64 kind, .int .i64 dir, .int .i64 toDir, .int .i64 p, .string name, .string tu, .string text] 37) by rw [bC.block _ (Array.getElem?_eq_some_iff.1 (unhide gB)).1]; exact unhide gB)
          clear bC RB ZB gB q1 q2 q3 q4 q5 hrt hrb hrc
          have QQ := fun i => cell_of_row WC (w.heap.size + 1) i _ _ _ (unhide gC)
          have q1 := QQ 1
          have q2 := QQ 2
          have q3 := QQ 3
          have q4 := QQ 4
          have q5 := QQ 5
          clear QQ
          simp only [List.getElem?_toArray, List.getElem?_cons_zero, List.getElem?_cons_succ] at q1 q2 q3 q4 q5
          have ZCd := hide ((unhide ZC).call (Below.refl _ WC).drew)
          have gCd : WC.drew.heap[w.heap.size + 1]? = some (.cells #[.int .i64 kind, .int .i64 dir, .int .i64 toDir, .int .i64 p, .string name, .string tu, .string text] 37) := unhide gC
          clear ZC gC q1 q2 q3 q4 q5
          go_upto_region 34 with fail
          refine wp_region_held_drew (S := fun V => V.heap[w.heap.size + 1]? = some (.cells #[.int .i64 kind, .int .i64 dir, .int .i64 toDir, .int .i64 p, .string name, .string tu, .string text] 37)) (by kernel_rfl) (gCd) (fun hS => ?_)
          refine tkP (i := 0) (oi := ⟨some 153, .move (.tmp 13), 9, "law05.go:78", #[], none⟩) (v := .string rt) gCd ?_
          try simp only [Act.put, z1, z2, z3]
          refine tkP (i := 1) (oi := ⟨some 154, .move (.tmp 16), 9, "law05.go:78", #[], none⟩) (v := .string rt) gCd ?_
          try simp only [Act.put, z1, z2, z3]
          refine tkH (i := 2) (oi := ⟨some 155, .binOp .eql 9 (.tmp 153) (.tmp 154) 9, 4, "law05.go:78", #[⟨0, .data⟩, ⟨1, .data⟩], none⟩) (v := .bool true) (fun W h => eq_str (s := rt) (.tmp 153) (.tmp 154) (by kernel_rfl) (by kernel_rfl) (by kernel_rfl) W) gCd ?_
          try simp only [Act.put, z1, z2, z3]
          refine tkP (i := 3) (oi := ⟨some 156, .move (.tmp 155), 4, "law05.go:78", #[⟨2, .data⟩], none⟩) (v := .bool true) gCd ?_
          try simp only [Act.put, z1, z2, z3]
          refine tkP (i := 4) (oi := ⟨some 157, .move (.tmp 14), 4, "law05.go:78", #[⟨3, .guard⟩], some (3, true)⟩) (v := .bool rb) gCd ?_
          try simp only [Act.put, z1, z2, z3]
          refine tkP (i := 5) (oi := ⟨some 158, .move (.tmp 17), 4, "law05.go:78", #[⟨3, .guard⟩], some (3, true)⟩) (v := .bool rb) gCd ?_
          try simp only [Act.put, z1, z2, z3]
          refine tkH (i := 6) (oi := ⟨some 159, .binOp .eql 4 (.tmp 157) (.tmp 158) 4, 4, "law05.go:78", #[⟨4, .data⟩, ⟨5, .data⟩, ⟨3, .guard⟩], some (3, true)⟩) (v := .bool true) (fun W h => eq_bool (s := rb) (.tmp 157) (.tmp 158) (by kernel_rfl) (by kernel_rfl) (by kernel_rfl) W) gCd ?_
          try simp only [Act.put, z1, z2, z3]
          refine tkP (i := 7) (oi := ⟨some 160, .pick (.tmp 156) (.tmp 159) (.const (.bool false)), 4, "law05.go:78", #[⟨3, .data⟩, ⟨6, .data⟩], none⟩) (v := .bool true) gCd ?_
          try simp only [Act.put, z1, z2, z3]
          refine tkP (i := 8) (oi := ⟨some 161, .move (.tmp 160), 4, "law05.go:78", #[⟨7, .data⟩, ⟨3, .chain⟩], none⟩) (v := .bool true) gCd ?_
          try simp only [Act.put, z1, z2, z3]
          refine tkP (i := 9) (oi := ⟨some 162, .move (.tmp 15), 3, "law05.go:78", #[⟨8, .guard⟩], some (8, true)⟩) (v := .int .i64 rc) gCd ?_
          try simp only [Act.put, z1, z2, z3]
          refine tkP (i := 10) (oi := ⟨some 163, .move (.tmp 18), 3, "law05.go:78", #[⟨8, .guard⟩], some (8, true)⟩) (v := .int .i64 rc) gCd ?_
          try simp only [Act.put, z1, z2, z3]
          refine tkH (i := 11) (oi := ⟨some 164, .binOp .eql 3 (.tmp 162) (.tmp 163) 3, 4, "law05.go:78", #[⟨9, .data⟩, ⟨10, .data⟩, ⟨8, .guard⟩], some (8, true)⟩) (v := .bool true) (fun W h => eq_int (s := rc) (.tmp 162) (.tmp 163) (by kernel_rfl) (by kernel_rfl) (by kernel_rfl) W) gCd ?_
          try simp only [Act.put, z1, z2, z3]
          refine tkP (i := 12) (oi := ⟨some 165, .pick (.tmp 161) (.tmp 164) (.const (.bool false)), 4, "law05.go:78", #[⟨8, .data⟩, ⟨11, .data⟩], none⟩) (v := .bool true) gCd ?_
          try simp only [Act.put, z1, z2, z3]
          refine tkP (i := 13) (oi := ⟨some 166, .move (.tmp 165), 4, "law05.go:78", #[⟨12, .data⟩, ⟨8, .chain⟩], none⟩) (v := .bool true) gCd ?_
          try simp only [Act.put, z1, z2, z3]
          refine tkP (i := 14) (oi := ⟨some 167, .move (.tmp 7), 42, "law05.go:78", #[⟨13, .guard⟩], some (13, true)⟩) (v := .pointer (some ⟨bf, 0, none⟩)) gCd ?_
          try simp only [Act.put, z1, z2, z3]
          refine tkP (i := 15) (oi := ⟨some 168, .fieldAddr 37 (.tmp 5) 1, 0, "law05.go:78", #[⟨13, .guard⟩], some (13, true)⟩) (v := .pointer (some ⟨w.heap.size + 1, 1, none⟩)) gCd ?_
          try simp only [Act.put, z1, z2, z3]
          refine tkH (i := 16) (oi := ⟨some 169, .load 3 (.tmp 168), 3, "law05.go:78", #[⟨15, .data⟩, ⟨13, .guard⟩], some (13, true)⟩) (v := .int .i64 dir) (fun W h => Op1.ld_int (g := w.heap.size + 1) (o0 := 1) (.tmp 168) (by kernel_rfl) (by kernel_rfl) W (by rw [cell_of_row _ _ _ _ _ _ h]; rfl)) gCd ?_
          try simp only [Act.put, z1, z2, z3]
          refine tkP (i := 17) (oi := ⟨some 170, .fieldAddr 37 (.tmp 5) 4, 0, "law05.go:78", #[⟨13, .guard⟩], some (13, true)⟩) (v := .pointer (some ⟨w.heap.size + 1, 4, none⟩)) gCd ?_
          try simp only [Act.put, z1, z2, z3]
          refine tkH (i := 18) (oi := ⟨some 171, .load 9 (.tmp 170), 9, "law05.go:78", #[⟨17, .data⟩, ⟨13, .guard⟩], some (13, true)⟩) (v := .string name) (fun W h => Op1.ld_str (g := w.heap.size + 1) (o0 := 4) (.tmp 170) (by kernel_rfl) (by kernel_rfl) W (by rw [cell_of_row _ _ _ _ _ _ h]; rfl)) gCd ?_
          try simp only [Act.put, z1, z2, z3]
          refine tkP (i := 19) (oi := ⟨some 172, .fieldAddr 37 (.tmp 5) 2, 0, "law05.go:78", #[⟨13, .guard⟩], some (13, true)⟩) (v := .pointer (some ⟨w.heap.size + 1, 2, none⟩)) gCd ?_
          try simp only [Act.put, z1, z2, z3]
          refine tkH (i := 20) (oi := ⟨some 173, .load 3 (.tmp 172), 3, "law05.go:78", #[⟨19, .data⟩, ⟨13, .guard⟩], some (13, true)⟩) (v := .int .i64 toDir) (fun W h => Op1.ld_int (g := w.heap.size + 1) (o0 := 2) (.tmp 172) (by kernel_rfl) (by kernel_rfl) W (by rw [cell_of_row _ _ _ _ _ _ h]; rfl)) gCd ?_
          try simp only [Act.put, z1, z2, z3]
          refine tkP (i := 21) (oi := ⟨some 174, .fieldAddr 37 (.tmp 5) 5, 0, "law05.go:78", #[⟨13, .guard⟩], some (13, true)⟩) (v := .pointer (some ⟨w.heap.size + 1, 5, none⟩)) gCd ?_
          try simp only [Act.put, z1, z2, z3]
          refine tkH (i := 22) (oi := ⟨some 175, .load 9 (.tmp 174), 9, "law05.go:78", #[⟨21, .data⟩, ⟨13, .guard⟩], some (13, true)⟩) (v := .string tu) (fun W h => Op1.ld_str (g := w.heap.size + 1) (o0 := 5) (.tmp 174) (by kernel_rfl) (by kernel_rfl) W (by rw [cell_of_row _ _ _ _ _ _ h]; rfl)) gCd ?_
          try simp only [Act.put, z1, z2, z3]
          refine tkP (i := 24) (oi := ⟨some 177, .move (.tmp 8), 44, "law05.go:78", #[⟨13, .guard⟩], some (13, true)⟩) (v := .pointer (some ⟨gb, 0, none⟩)) gCd ?_
          try simp only [Act.put, z1, z2, z3]
          refine tkP (i := 25) (oi := ⟨some 178, .fieldAddr 37 (.tmp 5) 1, 0, "law05.go:78", #[⟨13, .guard⟩], some (13, true)⟩) (v := .pointer (some ⟨w.heap.size + 1, 1, none⟩)) gCd ?_
          try simp only [Act.put, z1, z2, z3]
          refine tkH (i := 26) (oi := ⟨some 179, .load 3 (.tmp 178), 3, "law05.go:78", #[⟨25, .data⟩, ⟨13, .guard⟩], some (13, true)⟩) (v := .int .i64 dir) (fun W h => Op1.ld_int (g := w.heap.size + 1) (o0 := 1) (.tmp 178) (by kernel_rfl) (by kernel_rfl) W (by rw [cell_of_row _ _ _ _ _ _ h]; rfl)) gCd ?_
          try simp only [Act.put, z1, z2, z3]
          refine tkP (i := 27) (oi := ⟨some 180, .fieldAddr 37 (.tmp 5) 4, 0, "law05.go:78", #[⟨13, .guard⟩], some (13, true)⟩) (v := .pointer (some ⟨w.heap.size + 1, 4, none⟩)) gCd ?_
          try simp only [Act.put, z1, z2, z3]
          refine tkH (i := 28) (oi := ⟨some 181, .load 9 (.tmp 180), 9, "law05.go:78", #[⟨27, .data⟩, ⟨13, .guard⟩], some (13, true)⟩) (v := .string name) (fun W h => Op1.ld_str (g := w.heap.size + 1) (o0 := 4) (.tmp 180) (by kernel_rfl) (by kernel_rfl) W (by rw [cell_of_row _ _ _ _ _ _ h]; rfl)) gCd ?_
          try simp only [Act.put, z1, z2, z3]
          refine tkP (i := 29) (oi := ⟨some 182, .fieldAddr 37 (.tmp 5) 2, 0, "law05.go:78", #[⟨13, .guard⟩], some (13, true)⟩) (v := .pointer (some ⟨w.heap.size + 1, 2, none⟩)) gCd ?_
          try simp only [Act.put, z1, z2, z3]
          refine tkH (i := 30) (oi := ⟨some 183, .load 3 (.tmp 182), 3, "law05.go:78", #[⟨29, .data⟩, ⟨13, .guard⟩], some (13, true)⟩) (v := .int .i64 toDir) (fun W h => Op1.ld_int (g := w.heap.size + 1) (o0 := 2) (.tmp 182) (by kernel_rfl) (by kernel_rfl) W (by rw [cell_of_row _ _ _ _ _ _ h]; rfl)) gCd ?_
          try simp only [Act.put, z1, z2, z3]
          refine tkP (i := 31) (oi := ⟨some 184, .fieldAddr 37 (.tmp 5) 5, 0, "law05.go:78", #[⟨13, .guard⟩], some (13, true)⟩) (v := .pointer (some ⟨w.heap.size + 1, 5, none⟩)) gCd ?_
          try simp only [Act.put, z1, z2, z3]
          refine tkH (i := 32) (oi := ⟨some 185, .load 9 (.tmp 184), 9, "law05.go:78", #[⟨31, .data⟩, ⟨13, .guard⟩], some (13, true)⟩) (v := .string tu) (fun W h => Op1.ld_str (g := w.heap.size + 1) (o0 := 5) (.tmp 184) (by kernel_rfl) (by kernel_rfl) W (by rw [cell_of_row _ _ _ _ _ _ h]; rfl)) gCd ?_
          try simp only [Act.put, z1, z2, z3]
          have SA := hide ((unhide ZCd).fo.same dir name toDir tu)
          have SB := hide (bSame_any WC.drew (unhide ZCd).bed.has.1 (unhide MOK) dir name toDir tu)
          generalize Img.ssame m dir name toDir tu = sm at SA SB
          refine wpAnyH_ready (rs := [23]) (by kernel_rfl) (by simp) ?_
          refine AllReadyH.cons (o := ⟨some 176, .call { callee := .value (.func 24), args := #[.tmp 167, .tmp 169, .tmp 171, .tmp 173, .tmp 175], argTypes := #[42, 3, 9, 3, 9] }, 4, "law05.go:78", #[⟨14, .data⟩, ⟨16, .data⟩, ⟨18, .data⟩, ⟨20, .data⟩, ⟨22, .data⟩, ⟨13, .chain⟩, ⟨13, .guard⟩], some (13, true)⟩) rfl (fun K hK => ?_) AllReadyH.nil
          rw [if_pos (by kernel_rfl)]
          go_simp
          refine (unhide SA).mono ?_
          rintro e wq ⟨rfl, e9⟩
          rw [e9]
          clear e9 wq SA
          go_wp2_with fail
          refine hK.out _ _ (gCd) (fun hS1 => ?_)
          clear hK K
          try simp only [Act.put, z1, z2, z3]
          refine wpAnyH_ready (rs := [33]) (by kernel_rfl) (by simp) ?_
          refine AllReadyH.cons (o := ⟨some 186, .call { callee := .value (.func 25), args := #[.tmp 177, .tmp 179, .tmp 181, .tmp 183, .tmp 185], argTypes := #[44, 3, 9, 3, 9] }, 4, "law05.go:78", #[⟨24, .data⟩, ⟨26, .data⟩, ⟨28, .data⟩, ⟨30, .data⟩, ⟨32, .data⟩, ⟨23, .chain⟩, ⟨13, .guard⟩], some (13, true)⟩) rfl (fun K hK => ?_) AllReadyH.nil
          rw [if_pos (by kernel_rfl)]
          go_simp
          refine (unhide SB).mono ?_
          rintro e WD ⟨rfl, bD⟩
          have ZD := hide ((unhide ZCd).call bD)
          have gD : WD.heap[w.heap.size + 1]? = some (.cells #[.int .i64 kind, .int .i64 dir, .int .i64 toDir, .int .i64 p, .string name, .string tu, .string text] 37) := by rw [bD.block _ (Array.getElem?_eq_some_iff.1 gCd).1]; exact gCd
          clear bD SB ZCd gCd
          go_wp2_with fail
          refine hK.out _ _ (gD) (fun hS2 => ?_)
          clear hK K
          try simp only [Act.put, z1, z2, z3]
          refine tkH (i := 34) (oi := ⟨some 187, .binOp .eql 4 (.tmp 176) (.tmp 186) 4, 4, "law05.go:78", #[⟨23, .data⟩, ⟨33, .data⟩, ⟨13, .guard⟩], some (13, true)⟩) (v := .bool true) (fun W h => eq_bool (s := sm) (.tmp 176) (.tmp 186) (by kernel_rfl) (by kernel_rfl) (by kernel_rfl) W) hS2 ?_
          try simp only [Act.put, z1, z2, z3]
          refine tkP (i := 35) (oi := ⟨some 188, .pick (.tmp 166) (.tmp 187) (.const (.bool false)), 4, "law05.go:78", #[⟨13, .data⟩, ⟨34, .data⟩], none⟩) (v := .bool true) hS2 ?_
          try simp only [Act.put, z1, z2, z3]
          refine tkP (i := 36) (oi := ⟨some 189, .move (.tmp 188), 4, "law05.go:78", #[⟨35, .data⟩, ⟨33, .chain⟩], none⟩) (v := .bool true) hS2 ?_
          try simp only [Act.put, z1, z2, z3]
          refine tkP (i := 37) (oi := ⟨some 190, .move (.tmp 7), 42, "law05.go:78", #[⟨36, .guard⟩], some (36, true)⟩) (v := .pointer (some ⟨bf, 0, none⟩)) hS2 ?_
          try simp only [Act.put, z1, z2, z3]
          refine tkP (i := 38) (oi := ⟨some 191, .fieldAddr 37 (.tmp 5) 1, 0, "law05.go:78", #[⟨36, .guard⟩], some (36, true)⟩) (v := .pointer (some ⟨w.heap.size + 1, 1, none⟩)) hS2 ?_
          try simp only [Act.put, z1, z2, z3]
          refine tkH (i := 39) (oi := ⟨some 192, .load 3 (.tmp 191), 3, "law05.go:78", #[⟨38, .data⟩, ⟨36, .guard⟩], some (36, true)⟩) (v := .int .i64 dir) (fun W h => Op1.ld_int (g := w.heap.size + 1) (o0 := 1) (.tmp 191) (by kernel_rfl) (by kernel_rfl) W (by rw [cell_of_row _ _ _ _ _ _ h]; rfl)) hS2 ?_
          try simp only [Act.put, z1, z2, z3]
          refine tkP (i := 40) (oi := ⟨some 193, .fieldAddr 37 (.tmp 5) 4, 0, "law05.go:78", #[⟨36, .guard⟩], some (36, true)⟩) (v := .pointer (some ⟨w.heap.size + 1, 4, none⟩)) hS2 ?_
          try simp only [Act.put, z1, z2, z3]
          refine tkH (i := 41) (oi := ⟨some 194, .load 9 (.tmp 193), 9, "law05.go:78", #[⟨40, .data⟩, ⟨36, .guard⟩], some (36, true)⟩) (v := .string name) (fun W h => Op1.ld_str (g := w.heap.size + 1) (o0 := 4) (.tmp 193) (by kernel_rfl) (by kernel_rfl) W (by rw [cell_of_row _ _ _ _ _ _ h]; rfl)) hS2 ?_
          try simp only [Act.put, z1, z2, z3]
          refine tkP (i := 43) (oi := ⟨some 196, .move (.tmp 8), 44, "law05.go:78", #[⟨36, .guard⟩], some (36, true)⟩) (v := .pointer (some ⟨gb, 0, none⟩)) hS2 ?_
          try simp only [Act.put, z1, z2, z3]
          refine tkP (i := 44) (oi := ⟨some 197, .fieldAddr 37 (.tmp 5) 1, 0, "law05.go:78", #[⟨36, .guard⟩], some (36, true)⟩) (v := .pointer (some ⟨w.heap.size + 1, 1, none⟩)) hS2 ?_
          try simp only [Act.put, z1, z2, z3]
          refine tkH (i := 45) (oi := ⟨some 198, .load 3 (.tmp 197), 3, "law05.go:78", #[⟨44, .data⟩, ⟨36, .guard⟩], some (36, true)⟩) (v := .int .i64 dir) (fun W h => Op1.ld_int (g := w.heap.size + 1) (o0 := 1) (.tmp 197) (by kernel_rfl) (by kernel_rfl) W (by rw [cell_of_row _ _ _ _ _ _ h]; rfl)) hS2 ?_
          try simp only [Act.put, z1, z2, z3]
          refine tkP (i := 46) (oi := ⟨some 199, .fieldAddr 37 (.tmp 5) 4, 0, "law05.go:78", #[⟨36, .guard⟩], some (36, true)⟩) (v := .pointer (some ⟨w.heap.size + 1, 4, none⟩)) hS2 ?_
          try simp only [Act.put, z1, z2, z3]
          refine tkH (i := 47) (oi := ⟨some 200, .load 9 (.tmp 199), 9, "law05.go:78", #[⟨46, .data⟩, ⟨36, .guard⟩], some (36, true)⟩) (v := .string name) (fun W h => Op1.ld_str (g := w.heap.size + 1) (o0 := 4) (.tmp 199) (by kernel_rfl) (by kernel_rfl) W (by rw [cell_of_row _ _ _ _ _ _ h]; rfl)) hS2 ?_
          try simp only [Act.put, z1, z2, z3]
          have SC := hide ((unhide ZD).fo.sure dir name)
          have SE := hide fun WE (z : Fz w bf bc gb m k la m k la WE) => bSure_any WE z.bed.has.1 z.bed.has.2 dir name
          generalize Img.ssure m k dir name = su at SC SE
          refine wpAnyH_ready (rs := [42]) (by kernel_rfl) (by simp) ?_
          refine AllReadyH.cons (o := ⟨some 195, .call { callee := .value (.func 26), args := #[.tmp 190, .tmp 192, .tmp 194], argTypes := #[42, 3, 9] }, 4, "law05.go:78", #[⟨37, .data⟩, ⟨39, .data⟩, ⟨41, .data⟩, ⟨36, .chain⟩, ⟨36, .guard⟩], some (36, true)⟩) rfl (fun K hK => ?_) AllReadyH.nil
          rw [if_pos (by kernel_rfl)]
          go_simp
          refine (unhide SC).mono ?_
          rintro e WE ⟨rfl, _, bE⟩
          have ZE := hide ((unhide ZD).call bE)
          have gE : WE.heap[w.heap.size + 1]? = some (.cells #[.int .i64 kind, .int .i64 dir, .int .i64 toDir, .int .i64 p, .string name, .string tu, .string text] 37) := by rw [bE.block _ (Array.getElem?_eq_some_iff.1 gD).1]; exact gD
          clear bE SC ZD gD
          go_wp2_with fail
          refine hK.out _ _ (gE) (fun hS3 => ?_)
          clear hK K
          try simp only [Act.put, z1, z2, z3]
          refine wpAnyH_ready (rs := [48]) (by kernel_rfl) (by simp) ?_
          refine AllReadyH.cons (o := ⟨some 201, .call { callee := .value (.func 27), args := #[.tmp 196, .tmp 198, .tmp 200], argTypes := #[44, 3, 9] }, 4, "law05.go:78", #[⟨43, .data⟩, ⟨45, .data⟩, ⟨47, .data⟩, ⟨42, .chain⟩, ⟨36, .guard⟩], some (36, true)⟩) rfl (fun K hK => ?_) AllReadyH.nil
          rw [if_pos (by kernel_rfl)]
          go_simp
          refine (unhide SE _ (unhide ZE)).mono ?_
          rintro e WF ⟨rfl, bF⟩
          have gF : WF.heap[w.heap.size + 1]? = some (.cells #[.int .i64 kind, .int .i64 dir, .int .i64 toDir, .int .i64 p, .string name, .string tu, .string text] 37) := by rw [bF.block _ (Array.getElem?_eq_some_iff.1 gE).1]; exact gE
          have BF := hide ((unhide ZE).fo.bel.trans (bF.mono (unhide ZE).fo.bel.size))
          clear bF SE ZE gE
          go_wp2_with fail
          refine hK.out _ _ (gF) (fun hS4 => ?_)
          clear hK K
          try simp only [Act.put, z1, z2, z3]
          refine tkH (i := 49) (oi := ⟨some 202, .binOp .eql 4 (.tmp 195) (.tmp 201) 4, 4, "law05.go:78", #[⟨42, .data⟩, ⟨48, .data⟩, ⟨36, .guard⟩], some (36, true)⟩) (v := .bool true) (fun W h => eq_bool (s := su) (.tmp 195) (.tmp 201) (by kernel_rfl) (by kernel_rfl) (by kernel_rfl) W) hS4 ?_
          try simp only [Act.put, z1, z2, z3]
          refine tkP (i := 50) (oi := ⟨some 203, .pick (.tmp 189) (.tmp 202) (.const (.bool false)), 4, "law05.go:78", #[⟨36, .data⟩, ⟨49, .data⟩], none⟩) (v := .bool true) hS4 ?_
          try simp only [Act.put, z1, z2, z3]
          refine tkP (i := 51) (oi := ⟨some 6, .assign (.tmp 203), 4, "law05.go:78", #[⟨50, .data⟩, ⟨48, .chain⟩, ⟨0, .phase⟩, ⟨1, .phase⟩, ⟨2, .phase⟩, ⟨3, .phase⟩, ⟨4, .phase⟩, ⟨5, .phase⟩, ⟨6, .phase⟩, ⟨7, .phase⟩, ⟨8, .phase⟩, ⟨9, .phase⟩, ⟨10, .phase⟩, ⟨11, .phase⟩, ⟨12, .phase⟩, ⟨13, .phase⟩, ⟨14, .phase⟩, ⟨15, .phase⟩, ⟨16, .phase⟩, ⟨17, .phase⟩, ⟨18, .phase⟩, ⟨19, .phase⟩, ⟨20, .phase⟩, ⟨21, .phase⟩, ⟨22, .phase⟩, ⟨23, .phase⟩, ⟨24, .phase⟩, ⟨25, .phase⟩, ⟨26, .phase⟩, ⟨27, .phase⟩, ⟨28, .phase⟩, ⟨29, .phase⟩, ⟨30, .phase⟩, ⟨31, .phase⟩, ⟨32, .phase⟩, ⟨33, .phase⟩, ⟨34, .phase⟩, ⟨35, .phase⟩, ⟨36, .phase⟩, ⟨37, .phase⟩, ⟨38, .phase⟩, ⟨39, .phase⟩, ⟨40, .phase⟩, ⟨41, .phase⟩, ⟨42, .phase⟩, ⟨43, .phase⟩, ⟨44, .phase⟩, ⟨45, .phase⟩, ⟨46, .phase⟩, ⟨47, .phase⟩, ⟨48, .phase⟩, ⟨49, .phase⟩, ⟨50, .phase⟩], none⟩) (v := .bool true) hS4 ?_
          try simp only [Act.put, z1, z2, z3]
          refine wpAnyH_done (by kernel_rfl) ?_ _
          clear hS hS1 hS2 hS3 hS4 gF
          go_wp2_with fail
          go_ret
          exact ⟨rfl, unhide BF⟩
  · refine (sOf_nil cs m0 (unhide HI) hck w6).mono ?_
    rintro e w7 ⟨rfl, b7⟩
    have F7 := hide ((unhide F6).call b7)
    have a1 := hide (show w7.heap[w.heap.size]? = some (.cells cs 34) by rw [b7.block _ (Array.getElem?_eq_some_iff.1 (unhide y1)).1]; exact unhide y1)
    have a2 := hide (show w7.heap[w.heap.size + 1]? = some (.cells #[.int .i64 kind, .int .i64 dir, .int .i64 toDir, .int .i64 p, .string name, .string tu, .string text] 37) by rw [b7.block _ (Array.getElem?_eq_some_iff.1 (unhide y2)).1]; exact unhide y2)
    have R7 := hide (show w7.heap[gb]? = some (.cells (blankCells ++ (blankCells ++ bedTail)) 48) by rw [b7.block _ (Array.getElem?_eq_some_iff.1 (unhide RG)).1]; exact unhide RG)
    have FA := hide (fault_any w.heap.size m0 w7 (HasAt.img (hasAt_of (unhide a1) (by rw [z0]; omega) (by rw [Nat.zero_add, show 94 = cs.size from z0.symm]; simp) (unhide HI))))
    clear b7 y1 y2 RG F6
    go_wp2_with fail
    refine (unhide FA).mono ?_
    rintro e w9 ⟨⟨c0, rfl, hc0⟩, b9⟩
    have c0z : (c0 == 0) = false := by
      have : ¬ c0 = 0 := fun z => hck (hc0.1 z)
      simpa using this
    have Z9 := hide (show Fz w bf0 bc0 gb blankI blankI 0 blankI blankI 0 w9 from ⟨(unhide F7).call b9, ⟨blankCells, blankCells, _, _, _, _, by rw [b9.block _ (Array.getElem?_eq_some_iff.1 (unhide R7)).1]; exact unhide R7, blank_is, blank_is⟩, (unhide NB).1, (unhide NB).2.1, (unhide NB).2.2.1⟩)
    have f2 := hide (show w9.heap[w.heap.size + 1]? = some (.cells #[.int .i64 kind, .int .i64 dir, .int .i64 toDir, .int .i64 p, .string name, .string tu, .string text] 37) by rw [b9.block _ (Array.getElem?_eq_some_iff.1 (unhide a2)).1]; exact unhide a2)
    have NE2 := hide (show w.heap.size + 1 ≠ bf0 ∧ w.heap.size + 1 ≠ bc0 ∧ w.heap.size + 1 ≠ gb by have := (unhide NX).1; have := (unhide NX).2; have := (unhide NB).2.2.2; omega)
    clear b9 hc0 FA a1 a2 R7 F7 NX NB hck
    obtain ⟨M, hM⟩ : ∃ M, M = blankI := ⟨_, rfl⟩
    obtain ⟨last, hlast⟩ : ∃ l : Int, l = 0 := ⟨_, rfl⟩
    have GDL := hide (show Img.Ex M → Img.Good M last from fun _ => by rw [hM, hlast]; exact good0)
    have h40 : last ≤ 1099511627776 := by omega
    rw [← hM, ← hlast] at Z9
    clear hM
    generalize bf0 = bf at Z9 NE2 ⊢
    generalize bc0 = bc at Z9 NE2
    go_upto_region 20 with fail
    clear c0z
    have EXC := hide (isExact_any w9 (unhide Z9).bed.has.1)
    go_wp2_with fail
    refine (unhide EXC).mono ?_
    rintro e w10 ⟨⟨vx, rfl, hvx⟩, b10⟩
    have Z10 := hide ((unhide Z9).call b10)
    have g2 := hide (show w10.heap[w.heap.size + 1]? = some (.cells #[.int .i64 kind, .int .i64 dir, .int .i64 toDir, .int .i64 p, .string name, .string tu, .string text] 37) by rw [b10.block _ (Array.getElem?_eq_some_iff.1 (unhide f2)).1]; exact unhide f2)
    clear b10 EXC Z9 f2
    cases vx
    case false =>
      go_wp2_with fail
      go_ret
      exact ⟨rfl, (unhide Z10).fo.bel⟩
    have SD := hide (show Sd M last 0 from ⟨unhide GDL (hvx rfl), by omega⟩)
    clear hvx GDL
    go_wp2_with fail
    go_loopw [11] (fun i wr => ∃ (j : Nat) (m k : Img) (la : Int), j ≤ L.length ∧ i = .int .i64 j ∧ Hid (Fz w bf bc gb m k la m k la wr) ∧ Hid (Sd m la j) ∧ Hid (wr.heap[w.heap.size + 1]? = some (.cells #[.int .i64 kind, .int .i64 dir, .int .i64 toDir, .int .i64 p, .string name, .string tu, .string text] 37))) (fun i _ => L.length - (intOf i).toNat)
    case atStart => exact ⟨0, M, M, last, Nat.zero_le _, rfl, Z10, SD, g2⟩
    case round =>
      clear Z10 SD g2
      obtain ⟨j, m, k, la, hj, rfl, ZF, SD, g2⟩ := hrel
      by_cases hlt : j < L.length
      case pos =>
        have hjn : (j : Int) < (L.length : Int) := by omega
        obtain ⟨ga, oa, rfl, hga, hca⟩ := unhide HST j hlt
        have hxo := unhide HOk L[j] (List.getElem_mem hlt)
        generalize L[j] = x at hca hxo
        have HXO := hide hxo.big
        have HCA := hide hca
        have SD1 := hide ((unhide SD).any k x)
        have ZD := hide ((unhide ZF).call (Below.refl _ wr).drew)
        have g2d : Hid (wr.drew.heap[w.heap.size + 1]? = some (.cells #[.int .i64 kind, .int .i64 dir, .int .i64 toDir, .int .i64 p, .string name, .string tu, .string text] 37)) := g2
        have S0 := unhide HCA _ (unhide ZD).fo.bel
        have DS := hide (softStepZ (unhide ZD) (unhide g2d) (unhide NE2) (unhide SD).good (by have := (unhide SD).few; omega) x (unhide HXO).1 (unhide HXO).2.1 (unhide HXO).2.2)
        clear hca hxo HST HOk hga
        go_upto_region 25 with fail
        refine wp_region_held_drew (S := fun _ => True) (by kernel_rfl) (trivial) (fun hS => ?_)
        refine tkP (i := 0) (oi := ⟨some 83, .move (.tmp 7), 42, "law05.go:67", #[], none⟩) (v := .pointer (some ⟨bf, 0, none⟩)) hS ?_
        try simp only [Act.put, z1, z2, z3]
        refine tkP (i := 1) (oi := ⟨some 84, .move (.tmp 8), 44, "law05.go:67", #[], none⟩) (v := .pointer (some ⟨gb, 0, none⟩)) hS ?_
        try simp only [Act.put, z1, z2, z3]
        refine tkP (i := 2) (oi := ⟨some 85, .move (.tmp 1), 35, "law05.go:67", #[], none⟩) (v := .slice (some ⟨ga, oa, none⟩) L.length c) hS ?_
        try simp only [Act.put, z1, z2, z3]
        refine tkP (i := 3) (oi := ⟨some 86, .move (.tmp 11), 3, "law05.go:67", #[], none⟩) (v := .int .i64 (j : Nat)) hS ?_
        try simp only [Act.put, z1, z2, z3]
        refine tkH (i := 4) (oi := ⟨some 87, .indexAddr 35 (.tmp 85) (.tmp 86), 0, "law05.go:67", #[⟨2, .data⟩, ⟨3, .data⟩], none⟩) (v := .pointer (some ⟨ga, oa + j * 7, none⟩)) (fun W h => Op1.ix_step (c := c) (.tmp 85) (.tmp 86) (by kernel_rfl) (by kernel_rfl) (by kernel_rfl) hlt W) hS ?_
        try simp only [Act.put, z1, z2, z3]
        refine wpAnyH_ready (rs := [5]) (by kernel_rfl) (by simp) ?_
        refine AllReadyH.cons (o := ⟨some 88, .load 37 (.tmp 87), 37, "law05.go:67", #[⟨4, .data⟩], none⟩) rfl (fun K hK => ?_) AllReadyH.nil
        rw [if_pos (by kernel_rfl)]
        refine wp_value (v := .agg (stpA x)) (Op1.ld_step (.tmp 87) (by kernel_rfl) (by kernel_rfl) x _ S0) ?_
        refine hK.out _ _ hS (fun _ => ?_)
        clear hK K
        try simp only [Act.put, z1, z2, z3]
        refine wpAnyH_ready (rs := [6]) (by kernel_rfl) (by simp) ?_
        refine AllReadyH.cons (o := ⟨some 89, .call { callee := .value (.func 17), args := #[.tmp 83, .tmp 84, .tmp 88], argTypes := #[42, 44, 37] }, 4, "law05.go:67", #[⟨0, .data⟩, ⟨1, .data⟩, ⟨5, .data⟩], none⟩) rfl (fun K hK => ?_) AllReadyH.nil
        rw [if_pos (by kernel_rfl)]
        go_simp
        refine (unhide DS).mono ?_
        rintro e W6 ⟨rfl, h6, g6⟩
        have Z6 := hide h6
        have G6 := hide g6
        clear h6 g6 DS ZD g2d S0
        go_wp2_with fail
        refine hK.out _ _ (trivial) (fun hS6 => ?_)
        clear hK K
        try simp only [Act.put, z1, z2, z3]
        refine tkP (i := 7) (oi := ⟨some 90, .unOp .not 4 (.tmp 89), 4, "law05.go:67", #[⟨6, .data⟩], none⟩) (v := .bool false) hS6 ?_
        try simp only [Act.put, z1, z2, z3]
        refine tkP (i := 8) (oi := ⟨some 91, .move (.tmp 90), 4, "law05.go:67", #[⟨7, .data⟩, ⟨6, .chain⟩], none⟩) (v := .bool false) hS6 ?_
        try simp only [Act.put, z1, z2, z3]
        obtain ⟨cs1, ds1, fl⟩ := (unhide Z6).fo.it
        obtain ⟨xs, ys, t1, t2, t3, t4, hr, hx1, hy1⟩ := (unhide Z6).bed
        have hi := fl.now
        have hk1 := fl.disk
        have zc := hi.size
        have zd := hk1.size
        have zx := hx1.size
        have zy := hy1.size
        have hsd : TwoS bf bc gb cs1 ds1 (xs ++ (ys ++ Sft.btl (Img.alast m k la x) t1 t2 t3 t4)) W6 := ⟨fl.ptr, fl.flt, fl.row, hr⟩
        have QN := fun W => neqlImg hi hx1 W
        have QD := fun W => neqlImg hk1 hy1 W
        rw [same_self] at QN QD
        clear hS hS6 fl hr
        refine wpAnyH_mono2 (S' := TwoS bf bc gb cs1 ds1 (xs ++ (ys ++ Sft.btl (Img.alast m k la x) t1 t2 t3 t4))) (fun _ _ => trivial) _ _ _ _ ?_
        refine tkP (i := 9) (oi := ⟨some 92, .move (.tmp 7), 42, "law05.go:67", #[⟨8, .guard⟩], some (8, false)⟩) (v := .pointer (some ⟨bf, 0, none⟩)) hsd ?_
        try simp only [Act.put, z1, z2, z3]
        refine tkP (i := 10) (oi := ⟨some 93, .nilCheck (.tmp 92), 0, "law05.go:67", #[⟨9, .data⟩, ⟨8, .guard⟩], some (8, false)⟩) (v := .pointer (some ⟨bf, 0, none⟩)) hsd ?_
        try simp only [Act.put, z1, z2, z3]
        refine tkP (i := 11) (oi := ⟨some 94, .fieldAddr 55 (.tmp 93) 0, 0, "law05.go:67", #[⟨10, .data⟩, ⟨8, .guard⟩], some (8, false)⟩) (v := .pointer (some ⟨bf, 0, none⟩)) hsd ?_
        try simp only [Act.put, z1, z2, z3]
        refine tkH (i := 12) (oi := ⟨some 95, .load 53 (.tmp 94), 53, "law05.go:67", #[⟨11, .data⟩, ⟨8, .guard⟩], some (8, false)⟩) (v := .pointer (some ⟨bc, 0, none⟩)) (fun W h => Op1.ld_ptr (.tmp 94) (by kernel_rfl) (by kernel_rfl) W h.p1) hsd ?_
        try simp only [Act.put, z1, z2, z3]
        refine tkP (i := 13) (oi := ⟨some 96, .nilCheck (.tmp 95), 0, "law05.go:67", #[⟨12, .data⟩, ⟨8, .guard⟩], some (8, false)⟩) (v := .pointer (some ⟨bc, 0, none⟩)) hsd ?_
        try simp only [Act.put, z1, z2, z3]
        refine tkP (i := 14) (oi := ⟨some 97, .fieldAddr 57 (.tmp 96) 0, 0, "law05.go:67", #[⟨13, .data⟩, ⟨8, .guard⟩], some (8, false)⟩) (v := .pointer (some ⟨bc, 0, none⟩)) hsd ?_
        try simp only [Act.put, z1, z2, z3]
        refine tkH (i := 15) (oi := ⟨some 98, .load 34 (.tmp 97), 34, "law05.go:67", #[⟨14, .data⟩, ⟨8, .guard⟩], some (8, false)⟩) (v := .agg cs1) (fun W h => ld_img2 (off := 0) (.tmp 97) (by kernel_rfl) (by kernel_rfl) W h.row (by rw [Array.size_append, zc]; omega) (app_fst zc)) hsd ?_
        try simp only [Act.put, z1, z2, z3]
        refine tkP (i := 16) (oi := ⟨some 99, .move (.tmp 8), 44, "law05.go:67", #[⟨8, .guard⟩], some (8, false)⟩) (v := .pointer (some ⟨gb, 0, none⟩)) hsd ?_
        try simp only [Act.put, z1, z2, z3]
        refine tkP (i := 17) (oi := ⟨some 100, .nilCheck (.tmp 99), 0, "law05.go:67", #[⟨16, .data⟩, ⟨8, .guard⟩], some (8, false)⟩) (v := .pointer (some ⟨gb, 0, none⟩)) hsd ?_
        try simp only [Act.put, z1, z2, z3]
        refine tkP (i := 18) (oi := ⟨some 101, .fieldAddr 48 (.tmp 100) 0, 0, "law05.go:67", #[⟨17, .data⟩, ⟨8, .guard⟩], some (8, false)⟩) (v := .pointer (some ⟨gb, 0, none⟩)) hsd ?_
        try simp only [Act.put, z1, z2, z3]
        refine tkH (i := 19) (oi := ⟨some 102, .load 34 (.tmp 101), 34, "law05.go:67", #[⟨18, .data⟩, ⟨8, .guard⟩], some (8, false)⟩) (v := .agg xs) (fun W h => ld_img2 (off := 0) (.tmp 101) (by kernel_rfl) (by kernel_rfl) W h.bed (by rw [Array.size_append, zx]; omega) (app_fst zx)) hsd ?_
        try simp only [Act.put, z1, z2, z3]
        refine tkH (i := 20) (oi := ⟨some 103, .binOp .neq 34 (.tmp 98) (.tmp 102) 34, 4, "law05.go:67", #[⟨15, .data⟩, ⟨19, .data⟩, ⟨8, .guard⟩], some (8, false)⟩) (v := .bool false) (fun W h => run_exec_nev2 34 34 (.tmp 98) (.tmp 102) (by kernel_rfl) _ _ (by kernel_rfl) (by kernel_rfl) false (by kernel_rfl) QN W) hsd ?_
        try simp only [Act.put, z1, z2, z3]
        refine tkP (i := 21) (oi := ⟨some 104, .pick (.tmp 91) (.const (.bool true)) (.tmp 103), 4, "law05.go:67", #[⟨8, .data⟩, ⟨20, .data⟩], none⟩) (v := .bool false) hsd ?_
        try simp only [Act.put, z1, z2, z3]
        refine tkP (i := 22) (oi := ⟨some 105, .move (.tmp 104), 4, "law05.go:67", #[⟨21, .data⟩, ⟨8, .chain⟩], none⟩) (v := .bool false) hsd ?_
        try simp only [Act.put, z1, z2, z3]
        refine tkP (i := 23) (oi := ⟨some 106, .move (.tmp 7), 42, "law05.go:67", #[⟨22, .guard⟩], some (22, false)⟩) (v := .pointer (some ⟨bf, 0, none⟩)) hsd ?_
        try simp only [Act.put, z1, z2, z3]
        refine tkP (i := 24) (oi := ⟨some 107, .nilCheck (.tmp 106), 0, "law05.go:67", #[⟨23, .data⟩, ⟨22, .guard⟩], some (22, false)⟩) (v := .pointer (some ⟨bf, 0, none⟩)) hsd ?_
        try simp only [Act.put, z1, z2, z3]
        refine tkP (i := 25) (oi := ⟨some 108, .fieldAddr 55 (.tmp 107) 0, 0, "law05.go:67", #[⟨24, .data⟩, ⟨22, .guard⟩], some (22, false)⟩) (v := .pointer (some ⟨bf, 0, none⟩)) hsd ?_
        try simp only [Act.put, z1, z2, z3]
        refine tkH (i := 26) (oi := ⟨some 109, .load 53 (.tmp 108), 53, "law05.go:67", #[⟨25, .data⟩, ⟨22, .guard⟩], some (22, false)⟩) (v := .pointer (some ⟨bc, 0, none⟩)) (fun W h => Op1.ld_ptr (.tmp 108) (by kernel_rfl) (by kernel_rfl) W h.p1) hsd ?_
        try simp only [Act.put, z1, z2, z3]
        refine tkP (i := 28) (oi := ⟨some 111, .move (.tmp 8), 44, "law05.go:67", #[⟨22, .guard⟩], some (22, false)⟩) (v := .pointer (some ⟨gb, 0, none⟩)) hsd ?_
        try simp only [Act.put, z1, z2, z3]
        refine tkP (i := 29) (oi := ⟨some 112, .nilCheck (.tmp 111), 0, "law05.go:67", #[⟨28, .data⟩, ⟨22, .guard⟩], some (22, false)⟩) (v := .pointer (some ⟨gb, 0, none⟩)) hsd ?_
        try simp only [Act.put, z1, z2, z3]
        refine tkP (i := 30) (oi := ⟨some 113, .fieldAddr 48 (.tmp 112) 1, 0, "law05.go:67", #[⟨29, .data⟩, ⟨22, .guard⟩], some (22, false)⟩) (v := .pointer (some ⟨gb, 94, none⟩)) hsd ?_
        try simp only [Act.put, z1, z2, z3]
        refine tkH (i := 31) (oi := ⟨some 114, .load 34 (.tmp 113), 34, "law05.go:67", #[⟨30, .data⟩, ⟨22, .guard⟩], some (22, false)⟩) (v := .agg ys) (fun W h => ld_img2 (off := 94) (.tmp 113) (by kernel_rfl) (by kernel_rfl) W h.bed (by rw [Array.size_append, Array.size_append, zx, zy]; omega) (app3_snd zx zy)) hsd ?_
        try simp only [Act.put, z1, z2, z3]
        refine wpAnyH_ready (rs := [27]) (by kernel_rfl) (by simp) ?_
        refine AllReadyH.cons (o := ⟨some 110, .call { callee := .value (.func 18), args := #[.tmp 109], argTypes := #[53] }, 34, "law05.go:67", #[⟨26, .data⟩, ⟨22, .chain⟩, ⟨22, .guard⟩], some (22, false)⟩) rfl (fun K hK => ?_) AllReadyH.nil
        rw [if_pos (by kernel_rfl)]
        go_simp
        refine (disk_any bc cs1 ds1 _ _ hi hk1 _ hsd.row).mono ?_
        rintro e W7 ⟨rfl, b7⟩
        have Z7 := hide ((unhide Z6).call b7)
        have G7 := hide (show W7.heap[w.heap.size + 1]? = some (.cells #[.int .i64 kind, .int .i64 dir, .int .i64 toDir, .int .i64 p, .string name, .string tu, .string text] 37) by rw [b7.block _ (Array.getElem?_eq_some_iff.1 (unhide G6)).1]; exact unhide G6)
        have hs7 := hsd.below b7
        clear b7
        go_wp2_with fail
        refine hK.out _ _ (hs7) (fun hS7 => ?_)
        clear hK K
        try simp only [Act.put, z1, z2, z3]
        refine tkH (i := 32) (oi := ⟨some 115, .binOp .neq 34 (.tmp 110) (.tmp 114) 34, 4, "law05.go:67", #[⟨27, .data⟩, ⟨31, .data⟩, ⟨22, .guard⟩], some (22, false)⟩) (v := .bool false) (fun W h => run_exec_nev2 34 34 (.tmp 110) (.tmp 114) (by kernel_rfl) _ _ (by kernel_rfl) (by kernel_rfl) false (by kernel_rfl) QD W) hS7 ?_
        try simp only [Act.put, z1, z2, z3]
        refine tkP (i := 33) (oi := ⟨some 116, .pick (.tmp 105) (.const (.bool true)) (.tmp 115), 4, "law05.go:67", #[⟨22, .data⟩, ⟨32, .data⟩], none⟩) (v := .bool false) hS7 ?_
        try simp only [Act.put, z1, z2, z3]
        refine wpAnyH_done (by kernel_rfl) ?_ _
        clear hS7 hs7 hsd QN QD Z6 G6
        go_wp2_with fail
        go_roundw
        case rel => exact ⟨j + 1, _, _, _, by omega, by go_num, Z7, SD1, G7⟩
        case measure => simp [intOf]; omega
      clear HST HOk
      have MOK := hide (unhide SD).good.ex.ok
      clear SD
      go_wp2_with fail
      go_loopw [12] (fun i wr => ∃ q : Nat, q ≤ 5 ∧ i = .int .i64 ((q : Int) - 1) ∧ Hid (Fz w bf bc gb m k la m k la wr) ∧ Hid (wr.heap[w.heap.size + 1]? = some (.cells #[.int .i64 kind, .int .i64 dir, .int .i64 toDir, .int .i64 p, .string name, .string tu, .string text] 37))) (fun i _ => 5 - (intOf i + 1).toNat)
      case atStart => exact ⟨0, Nat.zero_le _, rfl, ZF, g2⟩
      case round =>
        clear ZF g2
        obtain ⟨q, hq, rfl, ZF, g2⟩ := hrel
        by_cases hq5 : q < 5
        case pos =>
          obtain ⟨dq, hdq⟩ : ∃ i : Int, i = (q : Int) - 1 := ⟨_, rfl⟩
          have HDQ := hide hdq
          rw [← hdq]
          have t3 : decide (dq ≤ 3) = true := by simp; omega
          have rng : -9223372036854775808 ≤ dq + 1 ∧ dq + 1 ≤ 9223372036854775807 := by omega
          have LF := hide ((unhide ZF).fo.list (unhide MOK) dq)
          clear hdq
          go_wp2_with fail
          refine (unhide LF).mono ?_
          rintro e W8 ⟨v8, rfl, ho8, _, b8⟩
          have Z8 := hide ((unhide ZF).call b8)
          have g8 := hide (show W8.heap[w.heap.size + 1]? = some (.cells #[.int .i64 kind, .int .i64 dir, .int .i64 toDir, .int .i64 p, .string name, .string tu, .string text] 37) by rw [b8.block _ (Array.getElem?_eq_some_iff.1 (unhide g2)).1]; exact unhide g2)
          have HO8 := hide ho8
          have LB := hide (Idl.bList_any W8 (unhide Z8).bed.has.1 (unhide MOK) dq)
          have S8 := W8.heap.size
          clear b8 ho8 LF ZF g2
          go_wp2_with fail
          refine (unhide LB).mono ?_
          rintro e W9 ⟨v9, rfl, ho9, b9⟩
          have Z9 := hide ((unhide Z8).call b9)
          have g9 := hide (show W9.heap[w.heap.size + 1]? = some (.cells #[.int .i64 kind, .int .i64 dir, .int .i64 toDir, .int .i64 p, .string name, .string tu, .string text] 37) by rw [b9.block _ (Array.getElem?_eq_some_iff.1 (unhide g8)).1]; exact unhide g8)
          have ST := hide (SameTexts_any (Idl.ownsRow_of_block (unhide HO8) (fun g hg => b9.block g ((unhide HO8).lt g hg).2)) ho9 (snames_short m (unhide MOK) dq))
          clear b9 ho9 LB Z8 g8 HO8
          go_wp2_with fail
          refine (unhide ST).mono ?_
          rintro e WA ⟨rfl, bA⟩
          have ZA := hide ((unhide Z9).call bA)
          have gA := hide (show WA.heap[w.heap.size + 1]? = some (.cells #[.int .i64 kind, .int .i64 dir, .int .i64 toDir, .int .i64 p, .string name, .string tu, .string text] 37) by rw [bA.block _ (Array.getElem?_eq_some_iff.1 (unhide g9)).1]; exact unhide g9)
          clear bA ST Z9 g9
          go_wp2_with fail
          go_roundw
          case rel => exact ⟨q + 1, by omega, by have := unhide HDQ; rw [this]; go_num, ZA, gA⟩
          case measure => have := unhide HDQ; simp [intOf]; omega
        have e5 : q = 5 := by omega
        subst e5
        have QQ := fun i => cell_of_row wr (w.heap.size + 1) i _ _ _ (unhide g2)
        have q1 := QQ 1
        have q2 := QQ 2
        have q3 := QQ 3
        have q4 := QQ 4
        have q5 := QQ 5
        clear QQ
        simp only [List.getElem?_toArray, List.getElem?_cons_zero, List.getElem?_cons_succ] at q1 q2 q3 q4 q5
        have RD := hide ((unhide ZF).fo.read (unhide MOK) dir name (unhide HYB).1 p)
        have hy1 := (unhide HYB).1
        generalize hrt : Img.sreadT m dir name p = rt at RD
        generalize hrb : Img.sreadB m dir name p = rb at RD
        generalize hrc : Img.sreadC m dir name p = rc at RD
        go_wp2_with fail
        refine (unhide RD).mono ?_
        rintro e WB ⟨rfl, _, bB⟩
        have ZB := hide ((unhide ZF).call bB)
        have gB := hide (show WB.heap[w.heap.size + 1]? = some (.cells #[.int .i64 kind, .int .i64 dir, .int .i64 toDir, .int .i64 p, .string name, .string tu, .string text] 37) by rw [bB.block _ (Array.getElem?_eq_some_iff.1 (unhide g2)).1]; exact unhide g2)
        clear bB RD ZF g2 q1 q2 q3 q4 q5
        have QQ := fun i => cell_of_row WB (w.heap.size + 1) i _ _ _ (unhide gB)
        have q1 := QQ 1
        have q2 := QQ 2
        have q3 := QQ 3
        have q4 := QQ 4
        have q5 := QQ 5
        clear QQ
        simp only [List.getElem?_toArray, List.getElem?_cons_zero, List.getElem?_cons_succ] at q1 q2 q3 q4 q5
        have RB := hide (bRead_any WB (unhide ZB).bed.has.1 (unhide MOK) dir name hy1 p)
        rw [hrt, hrb, hrc] at RB
        go_wp2_with fail
        refine (unhide RB).mono ?_
        rintro e WC ⟨rfl, bC⟩
        have ZC := hide ((unhide ZB).call bC)
        have gC := hide (show WC.heap[w.heap.size + 1]? = some (.cells #[.int .i64 kind, .int .i64 dir, .int .i64 toDir, .int .i64 p, .string name, .string tu, .string text] 37) by rw [bC.block _ (Array.getElem?_eq_some_iff.1 (unhide gB)).1]; exact unhide gB)
        clear bC RB ZB gB q1 q2 q3 q4 q5 hrt hrb hrc
        have QQ := fun i => cell_of_row WC (w.heap.size + 1) i _ _ _ (unhide gC)
        have q1 := QQ 1
        have q2 := QQ 2
        have q3 := QQ 3
        have q4 := QQ 4
        have q5 := QQ 5
        clear QQ
        simp only [List.getElem?_toArray, List.getElem?_cons_zero, List.getElem?_cons_succ] at q1 q2 q3 q4 q5
        have ZCd := hide ((unhide ZC).call (Below.refl _ WC).drew)
        have gCd : WC.drew.heap[w.heap.size + 1]? = some (.cells #[.int .i64 kind, .int .i64 dir, .int .i64 toDir, .int .i64 p, .string name, .string tu, .string text] 37) := unhide gC
        clear ZC gC q1 q2 q3 q4 q5
        go_upto_region 34 with fail
        refine wp_region_held_drew (S := fun V => V.heap[w.heap.size + 1]? = some (.cells #[.int .i64 kind, .int .i64 dir, .int .i64 toDir, .int .i64 p, .string name, .string tu, .string text] 37)) (by kernel_rfl) (gCd) (fun hS => ?_)
        refine tkP (i := 0) (oi := ⟨some 153, .move (.tmp 13), 9, "law05.go:78", #[], none⟩) (v := .string rt) gCd ?_
        try simp only [Act.put, z1, z2, z3]
        refine tkP (i := 1) (oi := ⟨some 154, .move (.tmp 16), 9, "law05.go:78", #[], none⟩) (v := .string rt) gCd ?_
        try simp only [Act.put, z1, z2, z3]
        refine tkH (i := 2) (oi := ⟨some 155, .binOp .eql 9 (.tmp 153) (.tmp 154) 9, 4, "law05.go:78", #[⟨0, .data⟩, ⟨1, .data⟩], none⟩) (v := .bool true) (fun W h => eq_str (s := rt) (.tmp 153) (.tmp 154) (by kernel_rfl) (by kernel_rfl) (by kernel_rfl) W) gCd ?_
        try simp only [Act.put, z1, z2, z3]
        refine tkP (i := 3) (oi := ⟨some 156, .move (.tmp 155), 4, "law05.go:78", #[⟨2, .data⟩], none⟩) (v := .bool true) gCd ?_
        try simp only [Act.put, z1, z2, z3]
        refine tkP (i := 4) (oi := ⟨some 157, .move (.tmp 14), 4, "law05.go:78", #[⟨3, .guard⟩], some (3, true)⟩) (v := .bool rb) gCd ?_
        try simp only [Act.put, z1, z2, z3]
        refine tkP (i := 5) (oi := ⟨some 158, .move (.tmp 17), 4, "law05.go:78", #[⟨3, .guard⟩], some (3, true)⟩) (v := .bool rb) gCd ?_
        try simp only [Act.put, z1, z2, z3]
        refine tkH (i := 6) (oi := ⟨some 159, .binOp .eql 4 (.tmp 157) (.tmp 158) 4, 4, "law05.go:78", #[⟨4, .data⟩, ⟨5, .data⟩, ⟨3, .guard⟩], some (3, true)⟩) (v := .bool true) (fun W h => eq_bool (s := rb) (.tmp 157) (.tmp 158) (by kernel_rfl) (by kernel_rfl) (by kernel_rfl) W) gCd ?_
        try simp only [Act.put, z1, z2, z3]
        refine tkP (i := 7) (oi := ⟨some 160, .pick (.tmp 156) (.tmp 159) (.const (.bool false)), 4, "law05.go:78", #[⟨3, .data⟩, ⟨6, .data⟩], none⟩) (v := .bool true) gCd ?_
        try simp only [Act.put, z1, z2, z3]
        refine tkP (i := 8) (oi := ⟨some 161, .move (.tmp 160), 4, "law05.go:78", #[⟨7, .data⟩, ⟨3, .chain⟩], none⟩) (v := .bool true) gCd ?_
        try simp only [Act.put, z1, z2, z3]
        refine tkP (i := 9) (oi := ⟨some 162, .move (.tmp 15), 3, "law05.go:78", #[⟨8, .guard⟩], some (8, true)⟩) (v := .int .i64 rc) gCd ?_
        try simp only [Act.put, z1, z2, z3]
        refine tkP (i := 10) (oi := ⟨some 163, .move (.tmp 18), 3, "law05.go:78", #[⟨8, .guard⟩], some (8, true)⟩) (v := .int .i64 rc) gCd ?_
        try simp only [Act.put, z1, z2, z3]
        refine tkH (i := 11) (oi := ⟨some 164, .binOp .eql 3 (.tmp 162) (.tmp 163) 3, 4, "law05.go:78", #[⟨9, .data⟩, ⟨10, .data⟩, ⟨8, .guard⟩], some (8, true)⟩) (v := .bool true) (fun W h => eq_int (s := rc) (.tmp 162) (.tmp 163) (by kernel_rfl) (by kernel_rfl) (by kernel_rfl) W) gCd ?_
        try simp only [Act.put, z1, z2, z3]
        refine tkP (i := 12) (oi := ⟨some 165, .pick (.tmp 161) (.tmp 164) (.const (.bool false)), 4, "law05.go:78", #[⟨8, .data⟩, ⟨11, .data⟩], none⟩) (v := .bool true) gCd ?_
        try simp only [Act.put, z1, z2, z3]
        refine tkP (i := 13) (oi := ⟨some 166, .move (.tmp 165), 4, "law05.go:78", #[⟨12, .data⟩, ⟨8, .chain⟩], none⟩) (v := .bool true) gCd ?_
        try simp only [Act.put, z1, z2, z3]
        refine tkP (i := 14) (oi := ⟨some 167, .move (.tmp 7), 42, "law05.go:78", #[⟨13, .guard⟩], some (13, true)⟩) (v := .pointer (some ⟨bf, 0, none⟩)) gCd ?_
        try simp only [Act.put, z1, z2, z3]
        refine tkP (i := 15) (oi := ⟨some 168, .fieldAddr 37 (.tmp 5) 1, 0, "law05.go:78", #[⟨13, .guard⟩], some (13, true)⟩) (v := .pointer (some ⟨w.heap.size + 1, 1, none⟩)) gCd ?_
        try simp only [Act.put, z1, z2, z3]
        refine tkH (i := 16) (oi := ⟨some 169, .load 3 (.tmp 168), 3, "law05.go:78", #[⟨15, .data⟩, ⟨13, .guard⟩], some (13, true)⟩) (v := .int .i64 dir) (fun W h => Op1.ld_int (g := w.heap.size + 1) (o0 := 1) (.tmp 168) (by kernel_rfl) (by kernel_rfl) W (by rw [cell_of_row _ _ _ _ _ _ h]; rfl)) gCd ?_
        try simp only [Act.put, z1, z2, z3]
        refine tkP (i := 17) (oi := ⟨some 170, .fieldAddr 37 (.tmp 5) 4, 0, "law05.go:78", #[⟨13, .guard⟩], some (13, true)⟩) (v := .pointer (some ⟨w.heap.size + 1, 4, none⟩)) gCd ?_
        try simp only [Act.put, z1, z2, z3]
        refine tkH (i := 18) (oi := ⟨some 171, .load 9 (.tmp 170), 9, "law05.go:78", #[⟨17, .data⟩, ⟨13, .guard⟩], some (13, true)⟩) (v := .string name) (fun W h => Op1.ld_str (g := w.heap.size + 1) (o0 := 4) (.tmp 170) (by kernel_rfl) (by kernel_rfl) W (by rw [cell_of_row _ _ _ _ _ _ h]; rfl)) gCd ?_
        try simp only [Act.put, z1, z2, z3]
        refine tkP (i := 19) (oi := ⟨some 172, .fieldAddr 37 (.tmp 5) 2, 0, "law05.go:78", #[⟨13, .guard⟩], some (13, true)⟩) (v := .pointer (some ⟨w.heap.size + 1, 2, none⟩)) gCd ?_
        try simp only [Act.put, z1, z2, z3]
        refine tkH (i := 20) (oi := ⟨some 173, .load 3 (.tmp 172), 3, "law05.go:78", #[⟨19, .data⟩, ⟨13, .guard⟩], some (13, true)⟩) (v := .int .i64 toDir) (fun W h => Op1.ld_int (g := w.heap.size + 1) (o0 := 2) (.tmp 172) (by kernel_rfl) (by kernel_rfl) W (by rw [cell_of_row _ _ _ _ _ _ h]; rfl)) gCd ?_
        try simp only [Act.put, z1, z2, z3]
        refine tkP (i := 21) (oi := ⟨some 174, .fieldAddr 37 (.tmp 5) 5, 0, "law05.go:78", #[⟨13, .guard⟩], some (13, true)⟩) (v := .pointer (some ⟨w.heap.size + 1, 5, none⟩)) gCd ?_
        try simp only [Act.put, z1, z2, z3]
        refine tkH (i := 22) (oi := ⟨some 175, .load 9 (.tmp 174), 9, "law05.go:78", #[⟨21, .data⟩, ⟨13, .guard⟩], some (13, true)⟩) (v := .string tu) (fun W h => Op1.ld_str (g := w.heap.size + 1) (o0 := 5) (.tmp 174) (by kernel_rfl) (by kernel_rfl) W (by rw [cell_of_row _ _ _ _ _ _ h]; rfl)) gCd ?_
        try simp only [Act.put, z1, z2, z3]
        refine tkP (i := 24) (oi := ⟨some 177, .move (.tmp 8), 44, "law05.go:78", #[⟨13, .guard⟩], some (13, true)⟩) (v := .pointer (some ⟨gb, 0, none⟩)) gCd ?_
        try simp only [Act.put, z1, z2, z3]
        refine tkP (i := 25) (oi := ⟨some 178, .fieldAddr 37 (.tmp 5) 1, 0, "law05.go:78", #[⟨13, .guard⟩], some (13, true)⟩) (v := .pointer (some ⟨w.heap.size + 1, 1, none⟩)) gCd ?_
        try simp only [Act.put, z1, z2, z3]
        refine tkH (i := 26) (oi := ⟨some 179, .load 3 (.tmp 178), 3, "law05.go:78", #[⟨25, .data⟩, ⟨13, .guard⟩], some (13, true)⟩) (v := .int .i64 dir) (fun W h => Op1.ld_int (g := w.heap.size + 1) (o0 := 1) (.tmp 178) (by kernel_rfl) (by kernel_rfl) W (by rw [cell_of_row _ _ _ _ _ _ h]; rfl)) gCd ?_
        try simp only [Act.put, z1, z2, z3]
        refine tkP (i := 27) (oi := ⟨some 180, .fieldAddr 37 (.tmp 5) 4, 0, "law05.go:78", #[⟨13, .guard⟩], some (13, true)⟩) (v := .pointer (some ⟨w.heap.size + 1, 4, none⟩)) gCd ?_
        try simp only [Act.put, z1, z2, z3]
        refine tkH (i := 28) (oi := ⟨some 181, .load 9 (.tmp 180), 9, "law05.go:78", #[⟨27, .data⟩, ⟨13, .guard⟩], some (13, true)⟩) (v := .string name) (fun W h => Op1.ld_str (g := w.heap.size + 1) (o0 := 4) (.tmp 180) (by kernel_rfl) (by kernel_rfl) W (by rw [cell_of_row _ _ _ _ _ _ h]; rfl)) gCd ?_
        try simp only [Act.put, z1, z2, z3]
        refine tkP (i := 29) (oi := ⟨some 182, .fieldAddr 37 (.tmp 5) 2, 0, "law05.go:78", #[⟨13, .guard⟩], some (13, true)⟩) (v := .pointer (some ⟨w.heap.size + 1, 2, none⟩)) gCd ?_
        try simp only [Act.put, z1, z2, z3]
        refine tkH (i := 30) (oi := ⟨some 183, .load 3 (.tmp 182), 3, "law05.go:78", #[⟨29, .data⟩, ⟨13, .guard⟩], some (13, true)⟩) (v := .int .i64 toDir) (fun W h => Op1.ld_int (g := w.heap.size + 1) (o0 := 2) (.tmp 182) (by kernel_rfl) (by kernel_rfl) W (by rw [cell_of_row _ _ _ _ _ _ h]; rfl)) gCd ?_
        try simp only [Act.put, z1, z2, z3]
        refine tkP (i := 31) (oi := ⟨some 184, .fieldAddr 37 (.tmp 5) 5, 0, "law05.go:78", #[⟨13, .guard⟩], some (13, true)⟩) (v := .pointer (some ⟨w.heap.size + 1, 5, none⟩)) gCd ?_
        try simp only [Act.put, z1, z2, z3]
        refine tkH (i := 32) (oi := ⟨some 185, .load 9 (.tmp 184), 9, "law05.go:78", #[⟨31, .data⟩, ⟨13, .guard⟩], some (13, true)⟩) (v := .string tu) (fun W h => Op1.ld_str (g := w.heap.size + 1) (o0 := 5) (.tmp 184) (by kernel_rfl) (by kernel_rfl) W (by rw [cell_of_row _ _ _ _ _ _ h]; rfl)) gCd ?_
        try simp only [Act.put, z1, z2, z3]
        have SA := hide ((unhide ZCd).fo.same dir name toDir tu)
        have SB := hide (bSame_any WC.drew (unhide ZCd).bed.has.1 (unhide MOK) dir name toDir tu)
        generalize Img.ssame m dir name toDir tu = sm at SA SB
        refine wpAnyH_ready (rs := [23]) (by kernel_rfl) (by simp) ?_
        refine AllReadyH.cons (o := ⟨some 176, .call { callee := .value (.func 24), args := #[.tmp 167, .tmp 169, .tmp 171, .tmp 173, .tmp 175], argTypes := #[42, 3, 9, 3, 9] }, 4, "law05.go:78", #[⟨14, .data⟩, ⟨16, .data⟩, ⟨18, .data⟩, ⟨20, .data⟩, ⟨22, .data⟩, ⟨13, .chain⟩, ⟨13, .guard⟩], some (13, true)⟩) rfl (fun K hK => ?_) AllReadyH.nil
        rw [if_pos (by kernel_rfl)]
        go_simp
        refine (unhide SA).mono ?_
        rintro e wq ⟨rfl, e9⟩
        rw [e9]
        clear e9 wq SA
        go_wp2_with fail
        refine hK.out _ _ (gCd) (fun hS1 => ?_)
        clear hK K
        try simp only [Act.put, z1, z2, z3]
        refine wpAnyH_ready (rs := [33]) (by kernel_rfl) (by simp) ?_
        refine AllReadyH.cons (o := ⟨some 186, .call { callee := .value (.func 25), args := #[.tmp 177, .tmp 179, .tmp 181, .tmp 183, .tmp 185], argTypes := #[44, 3, 9, 3, 9] }, 4, "law05.go:78", #[⟨24, .data⟩, ⟨26, .data⟩, ⟨28, .data⟩, ⟨30, .data⟩, ⟨32, .data⟩, ⟨23, .chain⟩, ⟨13, .guard⟩], some (13, true)⟩) rfl (fun K hK => ?_) AllReadyH.nil
        rw [if_pos (by kernel_rfl)]
        go_simp
        refine (unhide SB).mono ?_
        rintro e WD ⟨rfl, bD⟩
        have ZD := hide ((unhide ZCd).call bD)
        have gD : WD.heap[w.heap.size + 1]? = some (.cells #[.int .i64 kind, .int .i64 dir, .int .i64 toDir, .int .i64 p, .string name, .string tu, .string text] 37) := by rw [bD.block _ (Array.getElem?_eq_some_iff.1 gCd).1]; exact gCd
        clear bD SB ZCd gCd
        go_wp2_with fail
        refine hK.out _ _ (gD) (fun hS2 => ?_)
        clear hK K
        try simp only [Act.put, z1, z2, z3]
        refine tkH (i := 34) (oi := ⟨some 187, .binOp .eql 4 (.tmp 176) (.tmp 186) 4, 4, "law05.go:78", #[⟨23, .data⟩, ⟨33, .data⟩, ⟨13, .guard⟩], some (13, true)⟩) (v := .bool true) (fun W h => eq_bool (s := sm) (.tmp 176) (.tmp 186) (by kernel_rfl) (by kernel_rfl) (by kernel_rfl) W) hS2 ?_
        try simp only [Act.put, z1, z2, z3]
        refine tkP (i := 35) (oi := ⟨some 188, .pick (.tmp 166) (.tmp 187) (.const (.bool false)), 4, "law05.go:78", #[⟨13, .data⟩, ⟨34, .data⟩], none⟩) (v := .bool true) hS2 ?_
        try simp only [Act.put, z1, z2, z3]
        refine tkP (i := 36) (oi := ⟨some 189, .move (.tmp 188), 4, "law05.go:78", #[⟨35, .data⟩, ⟨33, .chain⟩], none⟩) (v := .bool true) hS2 ?_
        try simp only [Act.put, z1, z2, z3]
        refine tkP (i := 37) (oi := ⟨some 190, .move (.tmp 7), 42, "law05.go:78", #[⟨36, .guard⟩], some (36, true)⟩) (v := .pointer (some ⟨bf, 0, none⟩)) hS2 ?_
        try simp only [Act.put, z1, z2, z3]
        refine tkP (i := 38) (oi := ⟨some 191, .fieldAddr 37 (.tmp 5) 1, 0, "law05.go:78", #[⟨36, .guard⟩], some (36, true)⟩) (v := .pointer (some ⟨w.heap.size + 1, 1, none⟩)) hS2 ?_
        try simp only [Act.put, z1, z2, z3]
        refine tkH (i := 39) (oi := ⟨some 192, .load 3 (.tmp 191), 3, "law05.go:78", #[⟨38, .data⟩, ⟨36, .guard⟩], some (36, true)⟩) (v := .int .i64 dir) (fun W h => Op1.ld_int (g := w.heap.size + 1) (o0 := 1) (.tmp 191) (by kernel_rfl) (by kernel_rfl) W (by rw [cell_of_row _ _ _ _ _ _ h]; rfl)) hS2 ?_
        try simp only [Act.put, z1, z2, z3]
        refine tkP (i := 40) (oi := ⟨some 193, .fieldAddr 37 (.tmp 5) 4, 0, "law05.go:78", #[⟨36, .guard⟩], some (36, true)⟩) (v := .pointer (some ⟨w.heap.size + 1, 4, none⟩)) hS2 ?_
        try simp only [Act.put, z1, z2, z3]
        refine tkH (i := 41) (oi := ⟨some 194, .load 9 (.tmp 193), 9, "law05.go:78", #[⟨40, .data⟩, ⟨36, .guard⟩], some (36, true)⟩) (v := .string name) (fun W h => Op1.ld_str (g := w.heap.size + 1) (o0 := 4) (.tmp 193) (by kernel_rfl) (by kernel_rfl) W (by rw [cell_of_row _ _ _ _ _ _ h]; rfl)) hS2 ?_
        try simp only [Act.put, z1, z2, z3]
        refine tkP (i := 43) (oi := ⟨some 196, .move (.tmp 8), 44, "law05.go:78", #[⟨36, .guard⟩], some (36, true)⟩) (v := .pointer (some ⟨gb, 0, none⟩)) hS2 ?_
        try simp only [Act.put, z1, z2, z3]
        refine tkP (i := 44) (oi := ⟨some 197, .fieldAddr 37 (.tmp 5) 1, 0, "law05.go:78", #[⟨36, .guard⟩], some (36, true)⟩) (v := .pointer (some ⟨w.heap.size + 1, 1, none⟩)) hS2 ?_
        try simp only [Act.put, z1, z2, z3]
        refine tkH (i := 45) (oi := ⟨some 198, .load 3 (.tmp 197), 3, "law05.go:78", #[⟨44, .data⟩, ⟨36, .guard⟩], some (36, true)⟩) (v := .int .i64 dir) (fun W h => Op1.ld_int (g := w.heap.size + 1) (o0 := 1) (.tmp 197) (by kernel_rfl) (by kernel_rfl) W (by rw [cell_of_row _ _ _ _ _ _ h]; rfl)) hS2 ?_
        try simp only [Act.put, z1, z2, z3]
        refine tkP (i := 46) (oi := ⟨some 199, .fieldAddr 37 (.tmp 5) 4, 0, "law05.go:78", #[⟨36, .guard⟩], some (36, true)⟩) (v := .pointer (some ⟨w.heap.size + 1, 4, none⟩)) hS2 ?_
        try simp only [Act.put, z1, z2, z3]
        refine tkH (i := 47) (oi := ⟨some 200, .load 9 (.tmp 199), 9, "law05.go:78", #[⟨46, .data⟩, ⟨36, .guard⟩], some (36, true)⟩) (v := .string name) (fun W h => Op1.ld_str (g := w.heap.size + 1) (o0 := 4) (.tmp 199) (by kernel_rfl) (by kernel_rfl) W (by rw [cell_of_row _ _ _ _ _ _ h]; rfl)) hS2 ?_
        try simp only [Act.put, z1, z2, z3]
        have SC := hide ((unhide ZD).fo.sure dir name)
        have SE := hide fun WE (z : Fz w bf bc gb m k la m k la WE) => bSure_any WE z.bed.has.1 z.bed.has.2 dir name
        generalize Img.ssure m k dir name = su at SC SE
        refine wpAnyH_ready (rs := [42]) (by kernel_rfl) (by simp) ?_
        refine AllReadyH.cons (o := ⟨some 195, .call { callee := .value (.func 26), args := #[.tmp 190, .tmp 192, .tmp 194], argTypes := #[42, 3, 9] }, 4, "law05.go:78", #[⟨37, .data⟩, ⟨39, .data⟩, ⟨41, .data⟩, ⟨36, .chain⟩, ⟨36, .guard⟩], some (36, true)⟩) rfl (fun K hK => ?_) AllReadyH.nil
        rw [if_pos (by kernel_rfl)]
        go_simp
        refine (unhide SC).mono ?_
        rintro e WE ⟨rfl, _, bE⟩
        have ZE := hide ((unhide ZD).call bE)
        have gE : WE.heap[w.heap.size + 1]? = some (.cells #[.int .i64 kind, .int .i64 dir, .int .i64 toDir, .int .i64 p, .string name, .string tu, .string text] 37) := by rw [bE.block _ (Array.getElem?_eq_some_iff.1 gD).1]; exact gD
        clear bE SC ZD gD
        go_wp2_with fail
        refine hK.out _ _ (gE) (fun hS3 => ?_)
        clear hK K
        try simp only [Act.put, z1, z2, z3]
        refine wpAnyH_ready (rs := [48]) (by kernel_rfl) (by simp) ?_
        refine AllReadyH.cons (o := ⟨some 201, .call { callee := .value (.func 27), args := #[.tmp 196, .tmp 198, .tmp 200], argTypes := #[44, 3, 9] }, 4, "law05.go:78", #[⟨43, .data⟩, ⟨45, .data⟩, ⟨47, .data⟩, ⟨42, .chain⟩, ⟨36, .guard⟩], some (36, true)⟩) rfl (fun K hK => ?_) AllReadyH.nil
        rw [if_pos (by kernel_rfl)]
        go_simp
        refine (unhide SE _ (unhide ZE)).mono ?_
        rintro e WF ⟨rfl, bF⟩
        have gF : WF.heap[w.heap.size + 1]? = some (.cells #[.int .i64 kind, .int .i64 dir, .int .i64 toDir, .int .i64 p, .string name, .string tu, .string text] 37) := by rw [bF.block _ (Array.getElem?_eq_some_iff.1 gE).1]; exact gE
        have BF := hide ((unhide ZE).fo.bel.trans (bF.mono (unhide ZE).fo.bel.size))
        clear bF SE ZE gE
        go_wp2_with fail
        refine hK.out _ _ (gF) (fun hS4 => ?_)
        clear hK K
        try simp only [Act.put, z1, z2, z3]
        refine tkH (i := 49) (oi := ⟨some 202, .binOp .eql 4 (.tmp 195) (.tmp 201) 4, 4, "law05.go:78", #[⟨42, .data⟩, ⟨48, .data⟩, ⟨36, .guard⟩], some (36, true)⟩) (v := .bool true) (fun W h => eq_bool (s := su) (.tmp 195) (.tmp 201) (by kernel_rfl) (by kernel_rfl) (by kernel_rfl) W) hS4 ?_
        try simp only [Act.put, z1, z2, z3]
        refine tkP (i := 50) (oi := ⟨some 203, .pick (.tmp 189) (.tmp 202) (.const (.bool false)), 4, "law05.go:78", #[⟨36, .data⟩, ⟨49, .data⟩], none⟩) (v := .bool true) hS4 ?_
        try simp only [Act.put, z1, z2, z3]
        refine tkP (i := 51) (oi := ⟨some 6, .assign (.tmp 203), 4, "law05.go:78", #[⟨50, .data⟩, ⟨48, .chain⟩, ⟨0, .phase⟩, ⟨1, .phase⟩, ⟨2, .phase⟩, ⟨3, .phase⟩, ⟨4, .phase⟩, ⟨5, .phase⟩, ⟨6, .phase⟩, ⟨7, .phase⟩, ⟨8, .phase⟩, ⟨9, .phase⟩, ⟨10, .phase⟩, ⟨11, .phase⟩, ⟨12, .phase⟩, ⟨13, .phase⟩, ⟨14, .phase⟩, ⟨15, .phase⟩, ⟨16, .phase⟩, ⟨17, .phase⟩, ⟨18, .phase⟩, ⟨19, .phase⟩, ⟨20, .phase⟩, ⟨21, .phase⟩, ⟨22, .phase⟩, ⟨23, .phase⟩, ⟨24, .phase⟩, ⟨25, .phase⟩, ⟨26, .phase⟩, ⟨27, .phase⟩, ⟨28, .phase⟩, ⟨29, .phase⟩, ⟨30, .phase⟩, ⟨31, .phase⟩, ⟨32, .phase⟩, ⟨33, .phase⟩, ⟨34, .phase⟩, ⟨35, .phase⟩, ⟨36, .phase⟩, ⟨37, .phase⟩, ⟨38, .phase⟩, ⟨39, .phase⟩, ⟨40, .phase⟩, ⟨41, .phase⟩, ⟨42, .phase⟩, ⟨43, .phase⟩, ⟨44, .phase⟩, ⟨45, .phase⟩, ⟨46, .phase⟩, ⟨47, .phase⟩, ⟨48, .phase⟩, ⟨49, .phase⟩, ⟨50, .phase⟩], none⟩) (v := .bool true) hS4 ?_
        try simp only [Act.put, z1, z2, z3]
        refine wpAnyH_done (by kernel_rfl) ?_ _
        clear hS hS1 hS2 hS3 hS4 gF
        go_wp2_with fail
        go_ret
        exact ⟨rfl, unhide BF⟩
end Sft
end Go.Proofs.YtmbpckmpnnmnmabGreat
namespace Go.Proofs.YtmbpckmpnnmnmabGreat
open Go.ChangeShapes Go.WideShapes Go.ChangeAt Go.RowKit
namespace Idl
set_option maxRecDepth 100000 in
theorem softDoes_lifted (os : Os) (started : os.Started) (H : Type) (enc : TypeId × Value → H) :
    ReturnsInHanded {} Tryz.checked os 3 .any (Rows.softDoesSpec.pre6 enc Tryz.prog Tryz.f3 Rows.softDoesRow.domain false) (Rows.softDoesSpec.post enc Tryz.prog Tryz.f3 false true false false) := by
  refine returnsInHanded_of_change_sized (C := Tryz.checked) TryI.own started (by kernel_rfl) Tryz.func3
    (ChangeSpec.witness6 (enc := enc) (C := Tryz.checked) false ⟨#[], #[.agg zeroCells, .slice none 0 0, .agg #[.int .i64 0, .int .i64 0, .int .i64 0, .int .i64 0, .string ⟨#[]⟩, .string ⟨#[]⟩, .string ⟨#[]⟩]], []⟩ 8 (by kernel_rfl) (by kernel_rfl) (by kernel_rfl) (by kernel_rfl)) ?_
  intro W base args ds gs before hval0 hW _ hsz0 _
  have hsz : (DataW.weightsEach Tryz.prog (Tryz.f3.params.toList ++ Rows.softDoesSpec.plain.varTypes Tryz.prog) (ds ++ gs)).all (· ≤ reachBytes) = true := hsz0
  clear hsz0
  have hval : ∀ (j : Nat) t v, Tryz.f3.params[j]? = some t → args[j]? = some v → Value.okWide Tryz.prog W .any base t v := hval0
  have hW' := hW
  obtain ⟨p, q, hA0, hV, rfl, _, _⟩ := hW
  have hA : DataW.TrodAll enc Tryz.prog W 0 (fun _ => true) true Tryz.f3.params.toList args.toList ds p := hA0
  rw [Tryz.params3] at hA hval hsz
  obtain ⟨vm, v0, v1, dm, d0, d1, pm, p0, p1, rfl, rfl, rfl, hm, h0, h1⟩ := trodAll_three hA
  obtain ⟨rfl, rfl⟩ := trodVars_none hV
  obtain ⟨a0, len, cap, rfl⟩ := okWide_slice Tryz.underlying35 (hval 1 35 v0 rfl rfl)
  obtain ⟨cs, rfl, hk⟩ := kinds_of_ok (hval 0 34 vm rfl rfl)
  have ltm : ∀ y ∈ pm, y.block < W.heap.size := by obtain ⟨n, hn⟩ := hm; exact DataW.trod_lt n _ _ _ hn
  have lt0 : ∀ y ∈ p0, y.block < W.heap.size := by obtain ⟨n, hn⟩ := h0; exact DataW.trod_lt n _ _ _ hn
  have lt1 : ∀ y ∈ p1, y.block < W.heap.size := by obtain ⟨n, hn⟩ := h1; exact DataW.trod_lt n _ _ _ hn
  clear hA0 hval0
  have w0 : ∀ n ∈ d0.weights Tryz.prog 35, n ≤ reachBytes := fun n hn => by
    simpa using List.all_eq_true.1 hsz _ (DataW.weights_mem_each (j := 1) (t := 35) (d := d0) rfl rfl n hn)
  have w1 : ∀ n ∈ d1.weights Tryz.prog 37, n ≤ reachBytes := fun n hn => by
    simpa using List.all_eq_true.1 hsz _ (DataW.weights_mem_each (j := 2) (t := 37) (d := d1) rfl rfl n hn)
  obtain ⟨L, hL⟩ := open_steps h0 w0
  obtain ⟨x, ex, hx⟩ : ∃ x : Stp, v1 = .agg (stpA x) ∧ x.ok := by
    obtain ⟨n, hn⟩ := h1
    obtain ⟨x, e1, e2⟩ := open_step hn
    have e2' : d1 = stepD x := e2
    rw [e2'] at w1
    refine ⟨x, ?_, step_sized w1⟩
    cases v1 with
    | agg cs =>
      have : cs.toList = (stpA x).toList := e1
      rw [Array.toList_inj.1 this]
    | _ =>
      have := congrArg List.length e1
      simp [Value.cells] at this
  subst ex
  refine (Sft.softDoes_any hk.isImg hL x hx).mono fun e W' ⟨he, bel⟩ => ?_
  subst he
  exact ⟨_, rfl, _, _, _, [], _, [], hW', trodAll_mk1 (shut_bool Tryz.underlying4 _), (trodAll_cons_mk (Below.trod TryI.laidOut (by kernel_rfl) (of_decide_eq_true (by kernel_rfl)) hm bel ltm) (trodAll_cons_mk (Below.trod TryI.laidOut (by kernel_rfl) (of_decide_eq_true (by kernel_rfl)) h0 bel lt0) (trodAll_cons_mk (Below.trod TryI.laidOut (by kernel_rfl) (of_decide_eq_true (by kernel_rfl)) h1 bel lt1) trodAll_mk0))), rfl, bel.frame _, fun h => by cases h⟩
end Idl
theorem softDoes_holds : Rows.SoftDoesSaid :=
  OpenClaim.holds_of_wide 3 Tryz.f3 rfl rfl rfl rfl rfl rfl rfl ⟨rfl, rfl, rfl, rfl, rfl⟩ rfl rfl rfl rfl rfl (by kernel_rfl) Tryz.func3 (by kernel_rfl)
    (of_decide_eq_true (by kernel_rfl)) (by unfold Func.isWrapper; first | (rw [if_pos (by decide +kernel)]; kernel_rfl) | (rw [if_neg (by decide +kernel)]; exact ⟨rfl, rfl⟩))
    (fun os started H enc _ => Idl.softDoes_lifted os started H enc)
#print axioms softDoes_holds
end Go.Proofs.YtmbpckmpnnmnmabGreat
