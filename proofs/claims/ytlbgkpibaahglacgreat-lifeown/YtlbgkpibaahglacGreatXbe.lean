/-
  A life in memory; the walks of package life. (Written by genhc.py.)
-/
import Derived.Test.YtlbgkpibaahglacGreatXaz
import Derived.Test.YtlbgkpibaahglacGreatXca
import Derived.Test.YtlbgkpibaahglacGreatXbc
import Derived.Test.YtlbgkpibaahglacGreatXbd
namespace Go.Proofs.YtlbgkpibaahglacGreat
open Go.RowKit
open Idl (Stp chk stpA)
/-- a life: what is to be, the disk, the last Stamp, how many crashes, what the last one cost -/
structure Lv where
  now : Img
  disk : Img
  last : Int
  cr : Int
  lf : Int
  lc : Int
  ld : Int
def Lv.new : Lv := ⟨blankI, blankI, 0, 0, 0, 0, 0⟩
def Lv.crash (S : Lv) : Lv := ⟨Img.mend S.disk, Img.mend S.disk, Img.top (Img.mend S.disk), S.cr + 1, (Img.lostF S.disk : Nat), (Img.lostC S.disk : Nat), (Img.lostD S.disk : Nat)⟩
def Lv.step (S : Lv) (x : Stp) : Lv :=
  if x.kind = 9 then S.crash else ⟨Img.lnow S.now S.disk S.last x, Img.ldisk S.now S.disk x, Img.llast S.now S.disk S.last x, S.cr, S.lf, S.lc, S.ld⟩
def Lv.code (S : Lv) (x : Stp) : Int := Img.lcode S.now S.disk x
/-- what holds of it behind n steps -/
structure Lv.Ok (S : Lv) (n : Nat) : Prop where
  hold : Img.Hold S.now S.disk S.last
  few : S.last ≤ n
  cr0 : 0 ≤ S.cr
  crn : S.cr ≤ n
theorem Lv.step_now (S : Lv) (x : Stp) : (S.step x).now = Img.lnow S.now S.disk S.last x := by
  unfold Lv.step
  by_cases h : x.kind = 9
  · rw [if_pos h]; exact (if_pos h).symm
  · rw [if_neg h]
theorem Lv.step_disk (S : Lv) (x : Stp) : (S.step x).disk = Img.ldisk S.now S.disk x := by
  unfold Lv.step
  by_cases h : x.kind = 9
  · rw [if_pos h]; exact (if_pos h).symm
  · rw [if_neg h]
theorem Lv.step_last (S : Lv) (x : Stp) : (S.step x).last = Img.llast S.now S.disk S.last x := by
  unfold Lv.step
  by_cases h : x.kind = 9
  · rw [if_pos h]; exact (if_pos h).symm
  · rw [if_neg h]
theorem Lv.Ok.start : Lv.new.Ok 0 := ⟨by
  have h : Img.top blankI = 0 := by kernel_rfl
  have := Img.hold_self (m := blankI) Sft.good0.ex
  rw [h] at this; exact this, Int.le_refl _, Int.le_refl _, Int.le_refl _⟩
theorem Lv.Ok.any {S : Lv} {n : Nat} (h : S.Ok n) (x : Stp) : (S.step x).Ok (n + 1) := by
  refine ⟨?_, ?_, ?_, ?_⟩
  · rw [S.step_now, S.step_disk, S.step_last]; exact h.hold.any x
  · rw [S.step_last]; have := Img.llast_le h.hold x; have := h.few; omega
  · have := h.cr0
    unfold Lv.step
    split
    · show 0 ≤ S.cr + 1; omega
    · exact this
  · have := h.crn
    unfold Lv.step
    split
    · show S.cr + 1 ≤ _; omega
    · show S.cr ≤ _; omega
def lvA (bf : Nat) (S : Lv) : Array Value := #[.pointer (some ⟨bf, 0, none⟩), .int .i64 S.cr, .int .i64 S.lf, .int .i64 S.lc, .int .i64 S.ld]
/-- a life made behind w -/
structure Lo (w : World) (bl bf bc : Nat) (S : Lv) (W : World) : Prop where
  fo : Fo w bf bc S.now S.disk S.last W
  root : W.heap[bl]? = some (.cells (lvA bf S) 50)
  l0 : w.heap.size ≤ bl
  nf : bl ≠ bf
  nc : bl ≠ bc
/-- what a call of it leaves of other blocks -/
structure Lc (bl bf bc bf' bc' : Nat) (W W' : World) : Prop where
  size : W.heap.size ≤ W'.heap.size
  old : ∀ j, j < W.heap.size → j ≠ bl → j ≠ bf → j ≠ bc → W'.heap[j]? = W.heap[j]?
  new : (bf' = bf ∧ bc' = bc) ∨ (W.heap.size ≤ bf' ∧ W.heap.size ≤ bc')
section
variable {w W W' : World} {bl bf bc : Nat} {S : Lv}
theorem Lo.lt (h : Lo w bl bf bc S W) : bl < W.heap.size := (Array.getElem?_eq_some_iff.1 h.root).1
theorem Lo.call (h : Lo w bl bf bc S W) (hb : Below W.heap.size W W') : Lo w bl bf bc S W' := ⟨h.fo.call hb, by rw [hb.block _ h.lt]; exact h.root, h.l0, h.nf, h.nc⟩
theorem Lo.ptr (h : Lo w bl bf bc S W) : W.cell? ⟨bl, 0, none⟩ = some (.pointer (some ⟨bf, 0, none⟩)) := by rw [cell_of_row W bl 0 _ _ _ h.root]; rfl
theorem Lo.crs (h : Lo w bl bf bc S W) : W.cell? ⟨bl, 1, none⟩ = some (.int .i64 S.cr) := by rw [cell_of_row W bl 1 _ _ _ h.root]; rfl
theorem Lo.bel (h : Lo w bl bf bc S W) : Below w.heap.size w W := h.fo.bel
theorem Lo.ptr2 (h : Lo w bl bf bc S W) : W.cell? ⟨bf, 0, none⟩ = some (.pointer (some ⟨bc, 0, none⟩)) := h.fo.cells.1
theorem Lc.of_below (hb : Below W.heap.size W W') : Lc bl bf bc bf bc W W' := ⟨hb.size, fun j hj _ _ _ => hb.block j hj, .inl ⟨rfl, rfl⟩⟩
theorem Lc.trans {W2 : World} {bf1 bc1 bf2 bc2 : Nat} (h : Lc bl bf bc bf1 bc1 W W') (h' : Lc bl bf1 bc1 bf2 bc2 W' W2) : Lc bl bf bc bf2 bc2 W W2 := by
  refine ⟨Nat.le_trans h.size h'.size, fun j hj a b c => ?_, ?_⟩
  · have := h.size
    rw [h'.old j (by omega) a (by rcases h.new with z | z <;> omega) (by rcases h.new with z | z <;> omega), h.old j hj a b c]
  · have := h.size
    rcases h'.new with z | z
    · rcases h.new with y | y
      · exact .inl ⟨z.1.trans y.1, z.2.trans y.2⟩
      · exact .inr ⟨by omega, by omega⟩
    · exact .inr ⟨by omega, by omega⟩
/-- a row of the law's own stays, and stays apart -/
theorem Lc.row {bf' bc' g : Nat} {o : Obj} (h : Lc bl bf bc bf' bc' W W') (hr : W.heap[g]? = some o) (hn : g ≠ bl ∧ g ≠ bf ∧ g ≠ bc) : W'.heap[g]? = some o ∧ (g ≠ bl ∧ g ≠ bf' ∧ g ≠ bc') := by
  have hl := (Array.getElem?_eq_some_iff.1 hr).1
  refine ⟨by rw [h.old g hl hn.1 hn.2.1 hn.2.2]; exact hr, hn.1, ?_, ?_⟩
  · rcases h.new with z | z <;> omega
  · rcases h.new with z | z <;> omega
theorem Fo.fmut {k' : Img} (hl : Lo w bl bf bc S W) (hf : Fo w bf bc S.now k' S.last W') (hm : ∃ c, Mut W W' bc c 57) : Lo w bl bf bc { S with disk := k' } W' ∧ Lc bl bf bc bf bc W W' := by
  obtain ⟨c, hm⟩ := hm
  exact ⟨⟨hf, by rw [hm.old bl hl.lt hl.nc]; exact hl.root, hl.l0, hl.nf, hl.nc⟩, hm.size, fun j hj _ _ hc => hm.old j hj hc, .inl ⟨rfl, rfl⟩⟩
set_option maxHeartbeats 1000000 in
set_option maxRecDepth 100000 in
theorem lNew_any (w : World) {W : World} (hb : Below w.heap.size w W) : Calls Tryz.prog 14 #[] W fun e w' => ∃ bl bf bc, e = .returned (.pointer (some ⟨bl, 0, none⟩)) ∧ W.heap.size ≤ bl ∧ W.heap.size ≤ bf ∧ W.heap.size ≤ bc ∧ Lo w bl bf bc Lv.new w' ∧ Below W.heap.size W w' := by
  have hF := hide (Fo.new w hb)
  have hwW := hb.size
  go_enter Tryz.func14, Tryz.ntmps14
  go_wp2_with fail
  refine (unhide hF).mono ?_
  rintro e w1 ⟨bf, bc, rfl, h1, h2, h3, b1⟩
  have F1 := hide h3
  have B1 := hide b1
  clear h3 b1 hF
  go_wp2_with fail
  go_ret
  have hc := (unhide F1).cells
  refine ⟨_, bf, bc, rfl, (unhide B1).size, h1, h2, ⟨(unhide F1).call ((Below.refl _ w1).alloc (Nat.le_refl _) _), heap_alloc_last _ _, Nat.le_trans hwW (unhide B1).size, by omega, by omega⟩, (unhide B1).alloc (unhide B1).size _⟩
set_option maxHeartbeats 1000000 in
set_option maxRecDepth 100000 in
theorem lWrite_any (h : Lo w bl bf bc S W) (b : Int) : Calls Tryz.prog 38 #[.pointer (some ⟨bl, 0, none⟩), .int .i64 b] W fun e w' => e = .returned (.int .i64 (if Img.inB b = true then 0 else 1)) ∧ Lo w bl bf bc { S with disk := Img.write S.now S.disk b } w' ∧ Lc bl bf bc bf bc W w' := by
  have c1 := h.ptr
  have c2 := h.ptr2
  have H := hide h
  have C := hide (h.fo.write b)
  clear h
  cases hb : Img.inB b
  · rw [hb] at C
    go_enter Tryz.func38, Tryz.ntmps38
    go_wp2_with fail
    refine (unhide C).mono ?_
    rintro e w' ⟨rfl, hf, hm⟩
    have R := hide (Fo.fmut (unhide H) hf hm)
    clear hf hm C c1 c2
    go_wp2_with fail
    go_ret
    exact ⟨rfl, (unhide R).1, (unhide R).2⟩
  · rw [hb] at C
    go_enter Tryz.func38, Tryz.ntmps38
    go_wp2_with fail
    refine (unhide C).mono ?_
    rintro e w' ⟨rfl, hf, hm⟩
    have R := hide (Fo.fmut (unhide H) hf hm)
    clear hf hm C c1 c2
    go_wp2_with fail
    go_ret
    exact ⟨rfl, (unhide R).1, (unhide R).2⟩
theorem Fo.dsk {m k : Img} {last : Int} (h : Fo w bf bc m k last W) : Calls Tryz.prog 18 #[.pointer (some ⟨bc, 0, none⟩)] W fun e w' => (∃ ds, e = .returned (.agg ds) ∧ IsImg ds k) ∧ Below W.heap.size W w' := by
  obtain ⟨cs, ds, f⟩ := h.it
  refine (disk_any bc cs ds m k f.now f.disk W f.row).mono ?_
  rintro e w' ⟨rfl, b⟩
  exact ⟨⟨ds, rfl, f.disk⟩, b⟩
theorem lost_all (a b c : Int) : (#[.int .i64 a, .int .i64 b, .int .i64 c] : Array Value).all (·.oneCell') = true := by kernel_rfl
theorem life_row0 (a : Value) (b c d e v : Value) : (#[a, b, c, d, e] : Array Value).setIfInBounds 0 v = #[v, b, c, d, e] := rfl
theorem life_row1 (a : Value) (b c d e v : Value) : (#[a, b, c, d, e] : Array Value).setIfInBounds 1 v = #[a, v, c, d, e] := rfl
theorem life_row2 (a b c d e x y z : Value) : splice #[a, b, c, d, e] 2 #[x, y, z] = #[a, b, x, y, z] := rfl
set_option maxHeartbeats 4000000 in
set_option maxRecDepth 100000 in
theorem lCrash_any (h : Lo w bl bf bc S W) (hk : S.disk.check = 0) (hcr : 0 ≤ S.cr ∧ S.cr < 4611686018427387904) : Calls Tryz.prog 39 #[.pointer (some ⟨bl, 0, none⟩)] W fun e w' => e = .returned (.int .i64 0) ∧ ∃ bf' bc', Lo w bl bf' bc' S.crash w' ∧ Lc bl bf bc bf' bc' W w' := by
  have z := zero_img.1
  have bz := build_img
  have c1 := h.ptr
  have c2 := h.ptr2
  have H := hide h
  have C := hide h.fo.dsk
  have HK := hide hk
  clear h hk
  go_enter Tryz.func39, Tryz.ntmps39
  go_wp2_with fail
  refine (unhide C).mono ?_
  rintro e w1 ⟨⟨ds, rfl, hds⟩, b1⟩
  have M := hide (mend_any ds S.disk hds w1)
  have B1 := hide b1
  clear b1 C c1 c2
  go_wp2_with fail
  refine (unhide M).mono ?_
  rintro e w3 ⟨hme, b3⟩
  have B2 := hide ((unhide B1).trans (b3.mono (unhide B1).size))
  have hme2 : ∃ c, IsImg c (Img.mend S.disk) ∧ e = .returned (.tuple #[.agg c, .agg (lostA (Img.lostF S.disk : Nat) (Img.lostC S.disk : Nat) (Img.lostD S.disk : Nat)), .int .i64 0]) := by
    rcases hme with ⟨_, c, i, e⟩ | ⟨z, _⟩
    · exact ⟨c, i, e⟩
    · exact absurd (unhide HK) z
  clear hme b3 M B1
  obtain ⟨c3, i3, rfl⟩ := hme2
  have z3 := i3.size
  have I3 := hide i3
  have hall := i3.all
  have hzs := zero_size i3
  clear i3
  unfold lostA
  obtain ⟨nf, ef⟩ : ∃ n : Int, n = (Img.lostF S.disk : Nat) := ⟨_, rfl⟩
  obtain ⟨nc, ec⟩ : ∃ n : Int, n = (Img.lostC S.disk : Nat) := ⟨_, rfl⟩
  obtain ⟨nd, ed⟩ : ∃ n : Int, n = (Img.lostD S.disk : Nat) := ⟨_, rfl⟩
  rw [← ef, ← ec, ← ed]
  have EF := hide ef
  have EC := hide ec
  have ED := hide ed
  clear ef ec ed
  have B3 := hide (By.start w3)
  have B4 := hide ((unhide B3).pair c3 (.int .i64 nf) (.int .i64 nc) (.int .i64 nd))
  have T2 := two2 w3 c3
  have s1 := hide T2.r0
  have c0 := T2.cells 0 (by omega)
  have c1 := T2.cells 1 (by omega)
  have c2 := T2.cells 2 (by omega)
  have fz := T2.fz
  clear T2 B3
  go_upto_region 4 with (have hx := unhide s1; refine wpList_store_row rfl 44 _ _ rfl w3.heap.size c3 rfl rfl 44 zeroCells hx (img_info z3) (hzs) (hall) ?_; clear hx s1; generalize ((w3.alloc (.cells zeroCells 44)).alloc (.cells #[.int .i64 0, .int .i64 0, .int .i64 0] 48)).setRow w3.heap.size c3 = Yw3 at B4 c0 c1 c2 fz ⊢)
  generalize ((Yw3.setCell ⟨w3.heap.size + 1, 0, none⟩ (.int .i64 nf)).setCell ⟨w3.heap.size + 1, 1, none⟩ (.int .i64 nc)).setCell ⟨w3.heap.size + 1, 2, none⟩ (.int .i64 nd) = X4 at B4 ⊢
  clear c0 c1 c2 fz
  have r3 := hide ((unhide B4).row (w3.heap.size, c3, 44) (by simp))
  have r4 := hide ((unhide B4).row (w3.heap.size + 1, #[.int .i64 nf, .int .i64 nc, .int .i64 nd], 48) (by simp))
  have O := hide (sOf_any c3 (Img.mend S.disk) (unhide I3) (Img.mend_check (unhide HK)) X4)
  go_wp2_with (have hx := unhide r3; refine wpList_load_row rfl 44 _ rfl w3.heap.size rfl 44 c3 (0, 0) _ hx img_under rfl (img_info z3) ?_; clear hx r3)
  refine (unhide O).mono ?_
  rintro e w5 ⟨⟨bf', bc', last', rfl, hbf, hbc, fl, bb, hlast, hmax⟩, b5⟩
  have hl5 : last' = Img.top (Img.mend S.disk) := hlast.trans (Img.top_is (Img.mend_check (unhide HK)) hmax.1 hmax.2)
  have B45 := hide ((unhide B4).below.trans (b5.mono (unhide B4).below.size))
  have B5 := hide ((unhide B2).trans ((unhide B45).mono (unhide B2).size))
  have r5 := hide (show w5.heap[w3.heap.size + 1]? = some (.cells #[.int .i64 nf, .int .i64 nc, .int .i64 nd] 48) by rw [b5.block _ (Array.getElem?_eq_some_iff.1 (unhide r4)).1]; exact unhide r4)
  have L5 := hide ((unhide H).call (unhide B5))
  have F5 := hide fl
  have n4 : w3.heap.size + 1 ≠ bl := by have := (unhide H).lt; have := (unhide B2).size; omega
  have NB := hide (show bl < bf' ∧ bl < bc' ∧ W.heap.size ≤ bf' ∧ W.heap.size ≤ bc' by have := (unhide H).lt; have := (unhide B2).size; have := (unhide B4).below.size; omega)
  have q0 := (unhide L5).ptr
  have q1 := (unhide L5).crs
  have fz := fun i => frozen_of_row _ _ i _ _ (unhide L5).root
  have RT := hide (unhide L5).root
  clear b5 fl hbf hbc hlast hmax O r4 B45 B4
  unfold lvA at RT
  have RT1 := hide (box_set (unhide RT) 0 (.pointer (some ⟨bf', 0, none⟩)))
  rw [life_row0] at RT1
  have q2 : (w5.setCell ⟨bl, 0, none⟩ (.pointer (some ⟨bf', 0, none⟩))).cell? ⟨bl, 1, none⟩ = some (.int .i64 S.cr) := by rw [cell_of_row _ _ _ _ _ _ (unhide RT1)]; rfl
  have fz1 := fun i => frozen_of_row _ _ i _ _ (unhide RT1)
  have M1 := hide (Mv.set (unhide RT) 0 (.pointer (some ⟨bf', 0, none⟩)))
  have hadd : -9223372036854775808 ≤ S.cr + 1 ∧ S.cr + 1 ≤ 9223372036854775807 := by omega
  go_upto_region 5 with fail
  try simp only [Act.put]
  generalize w5.setCell ⟨bl, 0, none⟩ (.pointer (some ⟨bf', 0, none⟩)) = X6 at RT1 q2 fz1 M1 ⊢
  have RT2 := hide (box_set (unhide RT1) 1 (.int .i64 (S.cr + 1)))
  rw [life_row1] at RT2
  have M2 := hide (Mv.set (unhide RT1) 1 (.int .i64 (S.cr + 1)))
  clear q0 q1 fz
  go_upto_region 6 with fail
  try simp only [Act.put]
  generalize X6.setCell ⟨bl, 1, none⟩ (.int .i64 (S.cr + 1)) = X7 at RT2 M2 ⊢
  have M12 := hide ((unhide M1).trans (unhide M2))
  have r7 := hide (show X7.heap[w3.heap.size + 1]? = some (.cells #[.int .i64 nf, .int .i64 nc, .int .i64 nd] 48) by rw [(unhide M12).old _ (Array.getElem?_eq_some_iff.1 (unhide r5)).1 n4]; exact unhide r5)
  have M3 := hide (Mv.row' (unhide RT2) #[.pointer (some ⟨bf', 0, none⟩), .int .i64 (S.cr + 1), .int .i64 nf, .int .i64 nc, .int .i64 nd])
  clear q2 fz1 r5
  go_wp2_with (first | (have hx := unhide r7; refine wpList_load_row rfl 48 _ rfl (w3.heap.size + 1) rfl 48 #[.int .i64 nf, .int .i64 nc, .int .i64 nd] (0, 0) _ hx lost_under rfl lost_info ?_; clear hx r7) | (have hx := unhide RT2; refine wpList_store_part rfl 48 _ _ rfl bl 2 #[.int .i64 nf, .int .i64 nc, .int .i64 nd] rfl rfl 50 _ hx lost_info (by simp) (lost_all nf nc nd) ?_; clear hx; rw [life_row2]))
  generalize X7.setRow bl #[.pointer (some ⟨bf', 0, none⟩), .int .i64 (S.cr + 1), .int .i64 nf, .int .i64 nc, .int .i64 nd] = X8 at M3 ⊢
  go_ret
  have MV := (unhide M12).trans (unhide M3)
  have hbl := (unhide H).lt
  have hf := (unhide F5).flt
  have hc := (unhide F5).clt
  refine ⟨rfl, bf', bc', ⟨⟨⟨c3, c3, ?_⟩, ?_, ?_, ?_⟩, ?_, (unhide H).l0, by have := (unhide NB).1; omega, by have := (unhide NB).2.1; omega⟩, ?_, fun j hj h1 _ _ => ?_, .inr ⟨(unhide NB).2.2.1, (unhide NB).2.2.2⟩⟩
  · have := (unhide F5).keep (MV.old _ hf (by have := (unhide NB).1; omega)) (MV.old _ hc (by have := (unhide NB).2.1; omega))
    rw [hl5] at this; exact this
  · exact (unhide L5).bel.trans (MV.below _ (unhide H).l0 (unhide L5).bel.size)
  · have := (unhide H).l0; have := (unhide NB).1; omega
  · have := (unhide H).l0; have := (unhide NB).2.1; omega
  · have := MV.row
    rw [unhide EF, unhide EC, unhide ED] at this
    exact this
  · exact Nat.le_trans (unhide B5).size MV.size
  · rw [MV.old j (Nat.lt_of_lt_of_le hj (unhide B5).size) h1, (unhide B5).block j hj]
end
end Go.Proofs.YtlbgkpibaahglacGreat
namespace Go.Proofs.YtlbgkpibaahglacGreat
open Go.RowKit
open Idl (Stp chk stpA)
section
variable {w W W' : World} {bl bf bc : Nat} {S : Lv}
theorem Lv.step_seven (S : Lv) {x : Stp} (h : x.kind = 7) : S.step x = { S with disk := Img.write S.now S.disk x.p } ∧ S.code x = (if Img.inB x.p = true then 0 else 1) := by
  unfold Lv.step Lv.code Img.lnow Img.ldisk Img.llast Img.lcode
  rw [h]; exact ⟨rfl, rfl⟩
theorem Lv.step_eight (S : Lv) {x : Stp} (h : x.kind = 8) : S.step x = { S with disk := (Img.syn S.now 8 S.disk).2 } ∧ S.code x = 0 := by
  unfold Lv.step Lv.code Img.lnow Img.ldisk Img.llast Img.lcode
  rw [h]; exact ⟨rfl, rfl⟩
theorem Lv.step_nine (S : Lv) {x : Stp} (h : x.kind = 9) : S.step x = S.crash ∧ S.code x = 0 := by
  unfold Lv.step Lv.code Img.lcode
  rw [if_pos h, if_pos h]; exact ⟨rfl, rfl⟩
theorem Lv.step_file (S : Lv) {x : Stp} (h : x.kind ≠ 7 ∧ x.kind ≠ 8 ∧ x.kind ≠ 9) : S.step x = { S with now := Img.sstep S.now S.disk S.last x, last := Img.slast S.now S.disk S.last x } ∧ S.code x = Img.scode S.now S.disk x := by
  obtain ⟨h1, h2, h3⟩ := h
  unfold Lv.step Lv.code Img.lnow Img.ldisk Img.llast Img.lcode
  simp only [if_neg h1, if_neg h2, if_neg h3, if_neg (show ¬ (x.kind = 7 ∨ x.kind = 8) by omega)]
  exact ⟨trivial, trivial⟩
theorem Op1.ld_files {o : Oper} {ρ : Operand → Value} (x : Operand) (ho : o.op = .load 46 x) {g o0 : Nat} (hx : ρ x = .pointer (some ⟨g, o0, none⟩)) {p : Option Addr} (w : World) (h : w.cell? ⟨g, o0, none⟩ = some (.pointer p)) : (execOp ρ o).run Tryz.prog w = .ok (.value (.pointer p)) w := by
  unfold execOp
  rw [ho]
  go_simp
theorem Lc.below {B : World} {bf' bc' : Nat} (hb : Below W.heap.size W B) (h : Lc bl bf bc bf' bc' B W') : Lc bl bf bc bf' bc' W W' := (Lc.of_below hb).trans h
theorem stp_info7 : (Tryz.prog.info? 31).map (·.size) = some 7 := by kernel_rfl
theorem stp_under7 : Tryz.prog.underlying 31 = some (.struct (Tryz.prog.fieldsOf 31)) := by kernel_rfl
set_option maxHeartbeats 2000000 in
set_option maxRecDepth 100000 in
theorem lStep_none (h : Lo w bl bf bc S W) {n : Nat} (hO : S.Ok n) (hn : n ≤ 1000000) (x : Stp) (hx : x.kind = 7 ∨ x.kind = 8 ∨ x.kind = 9) :
    Calls Tryz.prog 16 #[.pointer (some ⟨bl, 0, none⟩), .agg (stpA x)] W fun e w' => e = .returned (.int .i64 (S.code x)) ∧ ∃ bf' bc', Lo w bl bf' bc' (S.step x) w' ∧ Lc bl bf bc bf' bc' W w' := by
  have hB : Below W.heap.size W (W.alloc (.cells (stpA x) 31)) := (Below.refl _ W).alloc (Nat.le_refl _) _
  have L1 := hide (h.call hB)
  have BB := hide hB
  have r1 : (W.alloc (.cells (stpA x) 31)).heap[W.heap.size]? = some (.cells (stpA x) 31) := heap_alloc_last _ _
  have e0 : (W.alloc (.cells (stpA x) 31)).cell? ⟨W.heap.size, 0, none⟩ = some (.int .i64 x.kind) := by rw [cell_of_row _ _ _ _ _ _ r1]; rfl
  have e3 : (W.alloc (.cells (stpA x) 31)).cell? ⟨W.heap.size, 3, none⟩ = some (.int .i64 x.p) := by rw [cell_of_row _ _ _ _ _ _ r1]; rfl
  have c1 := (unhide L1).ptr
  have c2 := (unhide L1).ptr2
  have C7 := hide (lWrite_any (unhide L1) x.p)
  have C8 := hide (unhide L1).fo.sync
  have C9 := hide (lCrash_any (unhide L1) hO.hold.ok ⟨hO.cr0, by have := hO.crn; omega⟩)
  clear h hB r1 hO hn
  obtain ⟨kind, dir, toDir, p, name, tu, text⟩ := x
  simp only at hx
  rcases hx with rfl | rfl | rfl
  · rw [(S.step_seven (x := ⟨7, dir, toDir, p, name, tu, text⟩) rfl).1, (S.step_seven (x := ⟨7, dir, toDir, p, name, tu, text⟩) rfl).2]
    simp only [stpA] at L1 BB e0 e3 c1 c2 C7 C8 C9 ⊢
    generalize (if Img.inB p = true then (0 : Int) else 1) = cd at C7 ⊢
    go_enter Tryz.func16, Tryz.ntmps16
    go_wp2_with fail
    refine (unhide C7).mono ?_
    rintro e w' ⟨rfl, h1, h2⟩
    have R := hide (And.intro h1 (h2.below (unhide BB)))
    clear h1 h2
    go_wp2_with fail
    go_ret
    exact ⟨rfl, bf, bc, (unhide R).1, (unhide R).2⟩
  · rw [(S.step_eight (x := ⟨8, dir, toDir, p, name, tu, text⟩) rfl).1, (S.step_eight (x := ⟨8, dir, toDir, p, name, tu, text⟩) rfl).2]
    simp only [stpA] at L1 BB e0 e3 c1 c2 C7 C8 C9
    go_enter Tryz.func16, Tryz.ntmps16
    go_wp2_with fail
    refine (unhide C8).mono ?_
    rintro e w' ⟨rfl, h1, h2⟩
    have R0 := Fo.fmut (unhide L1) h1 h2
    have R := hide (And.intro R0.1 (R0.2.below (unhide BB)))
    clear h1 h2 R0
    go_wp2_with fail
    go_ret
    exact ⟨rfl, bf, bc, (unhide R).1, (unhide R).2⟩
  · rw [(S.step_nine (x := ⟨9, dir, toDir, p, name, tu, text⟩) rfl).1, (S.step_nine (x := ⟨9, dir, toDir, p, name, tu, text⟩) rfl).2]
    simp only [stpA] at L1 BB e0 e3 c1 c2 C7 C8 C9
    go_enter Tryz.func16, Tryz.ntmps16
    go_wp2_with fail
    refine (unhide C9).mono ?_
    rintro e w' ⟨rfl, bf', bc', h1, h2⟩
    have R := hide (And.intro h1 (h2.below (unhide BB)))
    clear h1 h2
    go_wp2_with fail
    go_ret
    exact ⟨rfl, bf', bc', (unhide R).1, (unhide R).2⟩
set_option maxHeartbeats 2000000 in
set_option maxRecDepth 100000 in
theorem lStep_file (h : Lo w bl bf bc S W) {n : Nat} (hO : S.Ok n) (hn : n ≤ 1000000) (x : Stp) (h1 : x.name.size ≤ maxLen) (h2 : x.to.size ≤ maxLen) (h3 : x.text.size ≤ maxLen) (hx : x.kind ≠ 7 ∧ x.kind ≠ 8 ∧ x.kind ≠ 9) :
    Calls Tryz.prog 16 #[.pointer (some ⟨bl, 0, none⟩), .agg (stpA x)] W fun e w' => e = .returned (.int .i64 (S.code x)) ∧ ∃ bf' bc', Lo w bl bf' bc' (S.step x) w' ∧ Lc bl bf bc bf' bc' W w' := by
  have hB : Below W.heap.size W (W.alloc (.cells (stpA x) 31)).drew := ((Below.refl _ W).alloc (Nat.le_refl _) _).drew
  have L1 := hide (h.call hB)
  have BB := hide hB
  have hl := h.lt
  have r1 : (W.alloc (.cells (stpA x) 31)).heap[W.heap.size]? = some (.cells (stpA x) 31) := heap_alloc_last _ _
  have R1 := hide (show (W.alloc (.cells (stpA x) 31)).drew.heap[W.heap.size]? = some (.cells (stpA x) 31) from r1)
  have e0 : (W.alloc (.cells (stpA x) 31)).cell? ⟨W.heap.size, 0, none⟩ = some (.int .i64 x.kind) := by rw [cell_of_row _ _ _ _ _ _ r1]; rfl
  have k7 : (x.kind == 7) = false := by simpa using hx.1
  have k8 : (x.kind == 8) = false := by simpa using hx.2.1
  have k9 : (x.kind == 9) = false := by simpa using hx.2.2
  have NX := hide (show W.heap.size ≠ bl ∧ W.heap.size ≠ bf ∧ W.heap.size ≠ bc by have := h.fo.cells.2.1; have := h.fo.cells.2.2.1; omega)
  have CF := hide ((unhide L1).fo.step hO.hold.good (by have := hO.few; omega) x h1 h2 h3)
  rw [(S.step_file hx).1, (S.step_file hx).2]
  clear h hB r1 hO hn h1 h2 h3 hx
  go_enter Tryz.func16, Tryz.ntmps16
  go_upto_region 9 with fail
  refine wp_region_held_drew (S := fun V => V.cell? ⟨bl, 0, none⟩ = some (.pointer (some ⟨bf, 0, none⟩)) ∧ V.heap[W.heap.size]? = some (.cells (stpA x) 31)) (by kernel_rfl) (⟨(unhide L1).ptr, unhide R1⟩) (fun hS => ?_)
  refine wpAnyH_take (i := 0) (oi := { dst := some 27, op := Op.move (Operand.tmp 0), type := 25, pos := "life.go:37", after := #[], guard := none }) (v := .pointer (some ⟨bl, 0, none⟩)) rfl (by kernel_rfl) (by kernel_rfl) (by kernel_rfl) (fun _ _ _ h => h) (Or.inl ⟨by kernel_rfl, fun W h => (by first | kernel_rfl | go_simp)⟩) hS ?_
  try simp only [Act.put, List.setIfInBounds_toArray, List.set_cons_zero, List.set_cons_succ]
  refine wpAnyH_take (i := 1) (oi := { dst := some 28, op := Op.nilCheck (Operand.tmp 27), type := 0, pos := "life.go:37", after := #[{ on := 0, ground := Ground.data }], guard := none }) (v := .pointer (some ⟨bl, 0, none⟩)) rfl (by kernel_rfl) (by kernel_rfl) (by kernel_rfl) (fun _ _ _ h => h) (Or.inl ⟨by kernel_rfl, fun W h => (by first | kernel_rfl | go_simp)⟩) hS ?_
  try simp only [Act.put, List.setIfInBounds_toArray, List.set_cons_zero, List.set_cons_succ]
  refine wpAnyH_take (i := 2) (oi := { dst := some 29, op := Op.fieldAddr 50 (Operand.tmp 28) 0, type := 0, pos := "life.go:37", after := #[{ on := 1, ground := Ground.data }], guard := none }) (v := .pointer (some ⟨bl, 0, none⟩)) rfl (by kernel_rfl) (by kernel_rfl) (by kernel_rfl) (fun _ _ _ h => h) (Or.inl ⟨by kernel_rfl, fun W h => (by first | kernel_rfl | go_simp)⟩) hS ?_
  try simp only [Act.put, List.setIfInBounds_toArray, List.set_cons_zero, List.set_cons_succ]
  refine wpAnyH_take (i := 3) (oi := { dst := some 30, op := Op.load 46 (Operand.tmp 29), type := 46, pos := "life.go:37", after := #[{ on := 2, ground := Ground.data }], guard := none }) (v := .pointer (some ⟨bf, 0, none⟩)) rfl (by kernel_rfl) (by kernel_rfl) (by kernel_rfl) (fun _ _ _ h => h) (Or.inl ⟨by kernel_rfl, fun W h => Op1.ld_files (.tmp 29) (by kernel_rfl) (by kernel_rfl) W h.1⟩) hS ?_
  try simp only [Act.put, List.setIfInBounds_toArray, List.set_cons_zero, List.set_cons_succ]
  refine wpAnyH_take (i := 4) (oi := { dst := some 31, op := Op.load 31 (Operand.tmp 3), type := 31, pos := "life.go:37", after := #[], guard := none }) (v := .agg (stpA x)) rfl (by kernel_rfl) (by kernel_rfl) (by kernel_rfl) (fun _ _ _ h => h) (Or.inl ⟨by kernel_rfl, fun W h => run_exec_load_whole 31 (.tmp 3) (by kernel_rfl) _ (by kernel_rfl) W 31 (stpA x) (0, 0) _ h.2 stp_under7 rfl stp_info7⟩) hS ?_
  try simp only [Act.put, List.setIfInBounds_toArray, List.set_cons_zero, List.set_cons_succ]
  refine wpAnyH_ready (rs := [5]) (by kernel_rfl) (by simp) ?_
  refine AllReadyH.cons (o := { dst := some 32, op := Op.call { callee := Callee.value (Operand.func 40), args := #[Operand.tmp 30, Operand.tmp 31], argTypes := #[46, 31] }, type := 3, pos := "life.go:37", after := #[{ on := 3, ground := Ground.data }, { on := 4, ground := Ground.data }], guard := none }) rfl (fun K hK => ?_) AllReadyH.nil
  rw [if_pos (by kernel_rfl)]
  go_simp
  refine (unhide CF).mono ?_
  rintro e w2 ⟨rfl, hf, hc⟩
  have rl : w2.heap[bl]? = some (.cells (lvA bf S) 50) := by rw [hc.block bl (unhide L1).lt (fun z => by rcases z with z | z; exact (unhide L1).nf z; exact (unhide L1).nc z)]; exact (unhide L1).root
  have rb : w2.heap[W.heap.size]? = some (.cells (stpA x) 31) := by rw [hc.block _ (Array.getElem?_eq_some_iff.1 (unhide R1)).1 (fun z => by rcases z with z | z; exact (unhide NX).2.1 z; exact (unhide NX).2.2 z)]; exact unhide R1
  have S2 : w2.cell? ⟨bl, 0, none⟩ = some (.pointer (some ⟨bf, 0, none⟩)) ∧ w2.heap[W.heap.size]? = some (.cells (stpA x) 31) := ⟨by rw [cell_of_row _ _ _ _ _ _ rl]; rfl, rb⟩
  have FF := hide (show Lo w bl bf bc { S with now := Img.sstep S.now S.disk S.last x, last := Img.slast S.now S.disk S.last x } w2 ∧ Lc bl bf bc bf bc W w2 from ⟨⟨hf, rl, (unhide L1).l0, (unhide L1).nf, (unhide L1).nc⟩, Nat.le_trans (unhide BB).size hc.size, fun j hj a b c => by rw [hc.block j (Nat.lt_of_lt_of_le hj (unhide BB).size) (fun z => by rcases z with z | z; exact b z; exact c z), (unhide BB).block j hj], .inl ⟨rfl, rfl⟩⟩)
  clear hf hc rl rb
  go_wp2_with fail
  refine hK.out _ _ (S2) (fun hS2 => ?_)
  clear hK K
  try simp only [Act.put, List.setIfInBounds_toArray, List.set_cons_zero, List.set_cons_succ]
  refine wpAnyH_take (i := 6) (oi := { dst := some 4, op := Op.assign (Operand.tmp 32), type := 3, pos := "life.go:37", after := #[{ on := 5, ground := Ground.data }, { on := 5, ground := Ground.chain }, { on := 0, ground := Ground.phase }, { on := 1, ground := Ground.phase }, { on := 2, ground := Ground.phase }, { on := 3, ground := Ground.phase }, { on := 4, ground := Ground.phase }, { on := 5, ground := Ground.phase }], guard := none }) (v := .int .i64 (Img.scode S.now S.disk x)) rfl (by kernel_rfl) (by kernel_rfl) (by kernel_rfl) (fun _ _ _ h => h) (Or.inl ⟨by kernel_rfl, fun W h => (by first | kernel_rfl | go_simp)⟩) hS2 ?_
  try simp only [Act.put, List.setIfInBounds_toArray, List.set_cons_zero, List.set_cons_succ]
  refine wpAnyH_done (by kernel_rfl) ?_ _
  clear hS hS2
  go_wp2_with fail
  go_ret
  exact ⟨rfl, bf, bc, (unhide FF).1, (unhide FF).2⟩
theorem lStep_any (h : Lo w bl bf bc S W) {n : Nat} (hO : S.Ok n) (hn : n ≤ 1000000) (x : Stp) (h1 : x.name.size ≤ maxLen) (h2 : x.to.size ≤ maxLen) (h3 : x.text.size ≤ maxLen) :
    Calls Tryz.prog 16 #[.pointer (some ⟨bl, 0, none⟩), .agg (stpA x)] W fun e w' => e = .returned (.int .i64 (S.code x)) ∧ ∃ bf' bc', Lo w bl bf' bc' (S.step x) w' ∧ Lc bl bf bc bf' bc' W w' := by
  by_cases hx : x.kind = 7 ∨ x.kind = 8 ∨ x.kind = 9
  · exact lStep_none h hO hn x hx
  · exact lStep_file h hO hn x h1 h2 h3 (by omega)
set_option maxHeartbeats 1000000 in
set_option maxRecDepth 100000 in
theorem lCrashes_any (h : Lo w bl bf bc S W) : Calls Tryz.prog 19 #[.pointer (some ⟨bl, 0, none⟩)] W fun e w' => e = .returned (.int .i64 S.cr) ∧ w' = W := by
  have c1 := h.crs
  clear h
  go_enter Tryz.func19, Tryz.ntmps19
  go_wp2_with fail
  go_ret
  exact ⟨rfl, rfl⟩
set_option maxHeartbeats 1000000 in
set_option maxRecDepth 100000 in
theorem lLost_any (h : Lo w bl bf bc S W) : Calls Tryz.prog 20 #[.pointer (some ⟨bl, 0, none⟩)] W fun e w' => e = .returned (.agg (lostA S.lf S.lc S.ld)) ∧ Below W.heap.size W w' := by
  have hl := h.lt
  have r0 := h.root
  have r1 := hide (show (W.alloc (.cells (lostA 0 0 0) 48)).heap[bl]? = some (.cells (lvA bf S) 50) by rw [Below.heap_alloc _ _ _ hl]; exact r0)
  have s1 := hide (heap_alloc_last W (.cells (lostA 0 0 0) 48))
  have ex : (lvA bf S).extract 2 (2 + 3) = lostA S.lf S.lc S.ld := rfl
  clear h r0
  unfold lostA at s1 r1
  go_enter Tryz.func20, Tryz.ntmps20
  go_wp2_with (first | (have hx := unhide r1; refine wpList_load_part rfl 48 _ rfl bl 2 3 rfl 50 (lvA bf S) _ hx lost_under rfl lost_info (by unfold lvA; simp) ?_; rw [ex]; clear hx r1) | (have hx := unhide s1; refine wpList_store_row rfl 48 _ _ rfl W.heap.size (lostA S.lf S.lc S.ld) rfl rfl 48 _ hx lost_info rfl (lost_all S.lf S.lc S.ld) ?_; clear hx))
  refine bodyPost_ret (v := .agg (lostA S.lf S.lc S.ld)) ?_ rfl ⟨rfl, below_setRow ((Below.refl _ _).alloc (Nat.le_refl _) _) (Nat.le_refl _) _⟩
  exact results_cell_row (P := Tryz.prog) Tryz.results20 _ _ W.heap.size 48 _ (0, 0) _ rfl (setRow_heap _ _ _ _ _ _ (unhide s1)) lost_under rfl lost_info
end
end Go.Proofs.YtlbgkpibaahglacGreat
