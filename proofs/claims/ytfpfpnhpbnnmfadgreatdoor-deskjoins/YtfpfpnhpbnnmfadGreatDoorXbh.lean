/-
  A life in memory; the walks of package life. (Written by genhc.py.)
-/
import Derived.Test.YtfpfpnhpbnnmfadGreatDoorXbc
import Derived.Test.YtfpfpnhpbnnmfadGreatDoorXbd
import Derived.Test.YtfpfpnhpbnnmfadGreatDoorXbf
import Derived.Test.YtfpfpnhpbnnmfadGreatDoorXbg
import Derived.Shelf.Strings.OnBuilder
import Derived.Shelf.Small.Strs
import Derived.Shelf.Strconv.Itoa3
import Derived.Test.YtfpfpnhpbnnmfadGreatDoorProg
namespace Go.Proofs.YtfpfpnhpbnnmfadGreatDoor
open Go.RowKit
open Idl (Stp chk stpA)
/-- a life: what is to be, the disk, the last Stamp, how many crashes, what the last one cost -/
structure Lv where
  now : Img
  disk : Img
  last : Int
  cr : Int
  lf : Int
  lc : Int
  ld : Int
def Lv.new : Lv := ⟨blankI, blankI, 0, 0, 0, 0, 0⟩
def Lv.crash (S : Lv) : Lv := ⟨Img.mend S.disk, Img.mend S.disk, Img.top (Img.mend S.disk), S.cr + 1, (Img.lostF S.disk : Nat), (Img.lostC S.disk : Nat), (Img.lostD S.disk : Nat)⟩
def Lv.step (S : Lv) (x : Stp) : Lv :=
  if x.kind = 9 then S.crash else ⟨Img.lnow S.now S.disk S.last x, Img.ldisk S.now S.disk x, Img.llast S.now S.disk S.last x, S.cr, S.lf, S.lc, S.ld⟩
def Lv.code (S : Lv) (x : Stp) : Int := Img.lcode S.now S.disk x
/-- what holds of it behind n steps -/
structure Lv.Ok (S : Lv) (n : Nat) : Prop where
  hold : Img.Hold S.now S.disk S.last
  few : S.last ≤ n
  cr0 : 0 ≤ S.cr
  crn : S.cr ≤ n
theorem Lv.step_now (S : Lv) (x : Stp) : (S.step x).now = Img.lnow S.now S.disk S.last x := by
  unfold Lv.step
  by_cases h : x.kind = 9
  · rw [if_pos h]; exact (if_pos h).symm
  · rw [if_neg h]
theorem Lv.step_disk (S : Lv) (x : Stp) : (S.step x).disk = Img.ldisk S.now S.disk x := by
  unfold Lv.step
  by_cases h : x.kind = 9
  · rw [if_pos h]; exact (if_pos h).symm
  · rw [if_neg h]
theorem Lv.step_last (S : Lv) (x : Stp) : (S.step x).last = Img.llast S.now S.disk S.last x := by
  unfold Lv.step
  by_cases h : x.kind = 9
  · rw [if_pos h]; exact (if_pos h).symm
  · rw [if_neg h]
theorem Lv.Ok.start : Lv.new.Ok 0 := ⟨by
  have h : Img.top blankI = 0 := by kernel_rfl
  have := Img.hold_self (m := blankI) Sft.good0.ex
  rw [h] at this; exact this, Int.le_refl _, Int.le_refl _, Int.le_refl _⟩
theorem Lv.Ok.any {S : Lv} {n : Nat} (h : S.Ok n) (x : Stp) : (S.step x).Ok (n + 1) := by
  refine ⟨?_, ?_, ?_, ?_⟩
  · rw [S.step_now, S.step_disk, S.step_last]; exact h.hold.any x
  · rw [S.step_last]; have := Img.llast_le h.hold x; have := h.few; omega
  · have := h.cr0
    unfold Lv.step
    split
    · show 0 ≤ S.cr + 1; omega
    · exact this
  · have := h.crn
    unfold Lv.step
    split
    · show S.cr + 1 ≤ _; omega
    · show S.cr ≤ _; omega
def lvA (bf : Nat) (S : Lv) : Array Value := #[.pointer (some ⟨bf, 0, none⟩), .int .i64 S.cr, .int .i64 S.lf, .int .i64 S.lc, .int .i64 S.ld]
/-- a life made behind w -/
structure Lo (w : World) (bl bf bc : Nat) (S : Lv) (W : World) : Prop where
  fo : Fo w bf bc S.now S.disk S.last W
  root : W.heap[bl]? = some (.cells (lvA bf S) 65)
  l0 : w.heap.size ≤ bl
  nf : bl ≠ bf
  nc : bl ≠ bc
/-- what a call of it leaves of other blocks -/
structure Lc (bl bf bc bf' bc' : Nat) (W W' : World) : Prop where
  size : W.heap.size ≤ W'.heap.size
  old : ∀ j, j < W.heap.size → j ≠ bl → j ≠ bf → j ≠ bc → W'.heap[j]? = W.heap[j]?
  new : (bf' = bf ∧ bc' = bc) ∨ (W.heap.size ≤ bf' ∧ W.heap.size ≤ bc')
section
variable {w W W' : World} {bl bf bc : Nat} {S : Lv}
theorem Lo.lt (h : Lo w bl bf bc S W) : bl < W.heap.size := (Array.getElem?_eq_some_iff.1 h.root).1
theorem Lo.call (h : Lo w bl bf bc S W) (hb : Below W.heap.size W W') : Lo w bl bf bc S W' := ⟨h.fo.call hb, by rw [hb.block _ h.lt]; exact h.root, h.l0, h.nf, h.nc⟩
theorem Lo.ptr (h : Lo w bl bf bc S W) : W.cell? ⟨bl, 0, none⟩ = some (.pointer (some ⟨bf, 0, none⟩)) := by rw [cell_of_row W bl 0 _ _ _ h.root]; rfl
theorem Lo.crs (h : Lo w bl bf bc S W) : W.cell? ⟨bl, 1, none⟩ = some (.int .i64 S.cr) := by rw [cell_of_row W bl 1 _ _ _ h.root]; rfl
theorem Lo.bel (h : Lo w bl bf bc S W) : Below w.heap.size w W := h.fo.bel
theorem Lo.ptr2 (h : Lo w bl bf bc S W) : W.cell? ⟨bf, 0, none⟩ = some (.pointer (some ⟨bc, 0, none⟩)) := h.fo.cells.1
theorem Lc.of_below (hb : Below W.heap.size W W') : Lc bl bf bc bf bc W W' := ⟨hb.size, fun j hj _ _ _ => hb.block j hj, .inl ⟨rfl, rfl⟩⟩
theorem Lc.trans {W2 : World} {bf1 bc1 bf2 bc2 : Nat} (h : Lc bl bf bc bf1 bc1 W W') (h' : Lc bl bf1 bc1 bf2 bc2 W' W2) : Lc bl bf bc bf2 bc2 W W2 := by
  refine ⟨Nat.le_trans h.size h'.size, fun j hj a b c => ?_, ?_⟩
  · have := h.size
    rw [h'.old j (by omega) a (by rcases h.new with z | z <;> omega) (by rcases h.new with z | z <;> omega), h.old j hj a b c]
  · have := h.size
    rcases h'.new with z | z
    · rcases h.new with y | y
      · exact .inl ⟨z.1.trans y.1, z.2.trans y.2⟩
      · exact .inr ⟨by omega, by omega⟩
    · exact .inr ⟨by omega, by omega⟩
theorem Fo.fmut {k' : Img} (hl : Lo w bl bf bc S W) (hf : Fo w bf bc S.now k' S.last W') (hm : ∃ c, Mut W W' bc c 141) : Lo w bl bf bc { S with disk := k' } W' ∧ Lc bl bf bc bf bc W W' := by
  obtain ⟨c, hm⟩ := hm
  exact ⟨⟨hf, by rw [hm.old bl hl.lt hl.nc]; exact hl.root, hl.l0, hl.nf, hl.nc⟩, hm.size, fun j hj _ _ hc => hm.old j hj hc, .inl ⟨rfl, rfl⟩⟩
set_option maxHeartbeats 1000000 in
set_option maxRecDepth 100000 in
theorem lNew_any (w : World) {W : World} (hb : Below w.heap.size w W) : Calls Tryz.prog 12 #[] W fun e w' => ∃ bl bf bc, e = .returned (.pointer (some ⟨bl, 0, none⟩)) ∧ W.heap.size ≤ bl ∧ W.heap.size ≤ bf ∧ W.heap.size ≤ bc ∧ Lo w bl bf bc Lv.new w' ∧ Below W.heap.size W w' := by
  have hF := hide (Fo.new w hb)
  have hwW := hb.size
  go_enter Tryz.func12, Tryz.ntmps12
  go_wp2_with fail
  refine (unhide hF).mono ?_
  rintro e w1 ⟨bf, bc, rfl, h1, h2, h3, b1⟩
  have F1 := hide h3
  have B1 := hide b1
  clear h3 b1 hF
  go_wp2_with fail
  go_ret
  have hc := (unhide F1).cells
  refine ⟨_, bf, bc, rfl, (unhide B1).size, h1, h2, ⟨(unhide F1).call ((Below.refl _ w1).alloc (Nat.le_refl _) _), heap_alloc_last _ _, Nat.le_trans hwW (unhide B1).size, by omega, by omega⟩, (unhide B1).alloc (unhide B1).size _⟩
set_option maxHeartbeats 1000000 in
set_option maxRecDepth 100000 in
theorem lWrite_any (h : Lo w bl bf bc S W) (b : Int) : Calls Tryz.prog 78 #[.pointer (some ⟨bl, 0, none⟩), .int .i64 b] W fun e w' => e = .returned (.int .i64 (if Img.inB b = true then 0 else 1)) ∧ Lo w bl bf bc { S with disk := Img.write S.now S.disk b } w' ∧ Lc bl bf bc bf bc W w' := by
  have c1 := h.ptr
  have c2 := h.ptr2
  have H := hide h
  have C := hide (h.fo.write b)
  clear h
  cases hb : Img.inB b
  · rw [hb] at C
    go_enter Tryz.func78, Tryz.ntmps78
    go_wp2_with fail
    refine (unhide C).mono ?_
    rintro e w' ⟨rfl, hf, hm⟩
    have R := hide (Fo.fmut (unhide H) hf hm)
    clear hf hm C c1 c2
    go_wp2_with fail
    go_ret
    exact ⟨rfl, (unhide R).1, (unhide R).2⟩
  · rw [hb] at C
    go_enter Tryz.func78, Tryz.ntmps78
    go_wp2_with fail
    refine (unhide C).mono ?_
    rintro e w' ⟨rfl, hf, hm⟩
    have R := hide (Fo.fmut (unhide H) hf hm)
    clear hf hm C c1 c2
    go_wp2_with fail
    go_ret
    exact ⟨rfl, (unhide R).1, (unhide R).2⟩
theorem Fo.dsk {m k : Img} {last : Int} (h : Fo w bf bc m k last W) : Calls Tryz.prog 59 #[.pointer (some ⟨bc, 0, none⟩)] W fun e w' => (∃ ds, e = .returned (.agg ds) ∧ IsImg ds k) ∧ Below W.heap.size W w' := by
  obtain ⟨cs, ds, f⟩ := h.it
  refine (disk_any bc cs ds m k f.now f.disk W f.row).mono ?_
  rintro e w' ⟨rfl, b⟩
  exact ⟨⟨ds, rfl, f.disk⟩, b⟩
theorem lost_all (a b c : Int) : (#[.int .i64 a, .int .i64 b, .int .i64 c] : Array Value).all (·.oneCell') = true := by kernel_rfl
theorem life_row0 (a : Value) (b c d e v : Value) : (#[a, b, c, d, e] : Array Value).setIfInBounds 0 v = #[v, b, c, d, e] := rfl
theorem life_row1 (a : Value) (b c d e v : Value) : (#[a, b, c, d, e] : Array Value).setIfInBounds 1 v = #[a, v, c, d, e] := rfl
theorem life_row2 (a b c d e x y z : Value) : splice #[a, b, c, d, e] 2 #[x, y, z] = #[a, b, x, y, z] := rfl
set_option maxHeartbeats 4000000 in
set_option maxRecDepth 100000 in
theorem lCrash_any (h : Lo w bl bf bc S W) (hk : S.disk.check = 0) (hcr : 0 ≤ S.cr ∧ S.cr < 4611686018427387904) : Calls Tryz.prog 80 #[.pointer (some ⟨bl, 0, none⟩)] W fun e w' => e = .returned (.int .i64 0) ∧ ∃ bf' bc', Lo w bl bf' bc' S.crash w' ∧ Lc bl bf bc bf' bc' W w' := by
  have z := zero_img.1
  have bz := build_img
  have c1 := h.ptr
  have c2 := h.ptr2
  have H := hide h
  have C := hide h.fo.dsk
  have HK := hide hk
  clear h hk
  go_enter Tryz.func80, Tryz.ntmps80
  go_wp2_with fail
  refine (unhide C).mono ?_
  rintro e w1 ⟨⟨ds, rfl, hds⟩, b1⟩
  have M := hide (mend_any ds S.disk hds w1)
  have B1 := hide b1
  clear b1 C c1 c2
  go_wp2_with fail
  refine (unhide M).mono ?_
  rintro e w3 ⟨hme, b3⟩
  have B2 := hide ((unhide B1).trans (b3.mono (unhide B1).size))
  have hme2 : ∃ c, IsImg c (Img.mend S.disk) ∧ e = .returned (.tuple #[.agg c, .agg (lostA (Img.lostF S.disk : Nat) (Img.lostC S.disk : Nat) (Img.lostD S.disk : Nat)), .int .i64 0]) := by
    rcases hme with ⟨_, c, i, e⟩ | ⟨z, _⟩
    · exact ⟨c, i, e⟩
    · exact absurd (unhide HK) z
  clear hme b3 M B1
  obtain ⟨c3, i3, rfl⟩ := hme2
  have z3 := i3.size
  have I3 := hide i3
  have hall := i3.all
  have hzs := zero_size i3
  clear i3
  unfold lostA
  obtain ⟨nf, ef⟩ : ∃ n : Int, n = (Img.lostF S.disk : Nat) := ⟨_, rfl⟩
  obtain ⟨nc, ec⟩ : ∃ n : Int, n = (Img.lostC S.disk : Nat) := ⟨_, rfl⟩
  obtain ⟨nd, ed⟩ : ∃ n : Int, n = (Img.lostD S.disk : Nat) := ⟨_, rfl⟩
  rw [← ef, ← ec, ← ed]
  have EF := hide ef
  have EC := hide ec
  have ED := hide ed
  clear ef ec ed
  have B3 := hide (By.start w3)
  have B4 := hide ((unhide B3).pair c3 (.int .i64 nf) (.int .i64 nc) (.int .i64 nd))
  have T2 := two2 w3 c3
  have s1 := hide T2.r0
  have c0 := T2.cells 0 (by omega)
  have c1 := T2.cells 1 (by omega)
  have c2 := T2.cells 2 (by omega)
  have fz := T2.fz
  clear T2 B3
  go_upto_region 4 with (have hx := unhide s1; refine wpList_store_row rfl 78 _ _ rfl w3.heap.size c3 rfl rfl 78 zeroCells hx (img_info z3) (hzs) (hall) ?_; clear hx s1; generalize ((w3.alloc (.cells zeroCells 78)).alloc (.cells #[.int .i64 0, .int .i64 0, .int .i64 0] 63)).setRow w3.heap.size c3 = Yw3 at B4 c0 c1 c2 fz ⊢)
  generalize ((Yw3.setCell ⟨w3.heap.size + 1, 0, none⟩ (.int .i64 nf)).setCell ⟨w3.heap.size + 1, 1, none⟩ (.int .i64 nc)).setCell ⟨w3.heap.size + 1, 2, none⟩ (.int .i64 nd) = X4 at B4 ⊢
  clear c0 c1 c2 fz
  have r3 := hide ((unhide B4).row (w3.heap.size, c3, 78) (by simp))
  have r4 := hide ((unhide B4).row (w3.heap.size + 1, #[.int .i64 nf, .int .i64 nc, .int .i64 nd], 63) (by simp))
  have O := hide (sOf_any c3 (Img.mend S.disk) (unhide I3) (Img.mend_check (unhide HK)) X4)
  go_wp2_with (have hx := unhide r3; refine wpList_load_row rfl 78 _ rfl w3.heap.size rfl 78 c3 (0, 0) _ hx img_under rfl (img_info z3) ?_; clear hx r3)
  refine (unhide O).mono ?_
  rintro e w5 ⟨⟨bf', bc', last', rfl, hbf, hbc, fl, bb, hlast, hmax⟩, b5⟩
  have hl5 : last' = Img.top (Img.mend S.disk) := hlast.trans (Img.top_is (Img.mend_check (unhide HK)) hmax.1 hmax.2)
  have B45 := hide ((unhide B4).below.trans (b5.mono (unhide B4).below.size))
  have B5 := hide ((unhide B2).trans ((unhide B45).mono (unhide B2).size))
  have r5 := hide (show w5.heap[w3.heap.size + 1]? = some (.cells #[.int .i64 nf, .int .i64 nc, .int .i64 nd] 63) by rw [b5.block _ (Array.getElem?_eq_some_iff.1 (unhide r4)).1]; exact unhide r4)
  have L5 := hide ((unhide H).call (unhide B5))
  have F5 := hide fl
  have n4 : w3.heap.size + 1 ≠ bl := by have := (unhide H).lt; have := (unhide B2).size; omega
  have NB := hide (show bl < bf' ∧ bl < bc' ∧ W.heap.size ≤ bf' ∧ W.heap.size ≤ bc' by have := (unhide H).lt; have := (unhide B2).size; have := (unhide B4).below.size; omega)
  have q0 := (unhide L5).ptr
  have q1 := (unhide L5).crs
  have fz := fun i => frozen_of_row _ _ i _ _ (unhide L5).root
  have RT := hide (unhide L5).root
  clear b5 fl hbf hbc hlast hmax O r4 B45 B4
  unfold lvA at RT
  have RT1 := hide (box_set (unhide RT) 0 (.pointer (some ⟨bf', 0, none⟩)))
  rw [life_row0] at RT1
  have q2 : (w5.setCell ⟨bl, 0, none⟩ (.pointer (some ⟨bf', 0, none⟩))).cell? ⟨bl, 1, none⟩ = some (.int .i64 S.cr) := by rw [cell_of_row _ _ _ _ _ _ (unhide RT1)]; rfl
  have fz1 := fun i => frozen_of_row _ _ i _ _ (unhide RT1)
  have M1 := hide (Mv.set (unhide RT) 0 (.pointer (some ⟨bf', 0, none⟩)))
  have hadd : -9223372036854775808 ≤ S.cr + 1 ∧ S.cr + 1 ≤ 9223372036854775807 := by omega
  go_upto_region 5 with fail
  try simp only [Act.put]
  generalize w5.setCell ⟨bl, 0, none⟩ (.pointer (some ⟨bf', 0, none⟩)) = X6 at RT1 q2 fz1 M1 ⊢
  have RT2 := hide (box_set (unhide RT1) 1 (.int .i64 (S.cr + 1)))
  rw [life_row1] at RT2
  have M2 := hide (Mv.set (unhide RT1) 1 (.int .i64 (S.cr + 1)))
  clear q0 q1 fz
  go_upto_region 6 with fail
  try simp only [Act.put]
  generalize X6.setCell ⟨bl, 1, none⟩ (.int .i64 (S.cr + 1)) = X7 at RT2 M2 ⊢
  have M12 := hide ((unhide M1).trans (unhide M2))
  have r7 := hide (show X7.heap[w3.heap.size + 1]? = some (.cells #[.int .i64 nf, .int .i64 nc, .int .i64 nd] 63) by rw [(unhide M12).old _ (Array.getElem?_eq_some_iff.1 (unhide r5)).1 n4]; exact unhide r5)
  have M3 := hide (Mv.row' (unhide RT2) #[.pointer (some ⟨bf', 0, none⟩), .int .i64 (S.cr + 1), .int .i64 nf, .int .i64 nc, .int .i64 nd])
  clear q2 fz1 r5
  go_wp2_with (first | (have hx := unhide r7; refine wpList_load_row rfl 63 _ rfl (w3.heap.size + 1) rfl 63 #[.int .i64 nf, .int .i64 nc, .int .i64 nd] (0, 0) _ hx lost_under rfl lost_info ?_; clear hx r7) | (have hx := unhide RT2; refine wpList_store_part rfl 63 _ _ rfl bl 2 #[.int .i64 nf, .int .i64 nc, .int .i64 nd] rfl rfl 65 _ hx lost_info (by simp) (lost_all nf nc nd) ?_; clear hx; rw [life_row2]))
  generalize X7.setRow bl #[.pointer (some ⟨bf', 0, none⟩), .int .i64 (S.cr + 1), .int .i64 nf, .int .i64 nc, .int .i64 nd] = X8 at M3 ⊢
  go_ret
  have MV := (unhide M12).trans (unhide M3)
  have hbl := (unhide H).lt
  have hf := (unhide F5).flt
  have hc := (unhide F5).clt
  refine ⟨rfl, bf', bc', ⟨⟨⟨c3, c3, ?_⟩, ?_, ?_, ?_⟩, ?_, (unhide H).l0, by have := (unhide NB).1; omega, by have := (unhide NB).2.1; omega⟩, ?_, fun j hj h1 _ _ => ?_, .inr ⟨(unhide NB).2.2.1, (unhide NB).2.2.2⟩⟩
  · have := (unhide F5).keep (MV.old _ hf (by have := (unhide NB).1; omega)) (MV.old _ hc (by have := (unhide NB).2.1; omega))
    rw [hl5] at this; exact this
  · exact (unhide L5).bel.trans (MV.below _ (unhide H).l0 (unhide L5).bel.size)
  · have := (unhide H).l0; have := (unhide NB).1; omega
  · have := (unhide H).l0; have := (unhide NB).2.1; omega
  · have := MV.row
    rw [unhide EF, unhide EC, unhide ED] at this
    exact this
  · exact Nat.le_trans (unhide B5).size MV.size
  · rw [MV.old j (Nat.lt_of_lt_of_le hj (unhide B5).size) h1, (unhide B5).block j hj]
end
end Go.Proofs.YtfpfpnhpbnnmfadGreatDoor
namespace Go.Proofs
open Go.Shelf
def Tryz.lays156_ren : Go.Shelf.Ren := ⟨fun | 156 => 178 | 165 => 208 | 166 => 50 | 169 => 20 | 240 => 77 | 241 => 228 | 276 => 107 | 277 => 233 | n => n, fun | 31 => 22 | 9 => 9 | 3 => 3 | 4 => 4 | 0 => 0 | 20 => 20 | 72 => 44 | 76 => 122 | 70 => 41 | 37 => 42 | 75 => 121 | 127 => 93 | 164 => 166 | 5 => 5 | 80 => 57 | n => n, fun | n => n⟩
theorem Tryz.lays156 : Go.Proofs.Lays.n156 Tryz.prog Tryz.lays156_ren := {
  mixed := by kernel_rfl
  f156 := Tryz.func178.trans (congrArg some (by kernel_rfl))
  f165 := Tryz.func208.trans (congrArg some (by kernel_rfl))
  f166 := Tryz.func50.trans (congrArg some (by kernel_rfl))
  f169 := Tryz.func20.trans (congrArg some (by kernel_rfl))
  f240 := Tryz.func77.trans (congrArg some (by kernel_rfl))
  f241 := Tryz.func228.trans (congrArg some (by kernel_rfl))
  f276 := Tryz.func107.trans (congrArg some (by kernel_rfl))
  f277 := Tryz.func233.trans (congrArg some (by kernel_rfl))
  t0 := Tryz.underlying0
  a0 := Tryz.isAgg0
  z0 := Tryz.sizeOf0
  v0 := Tryz.zeroValue0
  t3 := Tryz.underlying3
  a3 := Tryz.isAgg3
  z3 := Tryz.sizeOf3
  v3 := Tryz.zeroValue3
  t4 := Tryz.underlying4
  a4 := Tryz.isAgg4
  z4 := Tryz.sizeOf4
  v4 := Tryz.zeroValue4
  t9 := Tryz.underlying9
  a9 := Tryz.isAgg9
  z9 := Tryz.sizeOf9
  v9 := Tryz.zeroValue9
  t20 := Tryz.underlying20
  a20 := Tryz.isAgg20
  z20 := Tryz.sizeOf20
  v20 := Tryz.zeroValue20
  t31 := Tryz.underlying22
  a31 := Tryz.isAgg22
  z31 := Tryz.sizeOf22
  v31 := Tryz.zeroValue22
  t37 := Tryz.underlying42
  a37 := Tryz.isAgg42
  z37 := Tryz.sizeOf42
  v37 := Tryz.zeroValue42
  t70 := Tryz.underlying41
  a70 := Tryz.isAgg41
  z70 := Tryz.sizeOf41
  v70 := Tryz.zeroValue41
  t72 := Tryz.underlying44
  a72 := Tryz.isAgg44
  z72 := Tryz.sizeOf44
  v72 := Tryz.zeroValue44
  t75 := Tryz.underlying121
  a75 := Tryz.isAgg121
  z75 := Tryz.sizeOf121
  v75 := Tryz.zeroValue121
  t76 := Tryz.underlying122
  a76 := Tryz.isAgg122
  z76 := Tryz.sizeOf122
  v76 := Tryz.zeroValue122
  t127 := Tryz.underlying93
  a127 := Tryz.isAgg93
  z127 := Tryz.sizeOf93
  v127 := Tryz.zeroValue93
  t164 := Tryz.underlying166
  a164 := Tryz.isAgg166
  z164 := Tryz.sizeOf166
  v164 := Tryz.zeroValue166 }
def Tryz.lays137_ren : Go.Shelf.Ren := ⟨fun | 137 => 189 | 217 => 72 | 266 => 102 | n => n, fun | 9 => 9 | 5 => 5 | 3 => 3 | n => n, fun | n => n⟩
theorem Tryz.lays137 : Go.Proofs.Lays.n137 Tryz.prog Tryz.lays137_ren := {
  mixed := by kernel_rfl
  f137 := Tryz.func189.trans (congrArg some (by kernel_rfl))
  f217 := Tryz.func72.trans (congrArg some (by kernel_rfl))
  f266 := Tryz.func102.trans (congrArg some (by kernel_rfl))
  t3 := Tryz.underlying3
  a3 := Tryz.isAgg3
  z3 := Tryz.sizeOf3
  v3 := Tryz.zeroValue3
  t5 := Tryz.underlying5
  a5 := Tryz.isAgg5
  z5 := Tryz.sizeOf5
  v5 := Tryz.zeroValue5
  t9 := Tryz.underlying9
  a9 := Tryz.isAgg9
  z9 := Tryz.sizeOf9
  v9 := Tryz.zeroValue9 }
def Tryz.laysM171_ren : Go.Shelf.Ren := ⟨fun | 171 => 69 | 243 => 100 | 246 => 140 | 283 => 185 | 284 => 186 | 285 => 187 | 286 => 188 | 129 => 169 | 317 => 212 | 318 => 213 | 319 => 214 | 320 => 215 | 337 => 229 | 338 => 230 | n => n, fun | 3 => 3 | 9 => 9 | 2 => 2 | 4 => 4 | 171 => 232 | 0 => 0 | 53 => 214 | 37 => 42 | 5 => 5 | 173 => 234 | 212 => 251 | 51 => 163 | 20 => 20 | 213 => 252 | 46 => 37 | 232 => 263 | 233 => 264 | n => n, fun | 17 => 4 | 18 => 5 | 19 => 6 | n => n⟩
theorem Tryz.laysM171 : Go.Proofs.LaysM.n171 Tryz.prog Tryz.laysM171_ren := {
  mixed := by kernel_rfl
  f129 := Tryz.func169.trans (congrArg some (by kernel_rfl))
  f171 := Tryz.func69.trans (congrArg some (by kernel_rfl))
  f243 := Tryz.func100.trans (congrArg some (by kernel_rfl))
  f246 := Tryz.func140.trans (congrArg some (by kernel_rfl))
  f283 := Tryz.func185.trans (congrArg some (by kernel_rfl))
  f284 := Tryz.func186.trans (congrArg some (by kernel_rfl))
  f285 := Tryz.func187.trans (congrArg some (by kernel_rfl))
  f286 := Tryz.func188.trans (congrArg some (by kernel_rfl))
  f317 := Tryz.func212.trans (congrArg some (by kernel_rfl))
  f318 := Tryz.func213.trans (congrArg some (by kernel_rfl))
  f319 := Tryz.func214.trans (congrArg some (by kernel_rfl))
  f320 := Tryz.func215.trans (congrArg some (by kernel_rfl))
  f337 := Tryz.func229.trans (congrArg some (by kernel_rfl))
  f338 := Tryz.func230.trans (congrArg some (by kernel_rfl))
  t0 := Tryz.underlying0
  a0 := Tryz.isAgg0
  z0 := Tryz.sizeOf0
  v0 := Tryz.zeroValue0
  t2 := Tryz.underlying2
  a2 := Tryz.isAgg2
  z2 := Tryz.sizeOf2
  v2 := Tryz.zeroValue2
  t3 := Tryz.underlying3
  a3 := Tryz.isAgg3
  z3 := Tryz.sizeOf3
  v3 := Tryz.zeroValue3
  t4 := Tryz.underlying4
  a4 := Tryz.isAgg4
  z4 := Tryz.sizeOf4
  v4 := Tryz.zeroValue4
  t5 := Tryz.underlying5
  a5 := Tryz.isAgg5
  z5 := Tryz.sizeOf5
  v5 := Tryz.zeroValue5
  t9 := Tryz.underlying9
  a9 := Tryz.isAgg9
  z9 := Tryz.sizeOf9
  v9 := Tryz.zeroValue9
  t20 := Tryz.underlying20
  a20 := Tryz.isAgg20
  z20 := Tryz.sizeOf20
  v20 := Tryz.zeroValue20
  t37 := Tryz.underlying42
  a37 := Tryz.isAgg42
  z37 := Tryz.sizeOf42
  v37 := Tryz.zeroValue42
  t46 := Tryz.underlying37
  a46 := Tryz.isAgg37
  z46 := Tryz.sizeOf37
  v46 := Tryz.zeroValue37
  t51 := Tryz.underlying163
  a51 := Tryz.isAgg163
  z51 := Tryz.sizeOf163
  v51 := Tryz.zeroValue163
  t53 := Tryz.underlying214
  a53 := Tryz.isAgg214
  z53 := Tryz.sizeOf214
  v53 := Tryz.zeroValue214
  t171 := Tryz.underlying232
  a171 := Tryz.isAgg232
  z171 := Tryz.sizeOf232
  v171 := Tryz.zeroValue232
  t173 := Tryz.underlying234
  a173 := Tryz.isAgg234
  z173 := Tryz.sizeOf234
  v173 := Tryz.zeroValue234
  t212 := Tryz.underlying251
  a212 := Tryz.isAgg251
  z212 := Tryz.sizeOf251
  v212 := Tryz.zeroValue251
  t213 := Tryz.underlying252
  a213 := Tryz.isAgg252
  z213 := Tryz.sizeOf252
  t232 := Tryz.underlying263
  a232 := Tryz.isAgg263
  z232 := Tryz.sizeOf263
  v232 := Tryz.zeroValue263
  t233 := Tryz.underlying264
  a233 := Tryz.isAgg264
  z233 := Tryz.sizeOf264
  v233 := Tryz.zeroValue264
  g17 := by kernel_rfl
  g18 := by kernel_rfl
  g19 := by kernel_rfl
  i0 := by kernel_rfl
  i2 := by kernel_rfl
  i3 := by kernel_rfl
  i4 := by kernel_rfl
  i5 := by kernel_rfl
  i9 := by kernel_rfl
  i20 := by kernel_rfl
  i37 := by kernel_rfl
  i46 := by kernel_rfl
  i51 := by kernel_rfl
  i53 := by kernel_rfl
  i171 := by kernel_rfl
  i173 := by kernel_rfl
  i212 := by kernel_rfl
  i232 := by kernel_rfl
  i233 := by kernel_rfl
  m17 := by kernel_rfl
  m18 := by kernel_rfl
  m19 := by kernel_rfl }
theorem Tryz.extra156 : Builder.Extra Tryz.prog Tryz.lays156_ren := {
  sizeBuilder := by kernel_rfl
  liesBuilder := by kernel_rfl
  t5 := Tryz.underlying5
  a5 := Tryz.isAgg5
  z5 := Tryz.sizeOf5
  v5 := Tryz.zeroValue5
  infoByte := by kernel_rfl
  cellsByte := by kernel_rfl
  sizeByte := by kernel_rfl
  neB5 := by decide }
end Go.Proofs
namespace Go.Proofs.YtfpfpnhpbnnmfadGreatDoor
open Go.RowKit
theorem join_any (bk o c : Nat) (xs : List ByteArray) (sep : ByteArray) (w : World) (hcells : ∀ (j : Nat) x, xs[j]? = some x → w.cell? ⟨bk, o + j, none⟩ = some (.string x)) (hbk : bk < w.heap.size) (hN : xs.length ≤ 140737488355328) (hcap : xs.length ≤ c) (hlen : (Lib.join (xs.map (·.data.toList)) sep.data.toList).length ≤ 140737488355328) :
    Calls Tryz.prog 178 #[.slice (some ⟨bk, o, none⟩) xs.length c, .string sep] w fun e w' => e = .returned (.string ⟨(Lib.join (xs.map (·.data.toList)) sep.data.toList).toArray⟩) ∧ Below w.heap.size w w' := Any.strings_Join Tryz.lays156 Tryz.extra156 bk o c xs sep w hcells hbk hN hcap hlen
theorem index_any (s : ByteArray) (c : Int) (w : World) :
    Calls Tryz.prog 189 #[.string s, .int .u8 c] w fun e w' => e = .returned (.int .i64 (Lib.indexByte s.data.toList c.toNat.toUInt8)) ∧ w' = w := Any.strings_IndexByte Tryz.lays137 s c w
/-- the library's table lies in the world -/
abbrev Tab (w : World) : Prop := Lib.TabIs Tryz.prog w "internal/strconv.uint64pow10" .u64 Lib.pow10Tab
theorem itoa_any (n : Int) (h0 : -9223372036854775808 ≤ n) (h1 : n ≤ 9223372036854775807) (w : World) (htab : Tab w) :
    Calls Tryz.prog 69 #[.int .i64 n] w fun e w' => e = .returned (.string ⟨(Lib.itoa n).toArray⟩) ∧ Below w.heap.size w w' := by
  refine (Any.strconv_Itoa Tryz.laysM171 n h0 h1 w htab).mono fun e w' ⟨he, k, os, hw⟩ => ⟨he, ?_⟩
  rw [hw]
  exact ⟨rfl, rfl, rfl, by simp [Sort.grow, World.drewN], fun j hj => by simp only [Sort.grow]; rw [Array.getElem?_append_left (by exact hj)]; rfl⟩
end Go.Proofs.YtfpfpnhpbnnmfadGreatDoor
