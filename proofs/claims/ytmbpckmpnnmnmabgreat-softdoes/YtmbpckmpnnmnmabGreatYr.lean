/-
  The reference's NewBed, with the row that it lays.
-/
import Derived.Test.YtmbpckmpnnmnmabGreatZz
import Derived.Test.YtmbpckmpnnmnmabGreatYl
import Derived.Test.YtmbpckmpnnmnmabGreatYn
import Derived.Test.YtmbpckmpnnmnmabGreatYd
import Derived.Test.YtmbpckmpnnmnmabGreatYo
import Derived.Test.YtmbpckmpnnmnmabGreatYk
import Derived.Test.YtmbpckmpnnmnmabGreatYf
import Derived.Test.YtmbpckmpnnmnmabGreatYm
import Derived.Test.YtmbpckmpnnmnmabGreatQWg
namespace Go.Proofs.YtmbpckmpnnmnmabGreat
open Go.RowKit
open Idl (Stp chk stpA)
namespace Sft
set_option maxHeartbeats 1000000 in
set_option maxRecDepth 100000 in
theorem newBed_row (w : World) : Calls Tryz.prog 13 #[] w fun e w' => ∃ g, e = .returned (.pointer (some ⟨g, 0, none⟩)) ∧ w.heap.size ≤ g ∧ w'.heap[g]? = some (.cells (blankCells ++ (blankCells ++ bedTail)) 48) ∧ Below w.heap.size w w' := by
  have hz := size_blank
  go_enter Tryz.func13, Tryz.ntmps13
  go_wp2_with fail
  refine (blank_any w).mono ?_
  rintro e w1 ⟨rfl, b1⟩
  have B1 := hide b1
  clear b1
  go_wp2_with fail
  refine (blank_any w1).mono ?_
  rintro e w2 ⟨rfl, b2⟩
  have B2 := hide ((unhide B1).trans (b2.mono (unhide B1).size))
  clear b2
  go_wp2_with (refine wpList_build_two rfl 48 _ _ rfl blankCells blankCells (blankCells ++ (blankCells ++ bedTail)) rfl rfl (built_bed hz hz) ?_)
  go_ret
  exact ⟨_, rfl, (unhide B2).size, heap_alloc_last _ _, (unhide B2).alloc (unhide B2).size _⟩
end Sft
/-- what any step leaves of what is to be, of the disk and of the last Stamp -/
def Img.anow (m k : Img) (last : Int) (x : Stp) : Img := if x.kind = 7 ∨ x.kind = 8 ∨ x.kind = 9 then m else Img.sstep m k last x
def Img.alast (m k : Img) (last : Int) (x : Stp) : Int := if x.kind = 7 ∨ x.kind = 8 ∨ x.kind = 9 then last else Img.slast m k last x
def Img.adisk (m k : Img) (x : Stp) : Img := if x.kind = 7 ∨ x.kind = 8 ∨ x.kind = 9 then Img.sdisk m k x else k
section
variable {w W W' : World} {bf bc gb : Nat} {m k : Img} {last : Int}
end
end Go.Proofs.YtmbpckmpnnmnmabGreat
namespace Go.Proofs.YtmbpckmpnnmnmabGreat
open Go.RowKit
open Idl (Stp chk stpA)
/-- a bed: what is to be, what lies there, the last Stamp -/
def BedIs (W : World) (g : Nat) (m k : Img) (last : Int) : Prop := ∃ cs ds t1 t2 t3 t4, W.heap[g]? = some (.cells (cs ++ (ds ++ Sft.btl last t1 t2 t3 t4)) 48) ∧ IsImg cs m ∧ IsImg ds k
theorem BedIs.lt {W : World} {g : Nat} {m k : Img} {last : Int} (h : BedIs W g m k last) : g < W.heap.size := by
  obtain ⟨cs, ds, t1, t2, t3, t4, h, _⟩ := h
  exact (Array.getElem?_eq_some_iff.1 h).1
theorem BedIs.keep {W W' : World} {g : Nat} {m k : Img} {last : Int} (h : BedIs W g m k last) (e : W'.heap[g]? = W.heap[g]?) : BedIs W' g m k last := by
  obtain ⟨cs, ds, t1, t2, t3, t4, h, r⟩ := h
  exact ⟨cs, ds, t1, t2, t3, t4, e.trans h, r⟩
theorem BedIs.has {W : World} {g : Nat} {m k : Img} {last : Int} (h : BedIs W g m k last) : HasAt W g 0 m ∧ HasAt W g 94 k := by
  obtain ⟨cs, ds, t1, t2, t3, t4, h, hm, hk⟩ := h
  exact ⟨(Bm.start h).has hm, (Bm.start h).hasD hm hk⟩
/-- files and a bed beside each other -/
structure Fz (w : World) (bf bc gb : Nat) (m k : Img) (last : Int) (mb kb : Img) (lb : Int) (W : World) : Prop where
  fo : Fo w bf bc m k last W
  bed : BedIs W gb mb kb lb
  b0 : w.heap.size ≤ gb
  nf : gb ≠ bf
  nc : gb ≠ bc
section
variable {w W W' W2 : World} {bf bc gb : Nat} {m k k' m' mb kb mb' kb' : Img} {last last' lb lb' : Int}
theorem Fz.call (h : Fz w bf bc gb m k last mb kb lb W) (hb : Below W.heap.size W W') : Fz w bf bc gb m k last mb kb lb W' :=
  ⟨h.fo.call hb, h.bed.keep (hb.block _ h.bed.lt), h.b0, h.nf, h.nc⟩
theorem Fz.fmut (h : Fz w bf bc gb m k last mb kb lb W) (hf : Fo w bf bc m k' last W') (hm : ∃ c, Mut W W' bc c 57) : Fz w bf bc gb m k' last mb kb lb W' ∧ Oth bf bc gb W W' ∧ W.heap.size ≤ W'.heap.size := by
  obtain ⟨c, hm⟩ := hm
  exact ⟨⟨hf, h.bed.keep (hm.old _ h.bed.lt h.nc), h.b0, h.nf, h.nc⟩, fun j hj _ a _ => hm.old j hj a, hm.size⟩
theorem Fz.bmut (h : Fz w bf bc gb m k last mb kb lb W) (hb : BedIs W' gb mb' kb' lb') {c : Array Value} (hm : Mut W W' gb c 48) : Fz w bf bc gb m k last mb' kb' lb' W' ∧ Oth bf bc gb W W' ∧ W.heap.size ≤ W'.heap.size := by
  obtain ⟨cs, ds, f⟩ := h.fo.it
  exact ⟨⟨⟨⟨cs, ds, f.keep (hm.old _ f.flt (Ne.symm h.nf)) (hm.old _ f.clt (Ne.symm h.nc))⟩, h.fo.bel.trans (hm.below _ h.b0 h.fo.bel.size), h.fo.f0, h.fo.c0⟩, hb, h.b0, h.nf, h.nc⟩, fun j hj _ _ a => hm.old j hj a, hm.size⟩
theorem Fz.chg (h : Fz w bf bc gb m k last mb kb lb W) (hf : Fo w bf bc m' k' last' W') (hc : Idl.Chg (fun i => i = bf ∨ i = bc) W W') : Fz w bf bc gb m' k' last' mb kb lb W' ∧ Oth bf bc gb W W' ∧ W.heap.size ≤ W'.heap.size :=
  ⟨⟨hf, h.bed.keep (hc.block _ h.bed.lt (fun z => z.elim h.nf h.nc)), h.b0, h.nf, h.nc⟩, fun j hj a b _ => hc.block j hj (fun z => z.elim a b), hc.size⟩
theorem Fz.chgB (h : Fz w bf bc gb m k last mb kb lb W) (hc : Idl.Chg (fun i => i = gb) W W') (hb : BedIs W' gb mb' kb' lb') : Fz w bf bc gb m k last mb' kb' lb' W' := by
  obtain ⟨cs, ds, f⟩ := h.fo.it
  exact ⟨⟨⟨cs, ds, f.keep (hc.block _ f.flt (Ne.symm h.nf)) (hc.block _ f.clt (Ne.symm h.nc))⟩, h.fo.bel.trans (hc.below h.fo.bel.size (fun i hi => by rw [hi]; exact h.b0)), h.fo.f0, h.fo.c0⟩, hb, h.b0, h.nf, h.nc⟩
theorem zWrite (h : Fz w bf bc gb m k last mb kb lb W) (b : Int) : Calls Tryz.prog 49 #[.pointer (some ⟨gb, 0, none⟩), .int .i64 b] W fun e w' => e = .returned (.bool (Img.inB b)) ∧ Fz w bf bc gb m k last mb (Img.write mb kb b) lb w' ∧ Oth bf bc gb W w' ∧ W.heap.size ≤ w'.heap.size := by
  obtain ⟨cs, ds, t1, t2, t3, t4, hr, h1, h2⟩ := h.bed
  refine (bWrite_any gb cs ds _ mb kb h1 h2 b W hr).mono ?_
  rintro e w' ⟨es, rfl, h3, hm⟩
  exact ⟨rfl, h.bmut ⟨cs, es, t1, t2, t3, t4, hm.row, h1, h3⟩ hm⟩
theorem zSync (h : Fz w bf bc gb m k last mb kb lb W) : Calls Tryz.prog 50 #[.pointer (some ⟨gb, 0, none⟩)] W fun e w' => e = .returned (.int .i64 ((Img.syn mb 8 kb).1 : Nat)) ∧ Fz w bf bc gb m k last mb (Img.syn mb 8 kb).2 lb w' ∧ Oth bf bc gb W w' ∧ W.heap.size ≤ w'.heap.size := by
  obtain ⟨cs, ds, t1, t2, t3, t4, hr, h1, h2⟩ := h.bed
  refine (bSync_any gb cs ds _ mb kb h1 h2 W hr).mono ?_
  rintro e w' ⟨es, rfl, h3, hm⟩
  exact ⟨rfl, h.bmut ⟨cs, es, t1, t2, t3, t4, hm.row, h1, h3⟩ hm⟩
theorem zFiles (h : Fz w bf bc gb m k last mb kb lb W) (hG : Img.Good mb lb) (hla : lb < 4611686018427387904) (x : Stp) (hn : x.name.size ≤ maxLen) (ht : x.to.size ≤ maxLen) (hx : x.text.size ≤ maxLen) : Calls Tryz.prog 51 #[.pointer (some ⟨gb, 0, none⟩), .agg (stpA x)] W fun e w' => e = .returned (.int .i64 (Img.scode mb kb x)) ∧ Fz w bf bc gb m k last (Img.sstep mb kb lb x) kb (Img.slast mb kb lb x) w' ∧ ∀ j, j < W.heap.size → j ≠ gb → w'.heap[j]? = W.heap[j]? := by
  obtain ⟨cs, ds, t1, t2, t3, t4, hr, h1, h2⟩ := h.bed
  refine (files0_any hr h1 h2 hG hla x hn ht hx).mono ?_
  rintro e w' ⟨rfl, cs', hb, h3⟩
  exact ⟨rfl, h.chgB hb.chg ⟨cs', ds, t1, t2, t3, t4, hb.row, h3, h2⟩, fun j hj hne => hb.chg.block j hj hne⟩
set_option maxHeartbeats 4000000 in
set_option maxRecDepth 100000 in
theorem softStepZ_seven (h : Fz w bf bc gb m k last m k last W) {gq : Nat} {oq : Obj} (hq : W.heap[gq]? = some oq) (nq : gq ≠ bf ∧ gq ≠ bc ∧ gq ≠ gb) (x : Stp) (h7 : x.kind = 7) :
    Calls Tryz.prog 17 #[.pointer (some ⟨bf, 0, none⟩), .pointer (some ⟨gb, 0, none⟩), .agg (stpA x)] W fun e w' => e = .returned (.bool true) ∧ Fz w bf bc gb m (Img.write m k x.p) last m (Img.write m k x.p) last w' ∧ w'.heap[gq]? = some oq := by
  obtain ⟨kind, dir, toDir, p, name, tu, text⟩ := x
  dsimp only at h7 ⊢
  subst h7
  have BL := hide (show Below W.heap.size W (W.alloc (.cells (stpA ⟨7, dir, toDir, p, name, tu, text⟩) 37)) from (Below.refl _ W).alloc (Nat.le_refl _) _)
  have H0 := hide (h.call (unhide BL))
  have GB := hide (show W.heap.size ≠ bf ∧ W.heap.size ≠ bc ∧ W.heap.size ≠ gb from ⟨by have := h.fo.cells.2.1; omega, by have := h.fo.cells.2.2.1; omega, by have := h.bed.lt; omega⟩)
  have RX := hide (heap_alloc_last W (.cells (stpA ⟨7, dir, toDir, p, name, tu, text⟩) 37))
  have NQ := hide nq
  have Q0 := hide (show (W.alloc (.cells (stpA ⟨7, dir, toDir, p, name, tu, text⟩) 37)).heap[gq]? = some oq by rw [heap_alloc_old _ _ (Array.getElem?_eq_some_iff.1 hq).1]; exact hq)
  clear h hq nq
  go_enter Tryz.func17, Tryz.ntmps17
  go_wp2_with fail
  generalize W.heap.size = g0 at *
  generalize W.alloc (.cells (stpA ⟨7, dir, toDir, p, name, tu, text⟩) 37) = W1 at *
  have H1 := hide ((unhide H0).call (Below.refl W1.heap.size W1).drew)
  have R1 : W1.drew.heap[g0]? = some (.cells (stpA ⟨7, dir, toDir, p, name, tu, text⟩) 37) := unhide RX
  have Q1 : Hid (W1.drew.heap[gq]? = some oq) := Q0
  refine wp_region_held_drew (S := fun W => W.cell? ⟨bf, 0, none⟩ = some (.pointer (some ⟨bc, 0, none⟩)) ∧ W.cell? ⟨g0, 3, none⟩ = some (.int .i64 p)) (by kernel_rfl) (⟨(unhide H1).fo.cells.1, by rw [cell_of_row _ g0 3 _ _ _ R1]; rfl⟩) (fun hS => ?_)
  refine tkP (i := 0) (oi := ⟨some 11, .move (.tmp 0), 42, "law05.go:28", #[], none⟩) (v := .pointer (some ⟨bf, 0, none⟩)) hS ?_
  try simp only [Act.put, z1, z2, z3]
  refine tkP (i := 1) (oi := ⟨some 12, .nilCheck (.tmp 11), 0, "law05.go:28", #[⟨0, .data⟩], none⟩) (v := .pointer (some ⟨bf, 0, none⟩)) hS ?_
  try simp only [Act.put, z1, z2, z3]
  refine tkP (i := 2) (oi := ⟨some 13, .fieldAddr 55 (.tmp 12) 0, 0, "law05.go:28", #[⟨1, .data⟩], none⟩) (v := .pointer (some ⟨bf, 0, none⟩)) hS ?_
  try simp only [Act.put, z1, z2, z3]
  refine tkH (i := 3) (oi := ⟨some 14, .load 53 (.tmp 13), 53, "law05.go:28", #[⟨2, .data⟩], none⟩) (v := .pointer (some ⟨bc, 0, none⟩)) (fun W h => Op1.ld_ptr (.tmp 13) (by kernel_rfl) (by kernel_rfl) W (h.1)) hS ?_
  try simp only [Act.put, z1, z2, z3]
  refine tkP (i := 4) (oi := ⟨some 15, .fieldAddr 37 (.tmp 5) 3, 0, "law05.go:28", #[], none⟩) (v := .pointer (some ⟨g0, 3, none⟩)) hS ?_
  try simp only [Act.put, z1, z2, z3]
  refine tkH (i := 5) (oi := ⟨some 16, .load 3 (.tmp 15), 3, "law05.go:28", #[⟨4, .data⟩], none⟩) (v := .int .i64 p) (fun W h => Op1.ld_int (.tmp 15) (by kernel_rfl) (by kernel_rfl) W (h.2)) hS ?_
  try simp only [Act.put, z1, z2, z3]
  refine tkP (i := 7) (oi := ⟨some 18, .move (.tmp 1), 44, "law05.go:28", #[], none⟩) (v := .pointer (some ⟨gb, 0, none⟩)) hS ?_
  try simp only [Act.put, z1, z2, z3]
  refine tkP (i := 8) (oi := ⟨some 19, .fieldAddr 37 (.tmp 5) 3, 0, "law05.go:28", #[], none⟩) (v := .pointer (some ⟨g0, 3, none⟩)) hS ?_
  try simp only [Act.put, z1, z2, z3]
  refine tkH (i := 9) (oi := ⟨some 20, .load 3 (.tmp 19), 3, "law05.go:28", #[⟨8, .data⟩], none⟩) (v := .int .i64 p) (fun W h => Op1.ld_int (.tmp 19) (by kernel_rfl) (by kernel_rfl) W (h.2)) hS ?_
  try simp only [Act.put, z1, z2, z3]
  refine wpAnyH_ready (rs := [6]) (by kernel_rfl) (by simp) ?_
  refine AllReadyH.cons (o := ⟨some 17, .call { callee := .value (.func 28), args := #[.tmp 14, .tmp 16], argTypes := #[53, 3] }, 4, "law05.go:28", #[⟨3, .data⟩, ⟨5, .data⟩], none⟩) rfl (fun K hK => ?_) AllReadyH.nil
  rw [if_pos (by kernel_rfl)]
  go_simp
  refine ((unhide H1).fo.write p).mono ?_
  rintro e w2 ⟨rfl, f2, m2⟩
  obtain ⟨q2, o2, s2⟩ := (unhide H1).fmut f2 m2
  have H2 := hide q2
  have R2 : w2.heap[g0]? = some (.cells (stpA ⟨7, dir, toDir, p, name, tu, text⟩) 37) := by rw [o2 g0 (Array.getElem?_eq_some_iff.1 R1).1 (unhide GB).1 (unhide GB).2.1 (unhide GB).2.2]; exact R1
  have Q2 := hide (show w2.heap[gq]? = some oq by rw [o2 gq (Array.getElem?_eq_some_iff.1 (unhide Q1)).1 (unhide NQ).1 (unhide NQ).2.1 (unhide NQ).2.2]; exact unhide Q1)
  clear q2 o2 s2 f2 m2
  go_wp2_with fail
  refine hK.out _ _ ((⟨(unhide H2).fo.cells.1, by rw [cell_of_row _ g0 3 _ _ _ R2]; rfl⟩ : (fun W => W.cell? ⟨bf, 0, none⟩ = some (.pointer (some ⟨bc, 0, none⟩)) ∧ W.cell? ⟨g0, 3, none⟩ = some (.int .i64 p)) w2)) (fun hS2 => ?_)
  clear hK K
  try simp only [Act.put, z1, z2, z3]
  refine wpAnyH_ready (rs := [10]) (by kernel_rfl) (by simp) ?_
  refine AllReadyH.cons (o := ⟨some 21, .call { callee := .value (.func 49), args := #[.tmp 18, .tmp 20], argTypes := #[44, 3] }, 4, "law05.go:28", #[⟨7, .data⟩, ⟨9, .data⟩, ⟨6, .chain⟩], none⟩) rfl (fun K hK => ?_) AllReadyH.nil
  rw [if_pos (by kernel_rfl)]
  go_simp
  refine (zWrite (unhide H2) p).mono ?_
  rintro e w3 ⟨rfl, q3, o3, s3⟩
  have H3 := hide q3
  have R3 : w3.heap[g0]? = some (.cells (stpA ⟨7, dir, toDir, p, name, tu, text⟩) 37) := by rw [o3 g0 (Array.getElem?_eq_some_iff.1 R2).1 (unhide GB).1 (unhide GB).2.1 (unhide GB).2.2]; exact R2
  have Q3 := hide (show w3.heap[gq]? = some oq by rw [o3 gq (Array.getElem?_eq_some_iff.1 (unhide Q2)).1 (unhide NQ).1 (unhide NQ).2.1 (unhide NQ).2.2]; exact unhide Q2)
  clear q3 o3 s3
  go_wp2_with fail
  refine hK.out _ _ ((⟨(unhide H3).fo.cells.1, by rw [cell_of_row _ g0 3 _ _ _ R3]; rfl⟩ : (fun W => W.cell? ⟨bf, 0, none⟩ = some (.pointer (some ⟨bc, 0, none⟩)) ∧ W.cell? ⟨g0, 3, none⟩ = some (.int .i64 p)) w3)) (fun hS3 => ?_)
  clear hK K
  try simp only [Act.put, z1, z2, z3]
  refine tkP (i := 11) (oi := ⟨some 22, .binOp .eql 4 (.tmp 17) (.tmp 21) 4, 4, "law05.go:28", #[⟨6, .data⟩, ⟨10, .data⟩], none⟩) (v := .bool (Img.inB p == Img.inB p)) hS3 ?_
  try simp only [Act.put, z1, z2, z3]
  refine tkP (i := 12) (oi := ⟨some 6, .assign (.tmp 22), 4, "law05.go:28", #[⟨11, .data⟩, ⟨10, .chain⟩, ⟨0, .phase⟩, ⟨1, .phase⟩, ⟨2, .phase⟩, ⟨3, .phase⟩, ⟨4, .phase⟩, ⟨5, .phase⟩, ⟨6, .phase⟩, ⟨7, .phase⟩, ⟨8, .phase⟩, ⟨9, .phase⟩, ⟨10, .phase⟩, ⟨11, .phase⟩], none⟩) (v := .bool (Img.inB p == Img.inB p)) hS3 ?_
  try simp only [Act.put, z1, z2, z3]
  refine wpAnyH_done (by kernel_rfl) ?_ _
  have EQ : (Img.inB p == Img.inB p) = true := by simp
  rw [EQ]
  go_wp2_with fail
  go_ret
  exact ⟨rfl, unhide H3, unhide Q3⟩
set_option maxHeartbeats 4000000 in
set_option maxRecDepth 100000 in
theorem softStepZ_eight (h : Fz w bf bc gb m k last m k last W) {gq : Nat} {oq : Obj} (hq : W.heap[gq]? = some oq) (nq : gq ≠ bf ∧ gq ≠ bc ∧ gq ≠ gb) (x : Stp) (h7 : x.kind = 8) :
    Calls Tryz.prog 17 #[.pointer (some ⟨bf, 0, none⟩), .pointer (some ⟨gb, 0, none⟩), .agg (stpA x)] W fun e w' => e = .returned (.bool true) ∧ Fz w bf bc gb m (Img.syn m 8 k).2 last m (Img.syn m 8 k).2 last w' ∧ w'.heap[gq]? = some oq := by
  obtain ⟨kind, dir, toDir, p, name, tu, text⟩ := x
  dsimp only at h7 ⊢
  subst h7
  have H0 := hide (h.call ((Below.refl W.heap.size W).alloc (Nat.le_refl _) (.cells (stpA ⟨8, dir, toDir, p, name, tu, text⟩) 37)))
  have NQ := hide nq
  have Q0 := hide (show (W.alloc (.cells (stpA ⟨8, dir, toDir, p, name, tu, text⟩) 37)).heap[gq]? = some oq by rw [heap_alloc_old _ _ (Array.getElem?_eq_some_iff.1 hq).1]; exact hq)
  clear h hq nq
  go_enter Tryz.func17, Tryz.ntmps17
  obtain ⟨p0, l0, l1, _, _⟩ := (unhide H0).fo.cells
  go_wp2_with fail
  refine ((unhide H0).fo.sync).mono ?_
  rintro e w2 ⟨rfl, f2, m2⟩
  have H2 := hide ((unhide H0).fmut f2 m2).1
  have Q2 := hide (show w2.heap[gq]? = some oq by rw [((unhide H0).fmut f2 m2).2.1 gq (Array.getElem?_eq_some_iff.1 (unhide Q0)).1 (unhide NQ).1 (unhide NQ).2.1 (unhide NQ).2.2]; exact unhide Q0)
  have Z2 := hide (zSync (unhide H2))
  clear f2 m2 p0 l0 l1
  have EQ : (((Img.syn m 8 k).1 : Int) == ((Img.syn m 8 k).1 : Int)) = true := by simp
  generalize ((Img.syn m 8 k).1 : Int) = nn at EQ Z2 ⊢
  go_wp2_with fail
  refine (unhide Z2).mono ?_
  rintro e w3 ⟨rfl, q3, o3, _⟩
  have H3 := hide q3
  have Q3 := hide (show w3.heap[gq]? = some oq by rw [o3 gq (Array.getElem?_eq_some_iff.1 (unhide Q2)).1 (unhide NQ).1 (unhide NQ).2.1 (unhide NQ).2.2]; exact unhide Q2)
  clear q3 o3
  go_wp2_with fail
  go_ret
  exact ⟨rfl, unhide H3, unhide Q3⟩
set_option maxHeartbeats 4000000 in
set_option maxRecDepth 100000 in
theorem softStepZ_nine (h : Fz w bf bc gb m k last m k last W) {gq : Nat} {oq : Obj} (hq : W.heap[gq]? = some oq) (x : Stp) (h7 : x.kind = 9) :
    Calls Tryz.prog 17 #[.pointer (some ⟨bf, 0, none⟩), .pointer (some ⟨gb, 0, none⟩), .agg (stpA x)] W fun e w' => e = .returned (.bool true) ∧ Fz w bf bc gb m k last m k last w' ∧ w'.heap[gq]? = some oq := by
  obtain ⟨kind, dir, toDir, p, name, tu, text⟩ := x
  dsimp only at h7 ⊢
  subst h7
  have H0 := hide (h.call ((Below.refl W.heap.size W).alloc (Nat.le_refl _) (.cells (stpA ⟨9, dir, toDir, p, name, tu, text⟩) 37)))
  have Q0 := hide (show (W.alloc (.cells (stpA ⟨9, dir, toDir, p, name, tu, text⟩) 37)).heap[gq]? = some oq by rw [heap_alloc_old _ _ (Array.getElem?_eq_some_iff.1 hq).1]; exact hq)
  clear h hq
  go_enter Tryz.func17, Tryz.ntmps17
  go_wp2_with fail
  go_ret
  exact ⟨rfl, unhide H0, unhide Q0⟩
theorem Sft.step_cellsZ : (Tryz.prog.info? 37).map (·.size) = some 7 := by kernel_rfl
theorem Sft.step_structZ : Tryz.prog.underlying 37 = some (.struct (Tryz.prog.fieldsOf 37)) := by kernel_rfl
set_option maxHeartbeats 4000000 in
set_option maxRecDepth 100000 in
theorem softStepZ_file (h : Fz w bf bc gb m k last m k last W) {gq : Nat} {oq : Obj} (hq : W.heap[gq]? = some oq) (nq : gq ≠ bf ∧ gq ≠ bc ∧ gq ≠ gb) (hG : Img.Good m last) (hla : last < 4611686018427387904) (x : Stp) (hn : x.name.size ≤ maxLen) (ht : x.to.size ≤ maxLen) (hx : x.text.size ≤ maxLen) (hk : x.kind ≠ 7 ∧ x.kind ≠ 8 ∧ x.kind ≠ 9) :
    Calls Tryz.prog 17 #[.pointer (some ⟨bf, 0, none⟩), .pointer (some ⟨gb, 0, none⟩), .agg (stpA x)] W fun e w' => e = .returned (.bool true) ∧ Fz w bf bc gb (Img.sstep m k last x) k (Img.slast m k last x) (Img.sstep m k last x) k (Img.slast m k last x) w' ∧ w'.heap[gq]? = some oq := by
  have BL := hide (show Below W.heap.size W (W.alloc (.cells (stpA x) 37)) from (Below.refl _ W).alloc (Nat.le_refl _) _)
  have H0 := hide (h.call (unhide BL))
  have GB := hide (show W.heap.size ≠ bf ∧ W.heap.size ≠ bc ∧ W.heap.size ≠ gb from ⟨by have := h.fo.cells.2.1; omega, by have := h.fo.cells.2.2.1; omega, by have := h.bed.lt; omega⟩)
  have RX := hide (heap_alloc_last W (.cells (stpA x) 37))
  have NQ := hide nq
  have Q0 := hide (show (W.alloc (.cells (stpA x) 37)).heap[gq]? = some oq by rw [heap_alloc_old _ _ (Array.getElem?_eq_some_iff.1 hq).1]; exact hq)
  have DO := hide fun W' (f : Fo w bf bc m k last W') => f.step hG hla x hn ht hx
  have FI := hide fun (W' : World) (q : Fz w bf bc gb (Img.sstep m k last x) k (Img.slast m k last x) m k last W') => zFiles q hG hla x hn ht hx
  obtain ⟨kind, dir, toDir, p, name, tu, text⟩ := x
  dsimp only at hk
  have k7 : (kind == 7) = false := by simpa using hk.1
  have k8 : (kind == 8) = false := by simpa using hk.2.1
  have k9 : (kind == 9) = false := by simpa using hk.2.2
  generalize Img.sstep m k last ⟨kind, dir, toDir, p, name, tu, text⟩ = m1 at DO FI ⊢
  generalize Img.slast m k last ⟨kind, dir, toDir, p, name, tu, text⟩ = la1 at DO FI ⊢
  generalize Img.scode m k ⟨kind, dir, toDir, p, name, tu, text⟩ = cd at DO FI
  simp only [stpA] at DO FI H0 BL RX Q0 ⊢
  clear h hq nq hk hG hla hn ht hx
  go_enter Tryz.func17, Tryz.ntmps17
  go_wp2_with fail
  generalize W.heap.size = g0 at *
  generalize W.alloc (.cells #[.int .i64 kind, .int .i64 dir, .int .i64 toDir, .int .i64 p, .string name, .string tu, .string text] 37) = W1 at *
  have H1 := hide ((unhide H0).call (Below.refl W1.heap.size W1).drew)
  have R1 : W1.drew.heap[g0]? = some (.cells #[.int .i64 kind, .int .i64 dir, .int .i64 toDir, .int .i64 p, .string name, .string tu, .string text] 37) := unhide RX
  have Q1 : Hid (W1.drew.heap[gq]? = some oq) := Q0
  clear H0 RX
  refine wp_region_held_drew (S := fun W' => W'.heap[g0]? = some (.cells #[.int .i64 kind, .int .i64 dir, .int .i64 toDir, .int .i64 p, .string name, .string tu, .string text] 37)) (by kernel_rfl) (R1) (fun hS => ?_)
  refine tkP (i := 0) (oi := ⟨some 35, .move (.tmp 0), 42, "law05.go:34", #[], none⟩) (v := .pointer (some ⟨bf, 0, none⟩)) hS ?_
  try simp only [Act.put, z1, z2, z3]
  refine tkH (i := 1) (oi := ⟨some 36, .load 37 (.tmp 5), 37, "law05.go:34", #[], none⟩) (v := .agg #[.int .i64 kind, .int .i64 dir, .int .i64 toDir, .int .i64 p, .string name, .string tu, .string text]) (fun W h => run_exec_load_part 37 (.tmp 5) (by kernel_rfl) g0 0 7 (by kernel_rfl) W 37 #[.int .i64 kind, .int .i64 dir, .int .i64 toDir, .int .i64 p, .string name, .string tu, .string text] #[.int .i64 kind, .int .i64 dir, .int .i64 toDir, .int .i64 p, .string name, .string tu, .string text] _ h Sft.step_structZ rfl Sft.step_cellsZ (by simp) (by rfl)) hS ?_
  try simp only [Act.put, z1, z2, z3]
  refine tkP (i := 3) (oi := ⟨some 38, .move (.tmp 1), 44, "law05.go:34", #[], none⟩) (v := .pointer (some ⟨gb, 0, none⟩)) hS ?_
  try simp only [Act.put, z1, z2, z3]
  refine tkH (i := 4) (oi := ⟨some 39, .load 37 (.tmp 5), 37, "law05.go:34", #[], none⟩) (v := .agg #[.int .i64 kind, .int .i64 dir, .int .i64 toDir, .int .i64 p, .string name, .string tu, .string text]) (fun W h => run_exec_load_part 37 (.tmp 5) (by kernel_rfl) g0 0 7 (by kernel_rfl) W 37 #[.int .i64 kind, .int .i64 dir, .int .i64 toDir, .int .i64 p, .string name, .string tu, .string text] #[.int .i64 kind, .int .i64 dir, .int .i64 toDir, .int .i64 p, .string name, .string tu, .string text] _ h Sft.step_structZ rfl Sft.step_cellsZ (by simp) (by rfl)) hS ?_
  try simp only [Act.put, z1, z2, z3]
  refine wpAnyH_ready (rs := [2]) (by kernel_rfl) (by simp) ?_
  refine AllReadyH.cons (o := ⟨some 37, .call { callee := .value (.func 30), args := #[.tmp 35, .tmp 36], argTypes := #[42, 37] }, 3, "law05.go:34", #[⟨0, .data⟩, ⟨1, .data⟩], none⟩) rfl (fun K hK => ?_) AllReadyH.nil
  rw [if_pos (by kernel_rfl)]
  go_simp
  refine (unhide DO _ (unhide H1).fo).mono ?_
  rintro e w2 ⟨rfl, f2, c2⟩
  obtain ⟨h2, o2, s2⟩ := (unhide H1).chg f2 c2
  have H2 := hide h2
  have R2 : w2.heap[g0]? = some (.cells #[.int .i64 kind, .int .i64 dir, .int .i64 toDir, .int .i64 p, .string name, .string tu, .string text] 37) := by rw [o2 g0 (Array.getElem?_eq_some_iff.1 R1).1 (unhide GB).1 (unhide GB).2.1 (unhide GB).2.2]; exact R1
  have Q2 := hide (show w2.heap[gq]? = some oq by rw [o2 gq (Array.getElem?_eq_some_iff.1 (unhide Q1)).1 (unhide NQ).1 (unhide NQ).2.1 (unhide NQ).2.2]; exact unhide Q1)
  clear h2 o2 s2 f2 c2
  go_wp2_with fail
  refine hK.out _ _ (R2) (fun hS2 => ?_)
  clear hK K
  try simp only [Act.put, z1, z2, z3]
  refine wpAnyH_ready (rs := [5]) (by kernel_rfl) (by simp) ?_
  refine AllReadyH.cons (o := ⟨some 40, .call { callee := .value (.func 51), args := #[.tmp 38, .tmp 39], argTypes := #[44, 37] }, 3, "law05.go:34", #[⟨3, .data⟩, ⟨4, .data⟩, ⟨2, .chain⟩], none⟩) rfl (fun K hK => ?_) AllReadyH.nil
  rw [if_pos (by kernel_rfl)]
  go_simp
  refine (unhide FI _ (unhide H2)).mono ?_
  rintro e w3 ⟨rfl, q3, o3⟩
  have R3 : w3.heap[g0]? = some (.cells #[.int .i64 kind, .int .i64 dir, .int .i64 toDir, .int .i64 p, .string name, .string tu, .string text] 37) := by rw [o3 g0 (Array.getElem?_eq_some_iff.1 R2).1 (unhide GB).2.2]; exact R2
  have F3 := hide q3
  have Q3 := hide (show w3.heap[gq]? = some oq by rw [o3 gq (Array.getElem?_eq_some_iff.1 (unhide Q2)).1 (unhide NQ).2.2]; exact unhide Q2)
  clear q3 o3
  go_wp2_with fail
  refine hK.out _ _ (R3) (fun hS3 => ?_)
  clear hK K
  try simp only [Act.put, z1, z2, z3]
  refine tkP (i := 6) (oi := ⟨some 41, .binOp .eql 3 (.tmp 37) (.tmp 40) 3, 4, "law05.go:34", #[⟨2, .data⟩, ⟨5, .data⟩], none⟩) (v := .bool (cd == cd)) hS3 ?_
  try simp only [Act.put, z1, z2, z3]
  refine tkP (i := 7) (oi := ⟨some 6, .assign (.tmp 41), 4, "law05.go:34", #[⟨6, .data⟩, ⟨5, .chain⟩, ⟨0, .phase⟩, ⟨1, .phase⟩, ⟨2, .phase⟩, ⟨3, .phase⟩, ⟨4, .phase⟩, ⟨5, .phase⟩, ⟨6, .phase⟩], none⟩) (v := .bool (cd == cd)) hS3 ?_
  try simp only [Act.put, z1, z2, z3]
  refine wpAnyH_done (by kernel_rfl) ?_ _
  have EQ : (cd == cd) = true := by simp
  rw [EQ]
  go_wp2_with fail
  go_ret
  exact ⟨rfl, unhide F3, unhide Q3⟩
theorem softStepZ (h : Fz w bf bc gb m k last m k last W) {gq : Nat} {oq : Obj} (hq : W.heap[gq]? = some oq) (nq : gq ≠ bf ∧ gq ≠ bc ∧ gq ≠ gb) (hG : Img.Good m last) (hla : last < 4611686018427387904) (x : Stp) (hn : x.name.size ≤ maxLen) (ht : x.to.size ≤ maxLen) (hx : x.text.size ≤ maxLen) :
    Calls Tryz.prog 17 #[.pointer (some ⟨bf, 0, none⟩), .pointer (some ⟨gb, 0, none⟩), .agg (stpA x)] W fun e w' => e = .returned (.bool true) ∧ Fz w bf bc gb (Img.anow m k last x) (Img.adisk m k x) (Img.alast m k last x) (Img.anow m k last x) (Img.adisk m k x) (Img.alast m k last x) w' ∧ w'.heap[gq]? = some oq := by
  unfold Img.anow Img.adisk Img.alast
  by_cases hk : x.kind = 7 ∨ x.kind = 8 ∨ x.kind = 9
  · rw [if_pos hk, if_pos hk, if_pos hk]
    unfold Img.sdisk
    rcases hk with e | e | e
    · rw [if_pos e]; exact softStepZ_seven h hq nq x e
    · rw [if_neg (by omega), if_pos e]; exact softStepZ_eight h hq nq x e
    · rw [if_neg (by omega), if_neg (by omega)]; exact softStepZ_nine h hq x e
  · rw [if_neg hk, if_neg hk, if_neg hk]
    exact softStepZ_file h hq nq hG hla x hn ht hx ⟨fun z => hk (.inl z), fun z => hk (.inr (.inl z)), fun z => hk (.inr (.inr z))⟩
end
end Go.Proofs.YtmbpckmpnnmnmabGreat
namespace Go.Proofs.YtmbpckmpnnmnmabGreat
open Go.RowKit
open Idl (Stp chk stpA)
namespace Sft
theorem Steps.gen {w : World} {v : Value} {L : List Stp} (hs : Idl.Steps w v L) : ∃ a c, v = .slice a L.length c ∧ ∀ i (hi : i < L.length), ∃ g o, a = some ⟨g, o, none⟩ ∧ g < w.heap.size ∧ ∀ W, Below w.heap.size w W → ∀ j u, (stpA L[i])[j]? = some u → W.cell? ⟨g, o + i * 7 + j, none⟩ = some u := by
  rcases hs.form with ⟨rfl, a, c, rfl⟩ | ⟨g, o, c, rfl, hg, hc⟩
  · exact ⟨a, c, rfl, fun i hi => by cases hi⟩
  · exact ⟨_, c, rfl, fun i hi => ⟨g, o, rfl, hg, fun W hb j u hu => by rw [hb.cell (p := ⟨g, o + i * 7 + j, none⟩) hg]; exact hc i hi j u hu⟩⟩
section
variable {m k : Img} {last : Int} {n : Nat}
end
theorem HasAt.img {w : World} {b : Nat} {m : Img} (h : HasAt w b 0 m) : HasImg w b m :=
  ⟨h.lt, fun n h1 => by have := h.live n h1; rwa [Nat.zero_add] at this, fun n h1 => by have := h.stamp n h1; rwa [Nat.zero_add] at this, fun n h1 => by have := h.links n h1; rwa [Nat.zero_add] at this,
    fun n p h1 h2 => by have := h.part n p h1 h2; rwa [Nat.zero_add] at this, fun d s h1 h2 => by have := h.name d s h1 h2; rwa [Nat.zero_add] at this, fun d s h1 h2 => by have := h.ino d s h1 h2; rwa [Nat.zero_add] at this,
    fun d s h1 h2 => by have := h.est d s h1 h2; rwa [Nat.zero_add] at this, fun x h1 => by have := h.of x h1; rwa [Nat.zero_add] at this, fun x h1 => by have := h.text x h1; rwa [Nat.zero_add] at this, h.small, h.short⟩
theorem same_self (m : Img) : (!Img.sameImg m m) = false := by rw [Img.same_iff.2 (Img.Agree.refl m)]; rfl
end Sft
end Go.Proofs.YtmbpckmpnnmnmabGreat
