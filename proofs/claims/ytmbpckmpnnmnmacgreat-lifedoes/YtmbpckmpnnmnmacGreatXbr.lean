/-
  The law LifeDoes. (Written by genhm.py.)
-/
import Derived.Test.YtmbpckmpnnmnmacGreatZz
import Derived.Test.YtmbpckmpnnmnmacGreatXbn
import Derived.Test.YtmbpckmpnnmnmacGreatXbm
import Derived.Test.YtmbpckmpnnmnmacGreatXbo
import Derived.Test.YtmbpckmpnnmnmacGreatXbq
namespace Go.Proofs.YtmbpckmpnnmnmacGreat
open Go.RowKit
open Idl (Stp chk stpA)
theorem neqLost (a b c d e f : Int) (w : World) : (binOp .neq 48 (.agg (lostA a b c)) (.agg (lostA d e f))).run Tryz.prog w = .ok (.bool (!(lostB a b c d e f))) w := by
  unfold lostA
  rw [run_neq_struct]
  have := eqLost_v 9998 a b c d e f w
  unfold lostA at this
  rw [this]; rfl
theorem lostB_self (a b c : Int) : (!(lostB a b c a b c)) = false := by simp [lostB]
/-- a life and a bed beside it, in one state -/
structure Ld (w : World) (bl bf bc gb : Nat) (S : Lv) (W : World) : Prop where
  lo : Lo w bl bf bc S W
  bed : Bl W gb S
  b0 : w.heap.size ≤ gb
  ne : gb ≠ bl ∧ gb ≠ bf ∧ gb ≠ bc
section
variable {w W W' : World} {bl bf bc gb bf' bc' : Nat} {S : Lv}
theorem Ld.call (h : Ld w bl bf bc gb S W) (hb : Below W.heap.size W W') : Ld w bl bf bc gb S W' := ⟨h.lo.call hb, h.bed.keep (hb.block _ h.bed.lt), h.b0, h.ne⟩
theorem Bl.lc (h : Bl W gb S) (hc : Lc bl bf bc bf' bc' W W') (hn : gb ≠ bl ∧ gb ≠ bf ∧ gb ≠ bc) : Bl W' gb S ∧ (gb ≠ bl ∧ gb ≠ bf' ∧ gb ≠ bc') := by
  obtain ⟨cs, ds, hr, r⟩ := h
  obtain ⟨h1, h2⟩ := hc.row hr hn
  exact ⟨⟨cs, ds, h1, r⟩, h2⟩
theorem Lo.chg (h : Lo w bl bf bc S W) (hc : Idl.Chg (fun i => i = gb) W W') (b0 : w.heap.size ≤ gb) (ne : gb ≠ bl ∧ gb ≠ bf ∧ gb ≠ bc) : Lo w bl bf bc S W' := by
  obtain ⟨cs, ds, f⟩ := h.fo.it
  exact ⟨⟨⟨cs, ds, f.keep (hc.block _ f.flt (Ne.symm ne.2.1)) (hc.block _ f.clt (Ne.symm ne.2.2))⟩, h.fo.bel.trans (hc.below h.fo.bel.size (fun i hi => by rw [hi]; exact b0)), h.fo.f0, h.fo.c0⟩, by rw [hc.block _ h.lt (Ne.symm ne.1)]; exact h.root, h.l0, h.nf, h.nc⟩
end
namespace Lif
structure Dk (x : Stp) (ga oj bl bf bc gb : Nat) (cs ds bs : Array Value) (V : World) : Prop where
  p0 : V.cell? ⟨bl, 0, none⟩ = some (.pointer (some ⟨bf, 0, none⟩))
  p1 : V.cell? ⟨bf, 0, none⟩ = some (.pointer (some ⟨bc, 0, none⟩))
  l0 : bl < V.heap.size
  l1 : bf < V.heap.size
  row : V.heap[bc]? = some (.cells (cs ++ ds) 57)
  bed : V.heap[gb]? = some (.cells bs 55)
  lg : ga < V.heap.size
  st : ∀ q u, (stpA x)[q]? = some u → V.cell? ⟨ga, oj + q, none⟩ = some u
theorem Dk.below {x : Stp} {ga oj bl bf bc gb : Nat} {cs ds bs : Array Value} {V V' : World} (h : Dk x ga oj bl bf bc gb cs ds bs V) (hb : Below V.heap.size V V') : Dk x ga oj bl bf bc gb cs ds bs V' :=
  ⟨by rw [hb.cell (p := ⟨bl, 0, none⟩) h.l0]; exact h.p0, by rw [hb.cell (p := ⟨bf, 0, none⟩) h.l1]; exact h.p1, Nat.lt_of_lt_of_le h.l0 hb.size, Nat.lt_of_lt_of_le h.l1 hb.size,
    by rw [hb.block _ (Array.getElem?_eq_some_iff.1 h.row).1]; exact h.row, by rw [hb.block _ (Array.getElem?_eq_some_iff.1 h.bed).1]; exact h.bed, Nat.lt_of_lt_of_le h.lg hb.size, fun q u hu => by rw [hb.cell (p := ⟨ga, oj + q, none⟩) h.lg]; exact h.st q u hu⟩
set_option maxHeartbeats 8000000 in
set_option maxRecDepth 100000 in
theorem lifeDoes_any {w : World} {v : Value} {L : List Stp} (hs : Idl.Steps w v L) :
    Calls Tryz.prog 3 #[v] w fun e w' => e = .returned (.bool true) ∧ Below w.heap.size w w' := by
  have z := zero_img.1
  have hbg := Lif.begun_any w
  have HG := hide fun W (bW : Below w.heap.size w W) => Idl.greatSteps_any (hs.below bW)
  have HOk := hide hs.ok
  have hgl : Idl.greats L = false → L.length ≤ 200 := fun h => by
    simp only [Idl.greats, Bool.or_eq_false_iff, decide_eq_false_iff_not] at h
    omega
  have HGL := hide hgl
  obtain ⟨a, c, rfl, hst⟩ := Sft.Steps.gen hs
  have HST := hide hst
  clear hs hgl hst
  go_enter Tryz.func3, Tryz.ntmps3
  go_wp2_with fail
  refine hbg.mono ?_
  rintro e w1 ⟨rfl, b1⟩
  have B1 := hide b1
  have hg := unhide HG w1 b1
  clear b1 hbg
  cases hgr : Idl.greats L <;> rw [hgr] at hg
  case true =>
    clear hgr
    go_wp2_with fail
    refine hg.mono ?_
    rintro e w2 ⟨rfl, b2⟩
    have B2 := hide ((unhide B1).trans (b2.mono (unhide B1).size))
    clear b2 hg
    go_wp2_with fail
    go_ret
    exact ⟨rfl, unhide B2⟩
  have h200 := unhide HGL hgr
  clear hgr HGL HG
  go_wp2_with fail
  refine hg.mono ?_
  rintro e w2 ⟨rfl, b2⟩
  have B2 := hide ((unhide B1).trans (b2.mono (unhide B1).size))
  clear b2 hg B1
  go_wp2_with fail
  refine (lNew_any w (unhide B2)).mono ?_
  rintro e w3 ⟨bl, bf0, bc0, rfl, _, _, _, h3, b3⟩
  have H3 := hide h3
  clear h3 B2 b3
  go_wp2_with fail
  refine (Sft.newBed_row w3).mono ?_
  rintro e w4 ⟨gb, rfl, hgb, rgb, b4⟩
  have H4 := hide (show Ld w bl bf0 bc0 gb Lv.new w4 from ⟨(unhide H3).call b4, ⟨_, _, rgb, blank_is, blank_is⟩, by have := (unhide H3).bel.size; omega, by have := (unhide H3).lt; have := (unhide H3).fo.cells.2.1; have := (unhide H3).fo.cells.2.2.1; omega⟩)
  clear hgb rgb b4 H3
  go_wp2_with fail
  go_loopw [5] (fun i wr => ∃ (j bf bc : Nat) (S : Lv), j ≤ L.length ∧ i = .int .i64 j ∧ Hid (Ld w bl bf bc gb S wr) ∧ Hid (S.Ok j)) (fun i _ => L.length - (intOf i).toNat)
  case atStart => exact ⟨0, bf0, bc0, Lv.new, Nat.zero_le _, rfl, H4, hide Lv.Ok.start⟩
  case round =>
    clear H4
    obtain ⟨j, bf, bc, S, hj, rfl, HF, HK⟩ := hrel
    by_cases hlt : j < L.length
    case pos =>
      have hjn : (j : Int) < (L.length : Int) := by omega
      obtain ⟨ga, oa, rfl, hga, hca⟩ := unhide HST j hlt
      have hxo := unhide HOk L[j] (List.getElem_mem hlt)
      generalize L[j] = x at hca hxo
      have HXO := hide hxo.big
      have HCA := hide hca
      have HGA := hide hga
      have Hd := hide ((unhide HF).call (Below.refl _ wr).drew)
      have S0 := unhide HCA _ (unhide Hd).lo.bel
      have D := hide (lStep_any (unhide Hd).lo (unhide HK) (by omega) x (unhide HXO).1 (unhide HXO).2.1 (unhide HXO).2.2)
      have K1 := hide ((unhide HK).any x)
      clear hca hxo HST HOk hga HF
      go_upto_region 9 with fail
      refine wp_region_held_drew (S := fun V => ∀ q u, (stpA x)[q]? = some u → V.cell? ⟨ga, oa + j * 7 + q, none⟩ = some u) (by kernel_rfl) (S0) (fun hS => ?_)
      refine tkP (i := 0) (oi := ⟨some 19, .move (.tmp 3), 25, "law07.go:36", #[], none⟩) (v := .pointer (some ⟨bl, 0, none⟩)) hS ?_
      try simp only [Act.put, z1, z2, z3]
      refine tkP (i := 1) (oi := ⟨some 20, .move (.tmp 0), 22, "law07.go:36", #[], none⟩) (v := .slice (some ⟨ga, oa, none⟩) L.length c) hS ?_
      try simp only [Act.put, z1, z2, z3]
      refine tkP (i := 2) (oi := ⟨some 21, .move (.tmp 5), 3, "law07.go:36", #[], none⟩) (v := .int .i64 (j : Nat)) hS ?_
      try simp only [Act.put, z1, z2, z3]
      refine tkH (i := 3) (oi := ⟨some 22, .indexAddr 22 (.tmp 20) (.tmp 21), 0, "law07.go:36", #[⟨1, .data⟩, ⟨2, .data⟩], none⟩) (v := .pointer (some ⟨ga, oa + j * 7, none⟩)) (fun W h => Lif.ix_step (c := c) (.tmp 20) (.tmp 21) (by kernel_rfl) (by kernel_rfl) (by kernel_rfl) hlt W) hS ?_
      try simp only [Act.put, z1, z2, z3]
      refine tkH (i := 4) (oi := ⟨some 23, .load 31 (.tmp 22), 31, "law07.go:36", #[⟨3, .data⟩], none⟩) (v := .agg (stpA x)) (fun W h => Lif.ld_step (.tmp 22) (by kernel_rfl) (by kernel_rfl) x W h) hS ?_
      try simp only [Act.put, z1, z2, z3]
      refine tkP (i := 6) (oi := ⟨some 25, .move (.tmp 4), 27, "law07.go:36", #[], none⟩) (v := .pointer (some ⟨gb, 0, none⟩)) hS ?_
      try simp only [Act.put, z1, z2, z3]
      refine tkP (i := 7) (oi := ⟨some 26, .move (.tmp 0), 22, "law07.go:36", #[], none⟩) (v := .slice (some ⟨ga, oa, none⟩) L.length c) hS ?_
      try simp only [Act.put, z1, z2, z3]
      refine tkP (i := 8) (oi := ⟨some 27, .move (.tmp 5), 3, "law07.go:36", #[], none⟩) (v := .int .i64 (j : Nat)) hS ?_
      try simp only [Act.put, z1, z2, z3]
      refine tkH (i := 9) (oi := ⟨some 28, .indexAddr 22 (.tmp 26) (.tmp 27), 0, "law07.go:36", #[⟨7, .data⟩, ⟨8, .data⟩], none⟩) (v := .pointer (some ⟨ga, oa + j * 7, none⟩)) (fun W h => Lif.ix_step (c := c) (.tmp 26) (.tmp 27) (by kernel_rfl) (by kernel_rfl) (by kernel_rfl) hlt W) hS ?_
      try simp only [Act.put, z1, z2, z3]
      refine tkH (i := 10) (oi := ⟨some 29, .load 31 (.tmp 28), 31, "law07.go:36", #[⟨9, .data⟩], none⟩) (v := .agg (stpA x)) (fun W h => Lif.ld_step (.tmp 28) (by kernel_rfl) (by kernel_rfl) x W h) hS ?_
      try simp only [Act.put, z1, z2, z3]
      refine wpAnyH_ready (rs := [5]) (by kernel_rfl) (by simp) ?_
      refine AllReadyH.cons (o := ⟨some 24, .call { callee := .value (.func 16), args := #[.tmp 19, .tmp 23], argTypes := #[25, 31] }, 3, "law07.go:36", #[⟨0, .data⟩, ⟨4, .data⟩], none⟩) rfl (fun K hK => ?_) AllReadyH.nil
      rw [if_pos (by kernel_rfl)]
      go_simp
      refine (unhide D).mono ?_
      rintro e W5 ⟨rfl, bf', bc', h5, lc5⟩
      have H5 := hide h5
      have B5 := hide ((unhide Hd).bed.lc lc5 (unhide Hd).ne)
      have E0 := hide (unhide Hd).b0
      have hs5 := unhide HCA _ h5.bel
      clear h5 lc5 D Hd
      go_wp2_with fail
      refine hK.out _ _ (hs5) (fun hS5 => ?_)
      clear hK K
      try simp only [Act.put, z1, z2, z3]
      have DB := hide (bStep_any (unhide B5).1 (unhide HK) (by omega) x (unhide HXO).1 (unhide HXO).2.1 (unhide HXO).2.2)
      refine wpAnyH_ready (rs := [11]) (by kernel_rfl) (by simp) ?_
      refine AllReadyH.cons (o := ⟨some 30, .call { callee := .value (.func 17), args := #[.tmp 25, .tmp 29], argTypes := #[27, 31] }, 3, "law07.go:36", #[⟨6, .data⟩, ⟨10, .data⟩, ⟨5, .chain⟩], none⟩) rfl (fun K hK => ?_) AllReadyH.nil
      rw [if_pos (by kernel_rfl)]
      go_simp
      refine (unhide DB).mono ?_
      rintro e W6 ⟨rfl, h6, ch6⟩
      have H6 := hide (show Ld w bl bf' bc' gb (S.step x) W6 from ⟨(unhide H5).chg ch6 (unhide E0) (unhide B5).2, h6, unhide E0, (unhide B5).2⟩)
      have hs6 := unhide HCA _ (unhide H6).lo.bel
      clear h6 ch6 DB B5 H5 E0
      go_wp2_with fail
      refine hK.out _ _ (hs6) (fun hS6 => ?_)
      clear hK K
      try simp only [Act.put, z1, z2, z3]
      have NQ : (S.code x != S.code x) = false := by simp
      refine tkH (i := 12) (oi := ⟨some 31, .binOp .neq 3 (.tmp 24) (.tmp 30) 3, 4, "law07.go:36", #[⟨5, .data⟩, ⟨11, .data⟩], none⟩) (v := .bool false) (fun W h => Lif.neqf (.tmp 24) (.tmp 30) (by kernel_rfl) (by kernel_rfl) (by kernel_rfl) NQ W) hS6 ?_
      try simp only [Act.put, z1, z2, z3]
      refine tkP (i := 13) (oi := ⟨some 32, .move (.tmp 31), 4, "law07.go:36", #[⟨12, .data⟩, ⟨11, .chain⟩], none⟩) (v := .bool false) hS6 ?_
      try simp only [Act.put, z1, z2, z3]
      clear NQ HK
      generalize S.code x = cd
      generalize S.step x = T at H6 K1
      obtain ⟨cs, ds, f⟩ := (unhide H6).lo.fo.it
      obtain ⟨bs, es, hr, hb1, hb2⟩ := (unhide H6).bed
      have hi := f.now
      have hk1 := f.disk
      have zc := hi.size
      have zd := hk1.size
      have zb := hb1.size
      have ze := hb2.size
      have hdk : Lif.Dk x ga (oa + j * 7) bl bf' bc' gb cs ds (bs ++ (es ++ Sft.btl T.last (.int .i64 T.cr) (.int .i64 T.lf) (.int .i64 T.lc) (.int .i64 T.ld))) W6 := ⟨(unhide H6).lo.ptr, (unhide H6).lo.ptr2, (unhide H6).lo.lt, f.flt, f.row, hr, Nat.lt_of_lt_of_le (unhide HGA) (unhide H6).lo.bel.size, hs6⟩
      have QN := fun W => neqlImg hi hb1 W
      have QD := fun W => neqlImg hk1 hb2 W
      have QL := fun W => neqLost T.lf T.lc T.ld T.lf T.lc T.ld W
      rw [Sft.same_self] at QN QD
      rw [lostB_self] at QL
      unfold lostA at QL
      clear hS hS5 hS6 f hr hs5 hs6 S0 HCA HGA
      refine wpAnyH_mono (S' := Lif.Dk x ga (oa + j * 7) bl bf' bc' gb cs ds (bs ++ (es ++ Sft.btl T.last (.int .i64 T.cr) (.int .i64 T.lf) (.int .i64 T.lc) (.int .i64 T.ld)))) (fun _ h => h.st) _ _ _ _ ?_
      refine tkP (i := 14) (oi := ⟨some 33, .move (.tmp 3), 25, "law07.go:36", #[⟨13, .guard⟩], some (13, false)⟩) (v := .pointer (some ⟨bl, 0, none⟩)) hdk ?_
      try simp only [Act.put, z1, z2, z3]
      refine tkP (i := 15) (oi := ⟨some 34, .nilCheck (.tmp 33), 0, "law07.go:36", #[⟨14, .data⟩, ⟨13, .guard⟩], some (13, false)⟩) (v := .pointer (some ⟨bl, 0, none⟩)) hdk ?_
      try simp only [Act.put, z1, z2, z3]
      refine tkP (i := 16) (oi := ⟨some 35, .fieldAddr 50 (.tmp 34) 0, 0, "law07.go:36", #[⟨15, .data⟩, ⟨13, .guard⟩], some (13, false)⟩) (v := .pointer (some ⟨bl, 0, none⟩)) hdk ?_
      try simp only [Act.put, z1, z2, z3]
      refine tkH (i := 17) (oi := ⟨some 36, .load 46 (.tmp 35), 46, "law07.go:36", #[⟨16, .data⟩, ⟨13, .guard⟩], some (13, false)⟩) (v := .pointer (some ⟨bf', 0, none⟩)) (fun W h => Op1.ld_files (.tmp 35) (by kernel_rfl) (by kernel_rfl) W h.p0) hdk ?_
      try simp only [Act.put, z1, z2, z3]
      refine tkP (i := 18) (oi := ⟨some 37, .nilCheck (.tmp 36), 0, "law07.go:36", #[⟨17, .data⟩, ⟨13, .guard⟩], some (13, false)⟩) (v := .pointer (some ⟨bf', 0, none⟩)) hdk ?_
      try simp only [Act.put, z1, z2, z3]
      refine tkP (i := 19) (oi := ⟨some 38, .fieldAddr 53 (.tmp 37) 0, 0, "law07.go:36", #[⟨18, .data⟩, ⟨13, .guard⟩], some (13, false)⟩) (v := .pointer (some ⟨bf', 0, none⟩)) hdk ?_
      try simp only [Act.put, z1, z2, z3]
      refine tkH (i := 20) (oi := ⟨some 39, .load 51 (.tmp 38), 51, "law07.go:36", #[⟨19, .data⟩, ⟨13, .guard⟩], some (13, false)⟩) (v := .pointer (some ⟨bc', 0, none⟩)) (fun W h => Lif.ld_cache (.tmp 38) (by kernel_rfl) (by kernel_rfl) W h.p1) hdk ?_
      try simp only [Act.put, z1, z2, z3]
      refine tkP (i := 22) (oi := ⟨some 41, .move (.tmp 4), 27, "law07.go:36", #[⟨13, .guard⟩], some (13, false)⟩) (v := .pointer (some ⟨gb, 0, none⟩)) hdk ?_
      try simp only [Act.put, z1, z2, z3]
      refine tkP (i := 23) (oi := ⟨some 42, .nilCheck (.tmp 41), 0, "law07.go:36", #[⟨22, .data⟩, ⟨13, .guard⟩], some (13, false)⟩) (v := .pointer (some ⟨gb, 0, none⟩)) hdk ?_
      try simp only [Act.put, z1, z2, z3]
      refine tkP (i := 24) (oi := ⟨some 43, .fieldAddr 55 (.tmp 42) 1, 0, "law07.go:36", #[⟨23, .data⟩, ⟨13, .guard⟩], some (13, false)⟩) (v := .pointer (some ⟨gb, 94, none⟩)) hdk ?_
      try simp only [Act.put, z1, z2, z3]
      refine tkH (i := 25) (oi := ⟨some 44, .load 44 (.tmp 43), 44, "law07.go:36", #[⟨24, .data⟩, ⟨13, .guard⟩], some (13, false)⟩) (v := .agg es) (fun W h => Lif.ld_img (off := 94) (.tmp 43) (by kernel_rfl) (by kernel_rfl) W h.bed (by rw [Array.size_append, Array.size_append, zb, ze]; omega) (app3_snd zb ze)) hdk ?_
      try simp only [Act.put, z1, z2, z3]
      refine wpAnyH_ready (rs := [21]) (by kernel_rfl) (by simp) ?_
      refine AllReadyH.cons (o := ⟨some 40, .call { callee := .value (.func 18), args := #[.tmp 39], argTypes := #[51] }, 44, "law07.go:36", #[⟨20, .data⟩, ⟨13, .chain⟩, ⟨13, .guard⟩], some (13, false)⟩) rfl (fun K hK => ?_) AllReadyH.nil
      rw [if_pos (by kernel_rfl)]
      go_simp
      refine (disk_any bc' cs ds _ _ hi hk1 _ hdk.row).mono ?_
      rintro e W7 ⟨rfl, b7⟩
      have H7 := hide ((unhide H6).call b7)
      have hs7 := hdk.below b7
      clear b7 hdk H6
      go_wp2_with fail
      refine hK.out _ _ (hs7) (fun hS7 => ?_)
      clear hK K
      try simp only [Act.put, z1, z2, z3]
      refine tkH (i := 26) (oi := ⟨some 45, .binOp .neq 44 (.tmp 40) (.tmp 44) 44, 4, "law07.go:36", #[⟨21, .data⟩, ⟨25, .data⟩, ⟨13, .guard⟩], some (13, false)⟩) (v := .bool false) (fun W h => run_exec_nev 44 44 (.tmp 40) (.tmp 44) (by kernel_rfl) _ _ (by kernel_rfl) (by kernel_rfl) false (by kernel_rfl) QD W) hS7 ?_
      try simp only [Act.put, z1, z2, z3]
      refine tkP (i := 27) (oi := ⟨some 46, .pick (.tmp 32) (.const (.bool true)) (.tmp 45), 4, "law07.go:36", #[⟨13, .data⟩, ⟨26, .data⟩], none⟩) (v := .bool false) hS7 ?_
      try simp only [Act.put, z1, z2, z3]
      refine tkP (i := 28) (oi := ⟨some 47, .move (.tmp 46), 4, "law07.go:36", #[⟨27, .data⟩, ⟨21, .chain⟩], none⟩) (v := .bool false) hS7 ?_
      try simp only [Act.put, z1, z2, z3]
      refine tkP (i := 29) (oi := ⟨some 48, .move (.tmp 3), 25, "law07.go:36", #[⟨28, .guard⟩], some (28, false)⟩) (v := .pointer (some ⟨bl, 0, none⟩)) hS7 ?_
      try simp only [Act.put, z1, z2, z3]
      refine tkP (i := 30) (oi := ⟨some 49, .nilCheck (.tmp 48), 0, "law07.go:36", #[⟨29, .data⟩, ⟨28, .guard⟩], some (28, false)⟩) (v := .pointer (some ⟨bl, 0, none⟩)) hS7 ?_
      try simp only [Act.put, z1, z2, z3]
      refine tkP (i := 31) (oi := ⟨some 50, .fieldAddr 50 (.tmp 49) 0, 0, "law07.go:36", #[⟨30, .data⟩, ⟨28, .guard⟩], some (28, false)⟩) (v := .pointer (some ⟨bl, 0, none⟩)) hS7 ?_
      try simp only [Act.put, z1, z2, z3]
      refine tkH (i := 32) (oi := ⟨some 51, .load 46 (.tmp 50), 46, "law07.go:36", #[⟨31, .data⟩, ⟨28, .guard⟩], some (28, false)⟩) (v := .pointer (some ⟨bf', 0, none⟩)) (fun W h => Op1.ld_files (.tmp 50) (by kernel_rfl) (by kernel_rfl) W h.p0) hS7 ?_
      try simp only [Act.put, z1, z2, z3]
      refine tkP (i := 33) (oi := ⟨some 52, .nilCheck (.tmp 51), 0, "law07.go:36", #[⟨32, .data⟩, ⟨28, .guard⟩], some (28, false)⟩) (v := .pointer (some ⟨bf', 0, none⟩)) hS7 ?_
      try simp only [Act.put, z1, z2, z3]
      refine tkP (i := 34) (oi := ⟨some 53, .fieldAddr 53 (.tmp 52) 0, 0, "law07.go:36", #[⟨33, .data⟩, ⟨28, .guard⟩], some (28, false)⟩) (v := .pointer (some ⟨bf', 0, none⟩)) hS7 ?_
      try simp only [Act.put, z1, z2, z3]
      refine tkH (i := 35) (oi := ⟨some 54, .load 51 (.tmp 53), 51, "law07.go:36", #[⟨34, .data⟩, ⟨28, .guard⟩], some (28, false)⟩) (v := .pointer (some ⟨bc', 0, none⟩)) (fun W h => Lif.ld_cache (.tmp 53) (by kernel_rfl) (by kernel_rfl) W h.p1) hS7 ?_
      try simp only [Act.put, z1, z2, z3]
      refine tkP (i := 36) (oi := ⟨some 55, .nilCheck (.tmp 54), 0, "law07.go:36", #[⟨35, .data⟩, ⟨28, .guard⟩], some (28, false)⟩) (v := .pointer (some ⟨bc', 0, none⟩)) hS7 ?_
      try simp only [Act.put, z1, z2, z3]
      refine tkP (i := 37) (oi := ⟨some 56, .fieldAddr 57 (.tmp 55) 0, 0, "law07.go:36", #[⟨36, .data⟩, ⟨28, .guard⟩], some (28, false)⟩) (v := .pointer (some ⟨bc', 0, none⟩)) hS7 ?_
      try simp only [Act.put, z1, z2, z3]
      refine tkH (i := 38) (oi := ⟨some 57, .load 44 (.tmp 56), 44, "law07.go:36", #[⟨37, .data⟩, ⟨28, .guard⟩], some (28, false)⟩) (v := .agg cs) (fun W h => Lif.ld_img (off := 0) (.tmp 56) (by kernel_rfl) (by kernel_rfl) W h.row (by rw [Array.size_append, zc]; omega) (app_fst zc)) hS7 ?_
      try simp only [Act.put, z1, z2, z3]
      refine tkP (i := 39) (oi := ⟨some 58, .move (.tmp 4), 27, "law07.go:36", #[⟨28, .guard⟩], some (28, false)⟩) (v := .pointer (some ⟨gb, 0, none⟩)) hS7 ?_
      try simp only [Act.put, z1, z2, z3]
      refine tkP (i := 40) (oi := ⟨some 59, .nilCheck (.tmp 58), 0, "law07.go:36", #[⟨39, .data⟩, ⟨28, .guard⟩], some (28, false)⟩) (v := .pointer (some ⟨gb, 0, none⟩)) hS7 ?_
      try simp only [Act.put, z1, z2, z3]
      refine tkP (i := 41) (oi := ⟨some 60, .fieldAddr 55 (.tmp 59) 0, 0, "law07.go:36", #[⟨40, .data⟩, ⟨28, .guard⟩], some (28, false)⟩) (v := .pointer (some ⟨gb, 0, none⟩)) hS7 ?_
      try simp only [Act.put, z1, z2, z3]
      refine tkH (i := 42) (oi := ⟨some 61, .load 44 (.tmp 60), 44, "law07.go:36", #[⟨41, .data⟩, ⟨28, .guard⟩], some (28, false)⟩) (v := .agg bs) (fun W h => Lif.ld_img (off := 0) (.tmp 60) (by kernel_rfl) (by kernel_rfl) W h.bed (by rw [Array.size_append, zb]; omega) (app_fst zb)) hS7 ?_
      try simp only [Act.put, z1, z2, z3]
      refine tkH (i := 43) (oi := ⟨some 62, .binOp .neq 44 (.tmp 57) (.tmp 61) 44, 4, "law07.go:36", #[⟨38, .data⟩, ⟨42, .data⟩, ⟨28, .guard⟩], some (28, false)⟩) (v := .bool false) (fun W h => run_exec_nev 44 44 (.tmp 57) (.tmp 61) (by kernel_rfl) _ _ (by kernel_rfl) (by kernel_rfl) false (by kernel_rfl) QN W) hS7 ?_
      try simp only [Act.put, z1, z2, z3]
      refine tkP (i := 44) (oi := ⟨some 63, .pick (.tmp 47) (.const (.bool true)) (.tmp 62), 4, "law07.go:36", #[⟨28, .data⟩, ⟨43, .data⟩], none⟩) (v := .bool false) hS7 ?_
      try simp only [Act.put, z1, z2, z3]
      refine tkP (i := 45) (oi := ⟨some 64, .move (.tmp 63), 4, "law07.go:36", #[⟨44, .data⟩, ⟨28, .chain⟩], none⟩) (v := .bool false) hS7 ?_
      try simp only [Act.put, z1, z2, z3]
      refine tkP (i := 46) (oi := ⟨some 65, .move (.tmp 3), 25, "law07.go:36", #[⟨45, .guard⟩], some (45, false)⟩) (v := .pointer (some ⟨bl, 0, none⟩)) hS7 ?_
      try simp only [Act.put, z1, z2, z3]
      refine tkP (i := 48) (oi := ⟨some 67, .move (.tmp 4), 27, "law07.go:36", #[⟨45, .guard⟩], some (45, false)⟩) (v := .pointer (some ⟨gb, 0, none⟩)) hS7 ?_
      try simp only [Act.put, z1, z2, z3]
      refine tkP (i := 49) (oi := ⟨some 68, .nilCheck (.tmp 67), 0, "law07.go:36", #[⟨48, .data⟩, ⟨45, .guard⟩], some (45, false)⟩) (v := .pointer (some ⟨gb, 0, none⟩)) hS7 ?_
      try simp only [Act.put, z1, z2, z3]
      refine tkP (i := 50) (oi := ⟨some 69, .fieldAddr 55 (.tmp 68) 3, 0, "law07.go:36", #[⟨49, .data⟩, ⟨45, .guard⟩], some (45, false)⟩) (v := .pointer (some ⟨gb, 189, none⟩)) hS7 ?_
      try simp only [Act.put, z1, z2, z3]
      refine tkH (i := 51) (oi := ⟨some 70, .load 3 (.tmp 69), 3, "law07.go:36", #[⟨50, .data⟩, ⟨45, .guard⟩], some (45, false)⟩) (v := .int .i64 T.cr) (fun W h => Lif.ld_int (g := gb) (o0 := 189) (.tmp 69) (by kernel_rfl) (by kernel_rfl) W (by rw [cell_of_row _ _ _ _ _ _ h.bed]; exact btl_get zb ze 1)) hS7 ?_
      try simp only [Act.put, z1, z2, z3]
      refine wpAnyH_ready (rs := [47]) (by kernel_rfl) (by simp) ?_
      refine AllReadyH.cons (o := ⟨some 66, .call { callee := .value (.func 19), args := #[.tmp 65], argTypes := #[25] }, 3, "law07.go:36", #[⟨46, .data⟩, ⟨45, .chain⟩, ⟨45, .guard⟩], some (45, false)⟩) rfl (fun K hK => ?_) AllReadyH.nil
      rw [if_pos (by kernel_rfl)]
      go_simp
      refine (lCrashes_any (unhide H7).lo).mono ?_
      rintro e W8 ⟨rfl, rfl⟩
      go_wp2_with fail
      refine hK.out _ _ (hs7) (fun hS8 => ?_)
      clear hK K
      try simp only [Act.put, z1, z2, z3]
      have NQ : (T.cr != T.cr) = false := by simp
      refine tkH (i := 52) (oi := ⟨some 71, .binOp .neq 3 (.tmp 66) (.tmp 70) 3, 4, "law07.go:36", #[⟨47, .data⟩, ⟨51, .data⟩, ⟨45, .guard⟩], some (45, false)⟩) (v := .bool false) (fun W h => Lif.neqf (.tmp 66) (.tmp 70) (by kernel_rfl) (by kernel_rfl) (by kernel_rfl) NQ W) hS8 ?_
      try simp only [Act.put, z1, z2, z3]
      refine tkP (i := 53) (oi := ⟨some 72, .pick (.tmp 64) (.const (.bool true)) (.tmp 71), 4, "law07.go:36", #[⟨45, .data⟩, ⟨52, .data⟩], none⟩) (v := .bool false) hS8 ?_
      try simp only [Act.put, z1, z2, z3]
      refine tkP (i := 54) (oi := ⟨some 73, .move (.tmp 72), 4, "law07.go:36", #[⟨53, .data⟩, ⟨47, .chain⟩], none⟩) (v := .bool false) hS8 ?_
      try simp only [Act.put, z1, z2, z3]
      refine tkP (i := 55) (oi := ⟨some 74, .move (.tmp 3), 25, "law07.go:36", #[⟨54, .guard⟩], some (54, false)⟩) (v := .pointer (some ⟨bl, 0, none⟩)) hS8 ?_
      try simp only [Act.put, z1, z2, z3]
      refine tkP (i := 57) (oi := ⟨some 76, .move (.tmp 4), 27, "law07.go:36", #[⟨54, .guard⟩], some (54, false)⟩) (v := .pointer (some ⟨gb, 0, none⟩)) hS8 ?_
      try simp only [Act.put, z1, z2, z3]
      refine tkP (i := 58) (oi := ⟨some 77, .nilCheck (.tmp 76), 0, "law07.go:36", #[⟨57, .data⟩, ⟨54, .guard⟩], some (54, false)⟩) (v := .pointer (some ⟨gb, 0, none⟩)) hS8 ?_
      try simp only [Act.put, z1, z2, z3]
      refine tkP (i := 59) (oi := ⟨some 78, .fieldAddr 55 (.tmp 77) 4, 0, "law07.go:36", #[⟨58, .data⟩, ⟨54, .guard⟩], some (54, false)⟩) (v := .pointer (some ⟨gb, 190, none⟩)) hS8 ?_
      try simp only [Act.put, z1, z2, z3]
      refine tkH (i := 60) (oi := ⟨some 79, .load 3 (.tmp 78), 3, "law07.go:36", #[⟨59, .data⟩, ⟨54, .guard⟩], some (54, false)⟩) (v := .int .i64 T.lf) (fun W h => Lif.ld_int (g := gb) (o0 := 190) (.tmp 78) (by kernel_rfl) (by kernel_rfl) W (by rw [cell_of_row _ _ _ _ _ _ h.bed]; exact btl_get zb ze 2)) hS8 ?_
      try simp only [Act.put, z1, z2, z3]
      refine tkP (i := 61) (oi := ⟨some 80, .move (.tmp 4), 27, "law07.go:36", #[⟨54, .guard⟩], some (54, false)⟩) (v := .pointer (some ⟨gb, 0, none⟩)) hS8 ?_
      try simp only [Act.put, z1, z2, z3]
      refine tkP (i := 62) (oi := ⟨some 81, .nilCheck (.tmp 80), 0, "law07.go:36", #[⟨61, .data⟩, ⟨54, .guard⟩], some (54, false)⟩) (v := .pointer (some ⟨gb, 0, none⟩)) hS8 ?_
      try simp only [Act.put, z1, z2, z3]
      refine tkP (i := 63) (oi := ⟨some 82, .fieldAddr 55 (.tmp 81) 5, 0, "law07.go:36", #[⟨62, .data⟩, ⟨54, .guard⟩], some (54, false)⟩) (v := .pointer (some ⟨gb, 191, none⟩)) hS8 ?_
      try simp only [Act.put, z1, z2, z3]
      refine tkH (i := 64) (oi := ⟨some 83, .load 3 (.tmp 82), 3, "law07.go:36", #[⟨63, .data⟩, ⟨54, .guard⟩], some (54, false)⟩) (v := .int .i64 T.lc) (fun W h => Lif.ld_int (g := gb) (o0 := 191) (.tmp 82) (by kernel_rfl) (by kernel_rfl) W (by rw [cell_of_row _ _ _ _ _ _ h.bed]; exact btl_get zb ze 3)) hS8 ?_
      try simp only [Act.put, z1, z2, z3]
      refine tkP (i := 65) (oi := ⟨some 84, .move (.tmp 4), 27, "law07.go:36", #[⟨54, .guard⟩], some (54, false)⟩) (v := .pointer (some ⟨gb, 0, none⟩)) hS8 ?_
      try simp only [Act.put, z1, z2, z3]
      refine tkP (i := 66) (oi := ⟨some 85, .nilCheck (.tmp 84), 0, "law07.go:36", #[⟨65, .data⟩, ⟨54, .guard⟩], some (54, false)⟩) (v := .pointer (some ⟨gb, 0, none⟩)) hS8 ?_
      try simp only [Act.put, z1, z2, z3]
      refine tkP (i := 67) (oi := ⟨some 86, .fieldAddr 55 (.tmp 85) 6, 0, "law07.go:36", #[⟨66, .data⟩, ⟨54, .guard⟩], some (54, false)⟩) (v := .pointer (some ⟨gb, 192, none⟩)) hS8 ?_
      try simp only [Act.put, z1, z2, z3]
      refine tkH (i := 68) (oi := ⟨some 87, .load 3 (.tmp 86), 3, "law07.go:36", #[⟨67, .data⟩, ⟨54, .guard⟩], some (54, false)⟩) (v := .int .i64 T.ld) (fun W h => Lif.ld_int (g := gb) (o0 := 192) (.tmp 86) (by kernel_rfl) (by kernel_rfl) W (by rw [cell_of_row _ _ _ _ _ _ h.bed]; exact btl_get zb ze 4)) hS8 ?_
      try simp only [Act.put, z1, z2, z3]
      refine tkP (i := 69) (oi := ⟨some 88, .build 48 #[(0, .tmp 79), (1, .tmp 83), (2, .tmp 87)], 48, "law07.go:36", #[⟨60, .data⟩, ⟨64, .data⟩, ⟨68, .data⟩, ⟨54, .guard⟩], some (54, false)⟩) (v := .agg #[.int .i64 T.lf, .int .i64 T.lc, .int .i64 T.ld]) hS8 ?_
      try simp only [Act.put, z1, z2, z3]
      refine wpAnyH_ready (rs := [56]) (by kernel_rfl) (by simp) ?_
      refine AllReadyH.cons (o := ⟨some 75, .call { callee := .value (.func 20), args := #[.tmp 74], argTypes := #[25] }, 48, "law07.go:36", #[⟨55, .data⟩, ⟨54, .chain⟩, ⟨54, .guard⟩], some (54, false)⟩) rfl (fun K hK => ?_) AllReadyH.nil
      rw [if_pos (by kernel_rfl)]
      go_simp
      refine (lLost_any (unhide H7).lo).mono ?_
      rintro e W9 ⟨rfl, b9⟩
      have H9 := hide ((unhide H7).call b9)
      have hs9 := hs7.below b9
      unfold lostA
      clear b9 H7
      go_wp2_with fail
      refine hK.out _ _ (hs9) (fun hS9 => ?_)
      clear hK K
      try simp only [Act.put, z1, z2, z3]
      refine tkH (i := 70) (oi := ⟨some 89, .binOp .neq 48 (.tmp 75) (.tmp 88) 48, 4, "law07.go:36", #[⟨56, .data⟩, ⟨69, .data⟩, ⟨54, .guard⟩], some (54, false)⟩) (v := .bool false) (fun W h => run_exec_nev 48 48 (.tmp 75) (.tmp 88) (by kernel_rfl) _ _ (by kernel_rfl) (by kernel_rfl) false (by kernel_rfl) QL W) hS9 ?_
      try simp only [Act.put, z1, z2, z3]
      refine tkP (i := 71) (oi := ⟨some 90, .pick (.tmp 73) (.const (.bool true)) (.tmp 89), 4, "law07.go:36", #[⟨54, .data⟩, ⟨70, .data⟩], none⟩) (v := .bool false) hS9 ?_
      try simp only [Act.put, z1, z2, z3]
      refine wpAnyH_done (by kernel_rfl) ?_ _
      clear hS7 hS8 hS9 hs7 hs9 QN QD QL NQ
      go_wp2_with fail
      go_roundw
      case rel => exact ⟨j + 1, bf', bc', _, by omega, by go_num, H9, K1⟩
      case measure => simp [intOf]; omega
    clear HST HOk
    have MOK := hide (unhide HK).hold.good.ex.ok
    clear HK
    go_wp2_with fail
    go_loopw [6] (fun i wr => ∃ d : Nat, d ≤ 3 ∧ i = .int .i64 d ∧ Hid (Ld w bl bf bc gb S wr)) (fun i _ => 3 - (intOf i).toNat)
    case atStart => exact ⟨0, Nat.zero_le _, rfl, HF⟩
    case round =>
      clear HF
      obtain ⟨d, hd, rfl, HF⟩ := hrel
      by_cases hd3 : d < 3
      case pos =>
        have t3 : decide ((d : Int) < 3) = true := by simp; omega
        have LF := hide ((unhide HF).lo.fo.list (unhide MOK) (d : Int))
        have q0 := (unhide HF).lo.ptr
        go_wp2_with fail
        refine (unhide LF).mono ?_
        rintro e W8 ⟨v8, rfl, ho8, _, b8⟩
        have Z8 := hide ((unhide HF).call b8)
        have HO8 := hide ho8
        have HB : HasAt W8 gb 0 S.now := by
          obtain ⟨bs, es, hr, hb1, hb2⟩ := (unhide Z8).bed
          have zb := hb1.size
          exact hasAt_of hr (by rw [Array.size_append, zb]; omega) (app_fst zb) hb1
        have LB := hide (Idl.bList_any W8 HB (unhide MOK) (d : Int))
        clear b8 ho8 LF HF q0 HB
        go_wp2_with fail
        refine (unhide LB).mono ?_
        rintro e W9 ⟨v9, rfl, ho9, b9⟩
        have Z9 := hide ((unhide Z8).call b9)
        have ST := hide (Sft.SameTexts_any (Idl.ownsRow_of_block (unhide HO8) (fun g hg => b9.block g ((unhide HO8).lt g hg).2)) ho9 (by have := Sft.snames_len S.now (unhide MOK) hd3; omega))
        clear b9 ho9 LB Z8 HO8
        go_wp2_with fail
        refine (unhide ST).mono ?_
        rintro e WA ⟨rfl, bA⟩
        have ZA := hide ((unhide Z9).call bA)
        clear bA ST Z9
        go_wp2_with fail
        go_roundw
        case rel => exact ⟨d + 1, by omega, by go_num, ZA⟩
        case measure => simp [intOf]; omega
      have e3 : d = 3 := by omega
      subst e3
      go_wp2_with fail
      go_ret
      exact ⟨rfl, (unhide HF).lo.bel⟩
end Lif
end Go.Proofs.YtmbpckmpnnmnmacGreat
