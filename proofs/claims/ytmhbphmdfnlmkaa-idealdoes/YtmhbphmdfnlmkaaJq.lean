/-
  The walk of (*eiderdownref.Ideal).Do: a step that links. (Written by genjp.py.)
-/
import Derived.Test.YtmhbphmdfnlmkaaJp
namespace Go.Proofs.Ytmhbphmdfnlmkaa
open Go.RowKit
namespace Idl
section
variable {w : World} {b : Nat} {S : St} {l : List Tg} {vt vf : Value}
set_option maxHeartbeats 4000000 in
set_option maxRecDepth 100000 in
theorem rDo_link (h : IRep w b S l vt vf) (h1 : l.length ≤ 1000000) (h2 : S.next ≤ 1000000) (dir toDir p : Int) (name to text : ByteArray) (hn : name.size ≤ maxLen) (ht : to.size ≤ maxLen) (hx : text.size ≤ maxLen) (hc : code S ⟨2, dir, toDir, p, name, to, text⟩ = 0) :
    Calls Try.prog 28 #[.pointer (some ⟨b, 0, none⟩), .agg (stpA ⟨2, dir, toDir, p, name, to, text⟩)] w fun e w' => e = .returned (.int .i64 0) ∧ IHeld b vt vf w w' (step S ⟨2, dir, toDir, p, name, to, text⟩) (l.length + 1) := by
  obtain ⟨i0, zt, hi0, hz0, hz1, hz2, hz3⟩ := tag_info
  have bel0 : Below w.heap.size w (w.alloc (.cells (stpA ⟨2, dir, toDir, p, name, to, text⟩) 49)) := (Below.refl _ w).alloc (Nat.le_refl _) _
  have C1 := hide (stepFault_any ⟨2, dir, toDir, p, name, to, text⟩ hn ht hx (w.alloc (.cells (stpA ⟨2, dir, toDir, p, name, to, text⟩) 49)))
  have BEL := hide bel0
  have HC := hide fun W bW => stp_kept w ⟨2, dir, toDir, p, name, to, text⟩ W bW
  have HR := hide h
  have hk : chk ⟨2, dir, toDir, p, name, to, text⟩ = 0 := by
    cases e : decide (chk ⟨2, dir, toDir, p, name, to, text⟩ = 0)
    · rw [code_chk (by simpa using e)] at hc; exact hc
    · simpa using e
  rw [hk] at C1
  have g0 := goes hc
  have hd : isD dir = true := g0.din
  have hlook := g0.old (by simp)
  have hlk : lookS S dir name = some (the S ⟨2, dir, toDir, p, name, to, text⟩) := by rw [lookS_in hd]; exact hlook
  have hto := g0.to (by simp)
  have hd2 : isD toDir = true := hto.1
  have hnew : look (S.dir toDir.toNat) to = none := hto.2.2
  have hlk2 : lookS S toDir to = none := by rw [lookS_in hd2]; exact hnew
  have hst : step S ⟨2, dir, toDir, p, name, to, text⟩ = S.add toDir.toNat to (the S ⟨2, dir, toDir, p, name, to, text⟩) := by
    rcases step_cases hc with ⟨k, e⟩ | ⟨k, e⟩ | ⟨k, e⟩ | ⟨k, e⟩ | ⟨k, e⟩ | ⟨k, e⟩
    all_goals first | exact e | (exfalso; revert k; decide) | (simp at k)
  have HI := hide (inv_step h.inv ⟨2, dir, toDir, p, name, to, text⟩)
  rw [hst] at HI ⊢
  rcases atI_lookS h.tags dir name with ⟨_, a2⟩ | ⟨i, hi, htag, a1, a2⟩
  · rw [hlk] at a2; cases a2
  · obtain ⟨nf, hnn⟩ : ∃ n, n = the S ⟨2, dir, toDir, p, name, to, text⟩ := ⟨_, rfl⟩
    rw [← hnn] at HI hlk hlook ⊢
    have hfile : l[i].file = nf := by rw [hlk] at a2; cases a2; rfl
    have HA := hide a1
    have HTG := hide (h.tags.link h.inv (n := nf) hd2 hnew)
    have hB1 : atI l toDir to = -1 := by
      rcases atI_lookS h.tags toDir to with ⟨z, _⟩ | ⟨_, _, _, _, z⟩
      · exact z
      · rw [hlk2] at z; cases z
    have HB := hide hB1
    clear hB1
    have HXT := hide (show vt.ownBlock ≠ some w.heap.size from fun e => by have := (h.rowT.lt _ e).2; omega)
    have HBX := hide (show b ≠ w.heap.size from fun e => by have := h.blt; omega)
    obtain ⟨ta, tc, rfl, hcap⟩ := own_form h.rowT
    obtain ⟨fa, fc, rfl, _⟩ := own_form h.rowF
    clear hc hk g0 hst a1 a2 bel0 hd hlook hlk h hnn htag hto hd2 hnew hlk2
    go_enter Try.func28, Try.ntmps28
    go_wp2_with fail
    refine (unhide C1).mono ?_
    rintro e w1 ⟨rfl, bel⟩
    have B1 : Below w.heap.size w w1 := (unhide BEL).trans (bel.mono (by simp))
    have c1 : w1.cell? ⟨w.heap.size, 1, none⟩ = some (.int .i64 dir) := unhide HC w1 bel 1 _ rfl
    have c4 : w1.cell? ⟨w.heap.size, 4, none⟩ = some (.string name) := unhide HC w1 bel 4 _ rfl
    obtain ⟨ta2, fa2, tc2, fc2, e1, e2, R1⟩ := ((unhide HR).below B1).rd h1 h2
    have C2 := hide (rAt_any dir name w1 R1)
    rw [unhide HA] at C2
    have BL := hide bel
    clear R1 bel HA e1 e2 ta2 fa2 tc2 fc2
    go_wp2_with fail
    refine (unhide C2).mono ?_
    rintro e w2 ⟨rfl, q, rfl⟩
    have B2 : Below w.heap.size w (w1.drewN q) := belowN B1
    have b2 : Below (w.alloc (.cells (stpA ⟨2, dir, toDir, p, name, to, text⟩) 49)).heap.size (w.alloc (.cells (stpA ⟨2, dir, toDir, p, name, to, text⟩) 49)) (w1.drewN q) := belowN (unhide BL)
    clear B1 BL c1 c4 C2
    generalize w1.drewN q = W at B2 b2 ⊢
    have HW := hide ((unhide HR).below B2)
    have c0 : W.cell? ⟨w.heap.size, 0, none⟩ = some (.int .i64 2) := unhide HC W b2 0 _ rfl
    obtain ⟨ta2, fa2, tc2, fc2, e1, e2, R1⟩ := (unhide HW).rd h1 h2
    simp only [Value.slice.injEq] at e1 e2
    obtain ⟨rfl, _, rfl⟩ := e1
    obtain ⟨rfl, _, rfl⟩ := e2
    have tv := R1.tv
    have blt := R1.lt
    obtain ⟨gt, ot, eta, hgt, _, _, t2⟩ := R1.tags i hi
    rw [hfile] at t2
    have HETA := hide eta
    have iz : (i : Int) < (l.length : Int) := by omega
    have u1 : decide ((i : Int) < 0) = false := by simp
    have C3 := hide (rAt_any toDir to W R1)
    rw [unhide HB] at C3
    have c2 : W.cell? ⟨w.heap.size, 2, none⟩ = some (.int .i64 toDir) := unhide HC W b2 2 _ rfl
    have c5 : W.cell? ⟨w.heap.size, 5, none⟩ = some (.string to) := unhide HC W b2 5 _ rfl
    clear R1 HB
    subst eta
    go_wp2_with fail
    try (go_quiet (fail); go_wp2_with fail)
    refine (unhide C3).mono ?_
    rintro e w2 ⟨rfl, q2, rfl⟩
    replace B2 : Below w.heap.size w (W.drewN q2) := belowN B2
    replace b2 : Below (w.alloc (.cells (stpA ⟨2, dir, toDir, p, name, to, text⟩) 49)).heap.size (w.alloc (.cells (stpA ⟨2, dir, toDir, p, name, to, text⟩) 49)) (W.drewN q2) := belowN b2
    replace HW := hide ((unhide HR).below B2)
    clear c0 c2 c5 tv t2 C3
    generalize W.drewN q2 = WW at B2 b2 HW ⊢
    have hTS : TS b w.heap.size (.slice (some ⟨gt, ot, none⟩) l.length tc) (.slice fa S.next fc) ⟨2, dir, toDir, p, name, to, text⟩ WW.drew :=
      ⟨by rw [World.cell?_of_block (w' := WW.drew) (w := WW) rfl, cell_of_row WW b 0 _ _ _ (unhide HW).root]; rfl, by rw [World.cell?_of_block (w' := WW.drew) (w := WW) rfl, cell_of_row WW b 1 _ _ _ (unhide HW).root]; rfl, fun j u hj => by rw [World.cell?_of_block (w' := WW.drew) (w := WW) rfl]; exact unhide HC WW b2 j u hj⟩
    have HX0 := hide (show w.heap.size < WW.drew.heap.size from Nat.lt_of_lt_of_le (by simp) b2.size)
    have HW0 := hide ((unhide HW).raw.below (Below.refl _ _).drew)
    have BB := hide (B2.drew)
    clear B2 b2 HW
    go_wp2_with fail
    try (go_quiet (fail); go_wp2_with fail)
    refine wp_region_F (S := TS b w.heap.size (.slice (some ⟨gt, ot, none⟩) l.length tc) (.slice fa S.next fc) ⟨2, dir, toDir, p, name, to, text⟩) 15 (by kernel_rfl) hTS (fun hS => ?_)
    refine wpAnyF_take (i := 0) (oi := { dst := some 79, op := Op.move (Operand.tmp 0), type := 54, pos := "base.go:398", after := #[], guard := none }) (v := .pointer (some ⟨b, 0, none⟩)) rfl (by kernel_rfl) (by kernel_rfl) (by kernel_rfl) (by kernel_rfl) (fun _ _ _ h => h) (Or.inl ⟨by kernel_rfl, fun W h => (by first | kernel_rfl | go_simp)⟩) hS ?_
    simp only [Act.put, List.setIfInBounds_toArray, List.set_cons_zero, List.set_cons_succ]
    refine wpAnyF_take (i := 1) (oi := { dst := some 80, op := Op.move (Operand.tmp 0), type := 54, pos := "base.go:398", after := #[], guard := none }) (v := .pointer (some ⟨b, 0, none⟩)) rfl (by kernel_rfl) (by kernel_rfl) (by kernel_rfl) (by kernel_rfl) (fun _ _ _ h => h) (Or.inl ⟨by kernel_rfl, fun W h => (by first | kernel_rfl | go_simp)⟩) hS ?_
    simp only [Act.put, List.setIfInBounds_toArray, List.set_cons_zero, List.set_cons_succ]
    refine wpAnyF_take (i := 2) (oi := { dst := some 81, op := Op.nilCheck (Operand.tmp 80), type := 0, pos := "base.go:398", after := #[{ on := 1, ground := Ground.data }], guard := none }) (v := .pointer (some ⟨b, 0, none⟩)) rfl (by kernel_rfl) (by kernel_rfl) (by kernel_rfl) (by kernel_rfl) (fun _ _ _ h => h) (Or.inl ⟨by kernel_rfl, fun W h => (by first | kernel_rfl | go_simp)⟩) hS ?_
    simp only [Act.put, List.setIfInBounds_toArray, List.set_cons_zero, List.set_cons_succ]
    refine wpAnyF_take (i := 3) (oi := { dst := some 82, op := Op.fieldAddr 58 (Operand.tmp 81) 0, type := 0, pos := "base.go:398", after := #[{ on := 2, ground := Ground.data }], guard := none }) (v := .pointer (some ⟨b, 0, none⟩)) rfl (by kernel_rfl) (by kernel_rfl) (by kernel_rfl) (by kernel_rfl) (fun _ _ _ h => h) (Or.inl ⟨by kernel_rfl, fun W h => (by first | kernel_rfl | go_simp)⟩) hS ?_
    simp only [Act.put, List.setIfInBounds_toArray, List.set_cons_zero, List.set_cons_succ]
    refine wpAnyF_take (i := 4) (oi := { dst := some 83, op := Op.load 55 (Operand.tmp 82), type := 55, pos := "base.go:398", after := #[{ on := 3, ground := Ground.data }], guard := none }) (v := .slice (some ⟨gt, ot, none⟩) l.length tc) rfl (by kernel_rfl) (by kernel_rfl) (by kernel_rfl) (by kernel_rfl) (fun _ _ _ h => h) (Or.inl ⟨by kernel_rfl, fun W h => run_ld_slT (.tmp 82) (by kernel_rfl) (by kernel_rfl) W h.1⟩) hS ?_
    simp only [Act.put, List.setIfInBounds_toArray, List.set_cons_zero, List.set_cons_succ]
    refine wpAnyF_take (i := 5) (oi := { dst := some 84, op := Op.fieldAddr 49 (Operand.tmp 3) 2, type := 0, pos := "base.go:398", after := #[], guard := none }) (v := .pointer (some ⟨w.heap.size, 2, none⟩)) rfl (by kernel_rfl) (by kernel_rfl) (by kernel_rfl) (by kernel_rfl) (fun _ _ _ h => h) (Or.inl ⟨by kernel_rfl, fun W h => (by first | kernel_rfl | go_simp)⟩) hS ?_
    simp only [Act.put, List.setIfInBounds_toArray, List.set_cons_zero, List.set_cons_succ]
    refine wpAnyF_take (i := 6) (oi := { dst := some 85, op := Op.load 3 (Operand.tmp 84), type := 3, pos := "base.go:398", after := #[{ on := 5, ground := Ground.data }], guard := none }) (v := .int .i64 toDir) rfl (by kernel_rfl) (by kernel_rfl) (by kernel_rfl) (by kernel_rfl) (fun _ _ _ h => h) (Or.inl ⟨by kernel_rfl, fun W h => run_ld_int (.tmp 84) (by kernel_rfl) (by kernel_rfl) W (h.2.2 2 _ rfl)⟩) hS ?_
    simp only [Act.put, List.setIfInBounds_toArray, List.set_cons_zero, List.set_cons_succ]
    refine wpAnyF_take (i := 7) (oi := { dst := some 86, op := Op.fieldAddr 49 (Operand.tmp 3) 5, type := 0, pos := "base.go:398", after := #[], guard := none }) (v := .pointer (some ⟨w.heap.size, 5, none⟩)) rfl (by kernel_rfl) (by kernel_rfl) (by kernel_rfl) (by kernel_rfl) (fun _ _ _ h => h) (Or.inl ⟨by kernel_rfl, fun W h => (by first | kernel_rfl | go_simp)⟩) hS ?_
    simp only [Act.put, List.setIfInBounds_toArray, List.set_cons_zero, List.set_cons_succ]
    refine wpAnyF_take (i := 8) (oi := { dst := some 87, op := Op.load 9 (Operand.tmp 86), type := 9, pos := "base.go:398", after := #[{ on := 7, ground := Ground.data }], guard := none }) (v := .string to) rfl (by kernel_rfl) (by kernel_rfl) (by kernel_rfl) (by kernel_rfl) (fun _ _ _ h => h) (Or.inl ⟨by kernel_rfl, fun W h => run_ld_str (.tmp 86) (by kernel_rfl) (by kernel_rfl) W (h.2.2 5 _ rfl)⟩) hS ?_
    simp only [Act.put, List.setIfInBounds_toArray, List.set_cons_zero, List.set_cons_succ]
    refine wpAnyF_take (i := 9) (oi := { dst := some 88, op := Op.move (Operand.tmp 7), type := 3, pos := "base.go:398", after := #[], guard := none }) (v := .int .i64 ((nf : Nat) : Int)) rfl (by kernel_rfl) (by kernel_rfl) (by kernel_rfl) (by kernel_rfl) (fun _ _ _ h => h) (Or.inl ⟨by kernel_rfl, fun W h => (by first | kernel_rfl | go_simp)⟩) hS ?_
    simp only [Act.put, List.setIfInBounds_toArray, List.set_cons_zero, List.set_cons_succ]
    refine wpAnyF_take (i := 10) (oi := { dst := some 89, op := Op.build 101 #[(0, Operand.tmp 85), (1, Operand.tmp 87), (2, Operand.tmp 88)], type := 101, pos := "base.go:398", after := #[{ on := 6, ground := Ground.data }, { on := 8, ground := Ground.data }, { on := 9, ground := Ground.data }], guard := none }) (v := .agg #[.int .i64 toDir, .string to, .int .i64 ((nf : Nat) : Int)]) rfl (by kernel_rfl) (by kernel_rfl) (by kernel_rfl) (by kernel_rfl) (fun _ _ _ h => h) (Or.inl ⟨by kernel_rfl, fun W h => (by first | kernel_rfl | go_simp)⟩) hS ?_
    simp only [Act.put, List.setIfInBounds_toArray, List.set_cons_zero, List.set_cons_succ]
    generalize World.drew _ = W0 at hS HW0 HX0 BB ⊢
    refine wpAnyF_one (i := 11) (o := { dst := some 90, op := Op.buildSlice 55 1 #[(0, Operand.tmp 89)], type := 55, pos := "base.go:398", after := #[{ on := 10, ground := Ground.data }], guard := none }) (by kernel_rfl) rfl (by kernel_rfl) (fun K hK => ?_)
    go_simp
    have hS1 := hS.keep (W' := W0.alloc (.cells #[.int .i64 toDir, .string to, .int .i64 ((nf : Nat) : Int)] 101)) (heap_alloc_old _ _ (unhide HW0).blt) (heap_alloc_old _ _ (unhide HX0))
    refine hK.out _ _ (fun _ => hS1) ?_
    clear hK K
    try simp only [Act.put, List.setIfInBounds_toArray, List.set_cons_zero, List.set_cons_succ]
    refine wpAnyF_one (i := 12) (o := { dst := some 91, op := Op.call { callee := Callee.builtin Builtin.append, args := #[Operand.tmp 83, Operand.tmp 90], argTypes := #[55, 55] }, type := 55, pos := "base.go:398", after := #[{ on := 4, ground := Ground.data }, { on := 11, ground := Ground.data }], guard := none }) (by kernel_rfl) rfl (by kernel_rfl) (fun K hK => ?_)
    refine wp_append_part (.tmp 83) (.tmp 90) (by kernel_rfl) Try.underlying55 hi0 hz0 hz1 hz2 hz3 (by omega) (by kernel_rfl) (World.ownsRow.alloc (unhide HW0).rowT _) (by kernel_rfl) (.inr ⟨⟨W0.heap.size, 0, none⟩, 1, rfl, rfl, row_new W0 [.int .i64 toDir, .string to, .int .i64 ((nf : Nat) : Int)] 101⟩) (one_tag toDir to nf) (by unfold maxLen; omega) (by omega) (by simp) ?_
    intro v' W2 ho hg ha
    obtain ⟨a', c', rfl, _⟩ := own_form ho
    have hS2 := hS1.keep (hg.block b (Nat.lt_of_lt_of_le (unhide HW0).blt (by simp)) (fun e => (unhide HW0).offT e.symm)) (hg.block w.heap.size (Nat.lt_of_lt_of_le (unhide HX0) (by simp)) (fun e => unhide HXT e.symm))
    have RAW := hide (make_raw (unhide HW0) ho hg ha)
    have FRZ := hide (raw_frozen (unhide HW0) hg)
    refine hK.out _ _ (fun _ => hS2) ?_
    clear hK K ho hg ha
    try simp only [Act.put, List.setIfInBounds_toArray, List.set_cons_zero, List.set_cons_succ]
    refine wpAnyF_one (i := 13) (o := { dst := some 92, op := Op.nilCheck (Operand.tmp 79), type := 0, pos := "base.go:398", after := #[{ on := 0, ground := Ground.data }, { on := 0, ground := Ground.phase }, { on := 1, ground := Ground.phase }, { on := 2, ground := Ground.phase }, { on := 3, ground := Ground.phase }, { on := 4, ground := Ground.phase }, { on := 5, ground := Ground.phase }, { on := 6, ground := Ground.phase }, { on := 7, ground := Ground.phase }, { on := 8, ground := Ground.phase }, { on := 9, ground := Ground.phase }, { on := 10, ground := Ground.phase }, { on := 11, ground := Ground.phase }, { on := 12, ground := Ground.phase }], guard := none }) (by kernel_rfl) rfl (by kernel_rfl) (fun K hK => ?_)
    go_simp
    refine hK.out _ _ (fun _ => hS2) ?_
    clear hK K
    try simp only [Act.put, List.setIfInBounds_toArray, List.set_cons_zero, List.set_cons_succ]
    refine wpAnyF_one (i := 14) (o := { dst := some 93, op := Op.fieldAddr 58 (Operand.tmp 92) 0, type := 0, pos := "base.go:398", after := #[{ on := 13, ground := Ground.data }, { on := 0, ground := Ground.phase }, { on := 1, ground := Ground.phase }, { on := 2, ground := Ground.phase }, { on := 3, ground := Ground.phase }, { on := 4, ground := Ground.phase }, { on := 5, ground := Ground.phase }, { on := 6, ground := Ground.phase }, { on := 7, ground := Ground.phase }, { on := 8, ground := Ground.phase }, { on := 9, ground := Ground.phase }, { on := 10, ground := Ground.phase }, { on := 11, ground := Ground.phase }, { on := 12, ground := Ground.phase }], guard := none }) (by kernel_rfl) rfl (by kernel_rfl) (fun K hK => ?_)
    go_simp
    refine hK.out _ _ (fun _ => hS2) ?_
    clear hK K
    try simp only [Act.put, List.setIfInBounds_toArray, List.set_cons_zero, List.set_cons_succ]
    refine wpAnyF_one (i := 15) (o := { dst := none, op := Op.store 55 (Operand.tmp 93) (Operand.tmp 91), type := 0, pos := "base.go:398", after := #[{ on := 14, ground := Ground.data }, { on := 12, ground := Ground.data }, { on := 12, ground := Ground.chain }, { on := 0, ground := Ground.phase }, { on := 1, ground := Ground.phase }, { on := 2, ground := Ground.phase }, { on := 3, ground := Ground.phase }, { on := 4, ground := Ground.phase }, { on := 5, ground := Ground.phase }, { on := 6, ground := Ground.phase }, { on := 7, ground := Ground.phase }, { on := 8, ground := Ground.phase }, { on := 9, ground := Ground.phase }, { on := 10, ground := Ground.phase }, { on := 11, ground := Ground.phase }, { on := 12, ground := Ground.phase }], guard := none }) (by kernel_rfl) rfl (by kernel_rfl) (fun K hK => ?_)
    refine wp_st_slT (v := a') (n := l.length + 1) (c := c') (.tmp 93) (.tmp 91) (by kernel_rfl) rfl (by kernel_rfl) (by kernel_rfl) hS2.1 (unhide FRZ) ?_
    refine hK.out _ _ (fun h => absurd rfl h) ?_
    clear hK K
    refine wpAnyF_done (by kernel_rfl) ?_ _
    obtain ⟨WB, hWB⟩ : ∃ WB, WB = W2.setCell ⟨b, 0, none⟩ (.slice a' (l.length + 1) c') := ⟨_, rfl⟩
    have hxb : ∀ (j : Nat) (u : Value), (stpA ⟨2, dir, toDir, p, name, to, text⟩)[j]? = some u → WB.cell? ⟨w.heap.size, j, none⟩ = some u := fun j u hj => by
      rw [hWB, World.cell?_setCell_far _ _ _ _ (unhide HBX)]; exact hS2.2.2 j u hj
    rw [← hWB] at RAW ⊢
    clear hWB hS hS1 hS2 FRZ hTS
    have k0 : WB.cell? ⟨w.heap.size, 0, none⟩ = some (.int .i64 2) := hxb 0 _ rfl
    have HDONE := hide (((unhide RAW).cast (S1 := S.add toDir.toNat to nf) rfl).held (m := l.length + 1) (S1 := S.add toDir.toNat to nf) (unhide BB) (unhide HI) (unhide HTG) (by simp))
    clear hxb
    go_wp2_with fail
    go_ret
    exact ⟨rfl, unhide HDONE⟩
end
end Idl
end Go.Proofs.Ytmhbphmdfnlmkaa
