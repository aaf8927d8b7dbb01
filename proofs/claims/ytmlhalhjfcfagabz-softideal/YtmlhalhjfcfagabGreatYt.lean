/-
  The walk of (*eiderdownref.Ideal).Do: steps that cut. (Written by genjm.py.)
-/
import Derived.Test.YtmlhalhjfcfagabGreatYs
import Derived.Lib.AppendZerosOnto
namespace Go.Proofs.YtmlhalhjfcfagabGreat
open Go.RowKit
namespace Idl
section
variable {w : World} {b : Nat} {S : St} {l : List Tg} {vt vf : Value}
set_option maxHeartbeats 4000000 in
set_option maxRecDepth 100000 in
theorem rDo_cut (h : IRep w b S l vt vf) (h1 : l.length ≤ 1000000) (h2 : S.next ≤ 1000000) (dir toDir p : Int) (name tu text : ByteArray) (hn : name.size ≤ maxLen) (ht : tu.size ≤ maxLen) (hx : text.size ≤ maxLen) (hc : code S ⟨6, dir, toDir, p, name, tu, text⟩ = 0) :
    Calls Tryz.prog 31 #[.pointer (some ⟨b, 0, none⟩), .agg (stpA ⟨6, dir, toDir, p, name, tu, text⟩)] w fun e w' => e = .returned (.int .i64 0) ∧ IHeld b vt vf w w' (step S ⟨6, dir, toDir, p, name, tu, text⟩) l.length := by
  have bel0 : Below w.heap.size w (w.alloc (.cells (stpA ⟨6, dir, toDir, p, name, tu, text⟩) 37)) := (Below.refl _ w).alloc (Nat.le_refl _) _
  have C1 := hide (stepFault_any ⟨6, dir, toDir, p, name, tu, text⟩ hn ht hx (w.alloc (.cells (stpA ⟨6, dir, toDir, p, name, tu, text⟩) 37)))
  have BEL := hide bel0
  have HC := hide fun W bW => stp_kept w ⟨6, dir, toDir, p, name, tu, text⟩ W bW
  have HR := hide h
  have hk : chk ⟨6, dir, toDir, p, name, tu, text⟩ = 0 := by
    cases e : decide (chk ⟨6, dir, toDir, p, name, tu, text⟩ = 0)
    · rw [code_chk (by simpa using e)] at hc; exact hc
    · simpa using e
  rw [hk] at C1
  have g0 := goes hc
  have hpp := g0.part (by simp)
  have hp0 : 0 ≤ p := hpp.1
  have hp2 : p < 2 := hpp.2
  have hlook := g0.old (by simp)
  have hlk : lookS S dir name = some (the S ⟨6, dir, toDir, p, name, tu, text⟩) := by rw [lookS_in g0.din]; exact hlook
  have hnlt : the S ⟨6, dir, toDir, p, name, tu, text⟩ < S.next := old_lt h.inv hlook
  have hst : step S ⟨6, dir, toDir, p, name, tu, text⟩ = S.put (the S ⟨6, dir, toDir, p, name, tu, text⟩) p.toNat false none0 := by
    rcases step_cases hc with ⟨k, _⟩ | ⟨k, _⟩ | ⟨k, _⟩ | ⟨k, _⟩ | ⟨k, e⟩ | ⟨k, e⟩
    all_goals first | exact e | (exfalso; revert k; decide) | (simp at k)
  have HI := hide (inv_step h.inv ⟨6, dir, toDir, p, name, tu, text⟩)
  rw [hst] at HI ⊢
  rcases atI_lookS h.tags dir name with ⟨_, a2⟩ | ⟨i, hi, _, a1, a2⟩
  · rw [hlk] at a2; cases a2
  · obtain ⟨n, hnn⟩ : ∃ n, n = the S ⟨6, dir, toDir, p, name, tu, text⟩ := ⟨_, rfl⟩
    rw [← hnn] at hnlt HI hlk ⊢
    have hfile : l[i].file = n := by rw [hlk] at a2; cases a2; rfl
    have HA := hide a1
    obtain ⟨pp, rfl⟩ := Int.eq_ofNat_of_zero_le hp0
    have hpn : pp < 2 := by omega
    rw [Int.toNat_natCast] at HI ⊢
    have hp01 : pp = 0 ∨ pp = 1 := by omega
    clear hc hk g0 hpp hp0 hp2 hlook hst a1 a2 hnn hlk bel0 hpn
    rcases hp01 with rfl | rfl
    · skip
      go_enter Tryz.func31, Tryz.ntmps31
      go_wp2_with fail
      refine (unhide C1).mono ?_
      rintro e w1 ⟨rfl, bel⟩
      have B1 : Below w.heap.size w w1 := (unhide BEL).trans (bel.mono (by simp))
      have c1 : w1.cell? ⟨w.heap.size, 1, none⟩ = some (.int .i64 dir) := unhide HC w1 bel 1 _ rfl
      have c4 : w1.cell? ⟨w.heap.size, 4, none⟩ = some (.string name) := unhide HC w1 bel 4 _ rfl
      obtain ⟨ta, fa, tc, fc, e1, e2, R1⟩ := ((unhide HR).below B1).rd h1 h2
      have C2 := hide (rAt_any dir name w1 R1)
      rw [unhide HA] at C2
      have BL := hide bel
      clear R1 bel HA e1 e2
      go_wp2_with fail
      refine (unhide C2).mono ?_
      rintro e w2 ⟨rfl, q, rfl⟩
      have B2 : Below w.heap.size w (w1.drewN q) := belowN B1
      have b2 : Below (w.alloc (.cells (stpA ⟨6, dir, toDir, ((0 : Nat) : Int), name, tu, text⟩) 37)).heap.size (w.alloc (.cells (stpA ⟨6, dir, toDir, ((0 : Nat) : Int), name, tu, text⟩) 37)) (w1.drewN q) := belowN (unhide BL)
      clear B1 BL c1 c4 C2
      generalize w1.drewN q = W at B2 b2 ⊢
      have HW := hide ((unhide HR).below B2)
      have c0 : W.cell? ⟨w.heap.size, 0, none⟩ = some (.int .i64 6) := unhide HC W b2 0 _ rfl
      have c3 : W.cell? ⟨w.heap.size, 3, none⟩ = some (.int .i64 0) := unhide HC W b2 3 _ rfl
      have c6 : W.cell? ⟨w.heap.size, 6, none⟩ = some (.string text) := unhide HC W b2 6 _ rfl
      obtain ⟨g2, cp2, ev, hgl, hgc⟩ := row_cell (unhide HW).rowF (by omega)
      subst ev
      obtain ⟨ta, fa, tc, fc, et, ef, R2⟩ := (unhide HW).rd h1 h2
      simp only [Value.slice.injEq] at ef
      obtain ⟨rfl, _, ecp⟩ := ef
      subst ecp
      have tv := R2.tv
      have fv := R2.fv
      have blt := R2.lt
      obtain ⟨gt, ot, rfl, hgt, _, _, t2⟩ := R2.tags i hi
      rw [hfile] at t2
      obtain ⟨gf, og, ef, hgf, f1', f2'⟩ := R2.files n hnlt
      simp only [Option.some.injEq, Addr.mk.injEq, and_true] at ef
      obtain ⟨rfl, rfl⟩ := ef
      rw [Nat.zero_add] at f1' f2'
      have f1 := f1' 0 (by omega)
      have f2 := f2' 0 (by omega)
      have z1 : W.frozen? ⟨g2, n * 4 + 0, none⟩ = false := (unhide HW).rowF.frozenAt _
      have z2 : (W.setCell ⟨g2, n * 4 + 0, none⟩ (.bool false)).frozen? ⟨g2, n * 4 + 2 + 0, none⟩ = false := ((unhide HW).rowF.stored _ _).1.frozenAt _
      have f2 : (W.setCell ⟨g2, n * 4 + 0, none⟩ (.bool false)).cell? ⟨g2, n * 4 + 2 + 0, none⟩ = some (.string (S.txt n 0)) := by
        rw [World.cell?_setCell_other _ _ _ _ (by simp only [ne_eq, Addr.mk.injEq, not_and]; omega)]; exact f2
      have hbg : b ≠ g2 := fun e => (unhide HW).offF (by rw [e]; rfl)
      have hxg : w.heap.size ≠ g2 := fun e => by
        have := (unhide HR).lt (k := g2) (.inr (.inr rfl))
        omega
      have FIN := hide (((unhide HW).below (Below.refl _ _).drew).put hnlt (show 0 < 2 by omega) false ⟨#[]⟩ (unhide HI))
      have iz : (i : Int) < (l.length : Int) := by omega
      have u1 : decide ((i : Int) < 0) = false := by simp
      have BB := hide B2
      have hPS : PS b w.heap.size S.next g2 cp2 (0 : Int) text W.drew := ⟨fv, c3, c6⟩
      obtain ⟨ln, hln⟩ : ∃ ln, ln = l.length := ⟨_, rfl⟩
      obtain ⟨xb, hxb⟩ : ∃ xb, xb = w.heap.size := ⟨_, rfl⟩
      have HX := hide hxb
      clear f1' f2' R2 et hgc B2 b2 HI
      go_wp2_with fail
      try (go_quiet (fail); go_wp2_with fail)
      refine wp_region_held_drew (S := PS b w.heap.size S.next g2 cp2 (0 : Int) text) (by kernel_rfl) hPS (fun hS => ?_)
      refine wpAnyH_take (i := 0) (oi := { dst := some 150, op := Op.move (Operand.tmp 0), type := 67, pos := "base.go:409", after := #[], guard := none }) (v := .pointer (some ⟨b, 0, none⟩)) rfl (by kernel_rfl) (by kernel_rfl) (by kernel_rfl) (fun _ _ _ h => h) (Or.inl ⟨by kernel_rfl, fun W h => (by first | kernel_rfl | go_simp)⟩) hS ?_
      simp only [Act.put, List.setIfInBounds_toArray, List.set_cons_zero, List.set_cons_succ]
      refine wpAnyH_take (i := 1) (oi := { dst := some 151, op := Op.nilCheck (Operand.tmp 150), type := 0, pos := "base.go:409", after := #[{ on := 0, ground := Ground.data }], guard := none }) (v := .pointer (some ⟨b, 0, none⟩)) rfl (by kernel_rfl) (by kernel_rfl) (by kernel_rfl) (fun _ _ _ h => h) (Or.inl ⟨by kernel_rfl, fun W h => (by first | kernel_rfl | go_simp)⟩) hS ?_
      simp only [Act.put, List.setIfInBounds_toArray, List.set_cons_zero, List.set_cons_succ]
      refine wpAnyH_take (i := 2) (oi := { dst := some 152, op := Op.fieldAddr 71 (Operand.tmp 151) 1, type := 0, pos := "base.go:409", after := #[{ on := 1, ground := Ground.data }], guard := none }) (v := .pointer (some ⟨b, 1, none⟩)) rfl (by kernel_rfl) (by kernel_rfl) (by kernel_rfl) (fun _ _ _ h => h) (Or.inl ⟨by kernel_rfl, fun W h => (by first | kernel_rfl | go_simp)⟩) hS ?_
      simp only [Act.put, List.setIfInBounds_toArray, List.set_cons_zero, List.set_cons_succ]
      refine wpAnyH_take (i := 3) (oi := { dst := some 153, op := Op.load 69 (Operand.tmp 152), type := 69, pos := "base.go:409", after := #[{ on := 2, ground := Ground.data }], guard := none }) (v := .slice (some ⟨g2, 0, none⟩) S.next cp2) rfl (by kernel_rfl) (by kernel_rfl) (by kernel_rfl) (fun _ _ _ h => h) (Or.inl ⟨by kernel_rfl, fun W h => run_ld_sl (.tmp 152) (by kernel_rfl) (by kernel_rfl) W h.1⟩) hS ?_
      simp only [Act.put, List.setIfInBounds_toArray, List.set_cons_zero, List.set_cons_succ]
      refine wpAnyH_take (i := 4) (oi := { dst := some 154, op := Op.move (Operand.tmp 7), type := 3, pos := "base.go:409", after := #[], guard := none }) (v := .int .i64 (n : Nat)) rfl (by kernel_rfl) (by kernel_rfl) (by kernel_rfl) (fun _ _ _ h => h) (Or.inl ⟨by kernel_rfl, fun W h => (by first | kernel_rfl | go_simp)⟩) hS ?_
      simp only [Act.put, List.setIfInBounds_toArray, List.set_cons_zero, List.set_cons_succ]
      refine wpAnyH_take (i := 5) (oi := { dst := some 155, op := Op.fieldAddr 37 (Operand.tmp 3) 3, type := 0, pos := "base.go:409", after := #[], guard := none }) (v := .pointer (some ⟨w.heap.size, 3, none⟩)) rfl (by kernel_rfl) (by kernel_rfl) (by kernel_rfl) (fun _ _ _ h => h) (Or.inl ⟨by kernel_rfl, fun W h => (by first | kernel_rfl | go_simp)⟩) hS ?_
      simp only [Act.put, List.setIfInBounds_toArray, List.set_cons_zero, List.set_cons_succ]
      refine wpAnyH_take (i := 6) (oi := { dst := some 156, op := Op.load 3 (Operand.tmp 155), type := 3, pos := "base.go:409", after := #[{ on := 5, ground := Ground.data }], guard := none }) (v := .int .i64 0) rfl (by kernel_rfl) (by kernel_rfl) (by kernel_rfl) (fun _ _ _ h => h) (Or.inl ⟨by kernel_rfl, fun W h => run_ld_int (.tmp 155) (by kernel_rfl) (by kernel_rfl) W h.2.1⟩) hS ?_
      simp only [Act.put, List.setIfInBounds_toArray, List.set_cons_zero, List.set_cons_succ]
      refine wpAnyH_take (i := 7) (oi := { dst := some 157, op := Op.move (Operand.tmp 0), type := 67, pos := "base.go:409", after := #[], guard := none }) (v := .pointer (some ⟨b, 0, none⟩)) rfl (by kernel_rfl) (by kernel_rfl) (by kernel_rfl) (fun _ _ _ h => h) (Or.inl ⟨by kernel_rfl, fun W h => (by first | kernel_rfl | go_simp)⟩) hS ?_
      simp only [Act.put, List.setIfInBounds_toArray, List.set_cons_zero, List.set_cons_succ]
      refine wpAnyH_take (i := 8) (oi := { dst := some 158, op := Op.nilCheck (Operand.tmp 157), type := 0, pos := "base.go:409", after := #[{ on := 7, ground := Ground.data }], guard := none }) (v := .pointer (some ⟨b, 0, none⟩)) rfl (by kernel_rfl) (by kernel_rfl) (by kernel_rfl) (fun _ _ _ h => h) (Or.inl ⟨by kernel_rfl, fun W h => (by first | kernel_rfl | go_simp)⟩) hS ?_
      simp only [Act.put, List.setIfInBounds_toArray, List.set_cons_zero, List.set_cons_succ]
      refine wpAnyH_take (i := 9) (oi := { dst := some 159, op := Op.fieldAddr 71 (Operand.tmp 158) 1, type := 0, pos := "base.go:409", after := #[{ on := 8, ground := Ground.data }], guard := none }) (v := .pointer (some ⟨b, 1, none⟩)) rfl (by kernel_rfl) (by kernel_rfl) (by kernel_rfl) (fun _ _ _ h => h) (Or.inl ⟨by kernel_rfl, fun W h => (by first | kernel_rfl | go_simp)⟩) hS ?_
      simp only [Act.put, List.setIfInBounds_toArray, List.set_cons_zero, List.set_cons_succ]
      refine wpAnyH_take (i := 10) (oi := { dst := some 160, op := Op.load 69 (Operand.tmp 159), type := 69, pos := "base.go:409", after := #[{ on := 9, ground := Ground.data }], guard := none }) (v := .slice (some ⟨g2, 0, none⟩) S.next cp2) rfl (by kernel_rfl) (by kernel_rfl) (by kernel_rfl) (fun _ _ _ h => h) (Or.inl ⟨by kernel_rfl, fun W h => run_ld_sl (.tmp 159) (by kernel_rfl) (by kernel_rfl) W h.1⟩) hS ?_
      simp only [Act.put, List.setIfInBounds_toArray, List.set_cons_zero, List.set_cons_succ]
      refine wpAnyH_take (i := 11) (oi := { dst := some 161, op := Op.move (Operand.tmp 7), type := 3, pos := "base.go:409", after := #[{ on := 17, ground := Ground.gcOnly Departure.lateStores }], guard := none }) (v := .int .i64 (n : Nat)) rfl (by kernel_rfl) (by kernel_rfl) (by kernel_rfl) (fun _ _ _ h => h) (Or.inl ⟨by kernel_rfl, fun W h => (by first | kernel_rfl | go_simp)⟩) hS ?_
      simp only [Act.put, List.setIfInBounds_toArray, List.set_cons_zero, List.set_cons_succ]
      refine wpAnyH_take (i := 12) (oi := { dst := some 162, op := Op.fieldAddr 37 (Operand.tmp 3) 3, type := 0, pos := "base.go:409", after := #[{ on := 17, ground := Ground.gcOnly Departure.lateStores }], guard := none }) (v := .pointer (some ⟨w.heap.size, 3, none⟩)) rfl (by kernel_rfl) (by kernel_rfl) (by kernel_rfl) (fun _ _ _ h => h) (Or.inl ⟨by kernel_rfl, fun W h => (by first | kernel_rfl | go_simp)⟩) hS ?_
      simp only [Act.put, List.setIfInBounds_toArray, List.set_cons_zero, List.set_cons_succ]
      refine wpAnyH_take (i := 13) (oi := { dst := some 163, op := Op.load 3 (Operand.tmp 162), type := 3, pos := "base.go:409", after := #[{ on := 12, ground := Ground.data }, { on := 17, ground := Ground.gcOnly Departure.lateStores }], guard := none }) (v := .int .i64 0) rfl (by kernel_rfl) (by kernel_rfl) (by kernel_rfl) (fun _ _ _ h => h) (Or.inl ⟨by kernel_rfl, fun W h => run_ld_int (.tmp 162) (by kernel_rfl) (by kernel_rfl) W h.2.1⟩) hS ?_
      simp only [Act.put, List.setIfInBounds_toArray, List.set_cons_zero, List.set_cons_succ]
      refine wpAnyH_take (i := 14) (oi := { dst := some 164, op := Op.indexAddr 69 (Operand.tmp 153) (Operand.tmp 154), type := 0, pos := "base.go:409", after := #[{ on := 3, ground := Ground.data }, { on := 4, ground := Ground.data }], guard := none }) (v := .pointer (some ⟨g2, n * 4, none⟩)) rfl (by kernel_rfl) (by kernel_rfl) (by kernel_rfl) (fun _ _ _ h => h) (Or.inl ⟨by kernel_rfl, fun W h => run_idx_file (c := cp2) (.tmp 153) (.tmp 154) (by kernel_rfl) (by kernel_rfl) (by kernel_rfl) hnlt W⟩) hS ?_
      simp only [Act.put, List.setIfInBounds_toArray, List.set_cons_zero, List.set_cons_succ]
      refine wpAnyH_take (i := 15) (oi := { dst := some 165, op := Op.fieldAddr 100 (Operand.tmp 164) 0, type := 0, pos := "base.go:409", after := #[{ on := 14, ground := Ground.data }], guard := none }) (v := .pointer (some ⟨g2, n * 4, none⟩)) rfl (by kernel_rfl) (by kernel_rfl) (by kernel_rfl) (fun _ _ _ h => h) (Or.inl ⟨by kernel_rfl, fun W h => (by first | kernel_rfl | go_simp)⟩) hS ?_
      simp only [Act.put, List.setIfInBounds_toArray, List.set_cons_zero, List.set_cons_succ]
      refine wpAnyH_take (i := 16) (oi := { dst := some 166, op := Op.indexAddr 97 (Operand.tmp 165) (Operand.tmp 156), type := 0, pos := "base.go:409", after := #[{ on := 15, ground := Ground.data }, { on := 6, ground := Ground.data }, { on := 0, ground := Ground.phase }, { on := 1, ground := Ground.phase }, { on := 2, ground := Ground.phase }, { on := 3, ground := Ground.phase }, { on := 4, ground := Ground.phase }, { on := 5, ground := Ground.phase }, { on := 6, ground := Ground.phase }, { on := 7, ground := Ground.textOnly Departure.lateStores }, { on := 8, ground := Ground.textOnly Departure.lateStoresUnsure }, { on := 9, ground := Ground.textOnly Departure.lateStoresUnsure }, { on := 10, ground := Ground.phase }, { on := 11, ground := Ground.textOnly Departure.lateStores }, { on := 12, ground := Ground.textOnly Departure.lateStores }, { on := 13, ground := Ground.textOnly Departure.lateStores }], guard := none }) (v := .pointer (some ⟨g2, n * 4 + 0, none⟩)) rfl (by kernel_rfl) (by kernel_rfl) (by kernel_rfl) (fun _ _ _ h => h) (Or.inl ⟨by kernel_rfl, fun W h => (by first | kernel_rfl | go_simp)⟩) hS ?_
      simp only [Act.put, List.setIfInBounds_toArray, List.set_cons_zero, List.set_cons_succ]
      refine wpAnyH_take (i := 18) (oi := { dst := some 167, op := Op.indexAddr 69 (Operand.tmp 160) (Operand.tmp 161), type := 0, pos := "base.go:409", after := #[{ on := 10, ground := Ground.data }, { on := 11, ground := Ground.data }], guard := none }) (v := .pointer (some ⟨g2, n * 4, none⟩)) rfl (by kernel_rfl) (by kernel_rfl) (by kernel_rfl) (fun _ _ _ h => h) (Or.inl ⟨by kernel_rfl, fun W h => run_idx_file (c := cp2) (.tmp 160) (.tmp 161) (by kernel_rfl) (by kernel_rfl) (by kernel_rfl) hnlt W⟩) hS ?_
      simp only [Act.put, List.setIfInBounds_toArray, List.set_cons_zero, List.set_cons_succ]
      refine wpAnyH_take (i := 19) (oi := { dst := some 168, op := Op.fieldAddr 100 (Operand.tmp 167) 1, type := 0, pos := "base.go:409", after := #[{ on := 18, ground := Ground.data }], guard := none }) (v := .pointer (some ⟨g2, n * 4 + 2, none⟩)) rfl (by kernel_rfl) (by kernel_rfl) (by kernel_rfl) (fun _ _ _ h => h) (Or.inl ⟨by kernel_rfl, fun W h => (by first | kernel_rfl | go_simp)⟩) hS ?_
      simp only [Act.put, List.setIfInBounds_toArray, List.set_cons_zero, List.set_cons_succ]
      refine wpAnyH_ready (rs := [17]) (by kernel_rfl) (by simp) ?_
      refine AllReadyH.cons (o := { dst := none, op := Op.store 4 (Operand.tmp 166) (Operand.const (Value.bool false)), type := 0, pos := "base.go:409", after := #[{ on := 16, ground := Ground.data }, { on := 0, ground := Ground.phase }, { on := 1, ground := Ground.phase }, { on := 2, ground := Ground.phase }, { on := 3, ground := Ground.phase }, { on := 4, ground := Ground.phase }, { on := 5, ground := Ground.phase }, { on := 6, ground := Ground.phase }, { on := 7, ground := Ground.textOnly Departure.lateStores }, { on := 8, ground := Ground.textOnly Departure.lateStoresUnsure }, { on := 9, ground := Ground.textOnly Departure.lateStoresUnsure }, { on := 10, ground := Ground.phase }, { on := 11, ground := Ground.textOnly Departure.lateStores }, { on := 12, ground := Ground.textOnly Departure.lateStores }, { on := 13, ground := Ground.textOnly Departure.lateStores }], guard := none }) rfl (fun K hK => ?_) AllReadyH.nil
      rw [if_pos (by kernel_rfl)]
      refine wp_st_bool (v := false) (.tmp 166) (.const (.bool false)) (by kernel_rfl) rfl (by kernel_rfl) (by kernel_rfl) f1 z1 ?_
      refine hK.out _ _ (hS.far hbg hxg) (fun hS2 => ?_)
      clear hK K
      refine wpAnyH_take (i := 20) (oi := { dst := some 169, op := Op.indexAddr 98 (Operand.tmp 168) (Operand.tmp 163), type := 0, pos := "base.go:409", after := #[{ on := 19, ground := Ground.data }, { on := 13, ground := Ground.data }, { on := 0, ground := Ground.phase }, { on := 1, ground := Ground.phase }, { on := 2, ground := Ground.phase }, { on := 3, ground := Ground.phase }, { on := 4, ground := Ground.phase }, { on := 5, ground := Ground.phase }, { on := 6, ground := Ground.phase }, { on := 7, ground := Ground.phase }, { on := 8, ground := Ground.phase }, { on := 9, ground := Ground.phase }, { on := 10, ground := Ground.phase }, { on := 11, ground := Ground.phase }, { on := 12, ground := Ground.phase }, { on := 13, ground := Ground.phase }, { on := 14, ground := Ground.phase }, { on := 15, ground := Ground.phase }, { on := 16, ground := Ground.phase }, { on := 17, ground := Ground.phase }], guard := none }) (v := .pointer (some ⟨g2, n * 4 + 2 + 0, none⟩)) rfl (by kernel_rfl) (by kernel_rfl) (by kernel_rfl) (fun _ _ _ h => h) (Or.inl ⟨by kernel_rfl, fun W h => (by first | kernel_rfl | go_simp)⟩) hS2 ?_
      simp only [Act.put, List.setIfInBounds_toArray, List.set_cons_zero, List.set_cons_succ]
      refine wpAnyH_ready (rs := [21]) (by kernel_rfl) (by simp) ?_
      refine AllReadyH.cons (o := { dst := none, op := Op.store 9 (Operand.tmp 169) (Operand.const (Value.string { data := #[] })), type := 0, pos := "base.go:409", after := #[{ on := 20, ground := Ground.data }, { on := 17, ground := Ground.chain }, { on := 0, ground := Ground.phase }, { on := 1, ground := Ground.phase }, { on := 2, ground := Ground.phase }, { on := 3, ground := Ground.phase }, { on := 4, ground := Ground.phase }, { on := 5, ground := Ground.phase }, { on := 6, ground := Ground.phase }, { on := 7, ground := Ground.phase }, { on := 8, ground := Ground.phase }, { on := 9, ground := Ground.phase }, { on := 10, ground := Ground.phase }, { on := 11, ground := Ground.phase }, { on := 12, ground := Ground.phase }, { on := 13, ground := Ground.phase }, { on := 14, ground := Ground.phase }, { on := 15, ground := Ground.phase }, { on := 16, ground := Ground.phase }, { on := 17, ground := Ground.phase }], guard := none }) rfl (fun K hK => ?_) AllReadyH.nil
      rw [if_pos (by kernel_rfl)]
      refine wp_st_str (v := ⟨#[]⟩) (.tmp 169) (.const (.string ⟨#[]⟩)) (by kernel_rfl) rfl (by kernel_rfl) (by kernel_rfl) f2 z2 ?_
      refine hK.out _ _ (hS2.far hbg hxg) (fun hS3 => ?_)
      clear hK K
      refine wpAnyH_done (by kernel_rfl) ?_ _
      have k0 : ((W.drew.setCell ⟨g2, n * 4 + 0, none⟩ (.bool false)).setCell ⟨g2, n * 4 + 2 + 0, none⟩ (.string ⟨#[]⟩)).cell? ⟨w.heap.size, 0, none⟩ = some (.int .i64 6) := by
        rw [World.cell?_setCell_far _ _ _ _ (Ne.symm hxg), World.cell?_setCell_far _ _ _ _ (Ne.symm hxg)]; exact c0
      have DONE := hide (IHeld.of ((unhide BB).drew) (unhide FIN))
      clear hS hS2 hS3 FIN
      generalize ((W.drew.setCell ⟨g2, n * 4 + 0, none⟩ (.bool false)).setCell ⟨g2, n * 4 + 2 + 0, none⟩ (.string ⟨#[]⟩)) = WE at k0 DONE ⊢
      clear f1 f2 z1 z2 hPS tv fv t2 c0 c3 c6
      go_wp2_with fail
      go_ret
      exact ⟨rfl, unhide DONE⟩
    · skip
      go_enter Tryz.func31, Tryz.ntmps31
      go_wp2_with fail
      refine (unhide C1).mono ?_
      rintro e w1 ⟨rfl, bel⟩
      have B1 : Below w.heap.size w w1 := (unhide BEL).trans (bel.mono (by simp))
      have c1 : w1.cell? ⟨w.heap.size, 1, none⟩ = some (.int .i64 dir) := unhide HC w1 bel 1 _ rfl
      have c4 : w1.cell? ⟨w.heap.size, 4, none⟩ = some (.string name) := unhide HC w1 bel 4 _ rfl
      obtain ⟨ta, fa, tc, fc, e1, e2, R1⟩ := ((unhide HR).below B1).rd h1 h2
      have C2 := hide (rAt_any dir name w1 R1)
      rw [unhide HA] at C2
      have BL := hide bel
      clear R1 bel HA e1 e2
      go_wp2_with fail
      refine (unhide C2).mono ?_
      rintro e w2 ⟨rfl, q, rfl⟩
      have B2 : Below w.heap.size w (w1.drewN q) := belowN B1
      have b2 : Below (w.alloc (.cells (stpA ⟨6, dir, toDir, ((1 : Nat) : Int), name, tu, text⟩) 37)).heap.size (w.alloc (.cells (stpA ⟨6, dir, toDir, ((1 : Nat) : Int), name, tu, text⟩) 37)) (w1.drewN q) := belowN (unhide BL)
      clear B1 BL c1 c4 C2
      generalize w1.drewN q = W at B2 b2 ⊢
      have HW := hide ((unhide HR).below B2)
      have c0 : W.cell? ⟨w.heap.size, 0, none⟩ = some (.int .i64 6) := unhide HC W b2 0 _ rfl
      have c3 : W.cell? ⟨w.heap.size, 3, none⟩ = some (.int .i64 1) := unhide HC W b2 3 _ rfl
      have c6 : W.cell? ⟨w.heap.size, 6, none⟩ = some (.string text) := unhide HC W b2 6 _ rfl
      obtain ⟨g2, cp2, ev, hgl, hgc⟩ := row_cell (unhide HW).rowF (by omega)
      subst ev
      obtain ⟨ta, fa, tc, fc, et, ef, R2⟩ := (unhide HW).rd h1 h2
      simp only [Value.slice.injEq] at ef
      obtain ⟨rfl, _, ecp⟩ := ef
      subst ecp
      have tv := R2.tv
      have fv := R2.fv
      have blt := R2.lt
      obtain ⟨gt, ot, rfl, hgt, _, _, t2⟩ := R2.tags i hi
      rw [hfile] at t2
      obtain ⟨gf, og, ef, hgf, f1', f2'⟩ := R2.files n hnlt
      simp only [Option.some.injEq, Addr.mk.injEq, and_true] at ef
      obtain ⟨rfl, rfl⟩ := ef
      rw [Nat.zero_add] at f1' f2'
      have f1 := f1' 1 (by omega)
      have f2 := f2' 1 (by omega)
      have z1 : W.frozen? ⟨g2, n * 4 + 1, none⟩ = false := (unhide HW).rowF.frozenAt _
      have z2 : (W.setCell ⟨g2, n * 4 + 1, none⟩ (.bool false)).frozen? ⟨g2, n * 4 + 2 + 1, none⟩ = false := ((unhide HW).rowF.stored _ _).1.frozenAt _
      have f2 : (W.setCell ⟨g2, n * 4 + 1, none⟩ (.bool false)).cell? ⟨g2, n * 4 + 2 + 1, none⟩ = some (.string (S.txt n 1)) := by
        rw [World.cell?_setCell_other _ _ _ _ (by simp only [ne_eq, Addr.mk.injEq, not_and]; omega)]; exact f2
      have hbg : b ≠ g2 := fun e => (unhide HW).offF (by rw [e]; rfl)
      have hxg : w.heap.size ≠ g2 := fun e => by
        have := (unhide HR).lt (k := g2) (.inr (.inr rfl))
        omega
      have FIN := hide (((unhide HW).below (Below.refl _ _).drew).put hnlt (show 1 < 2 by omega) false ⟨#[]⟩ (unhide HI))
      have iz : (i : Int) < (l.length : Int) := by omega
      have u1 : decide ((i : Int) < 0) = false := by simp
      have BB := hide B2
      have hPS : PS b w.heap.size S.next g2 cp2 (1 : Int) text W.drew := ⟨fv, c3, c6⟩
      obtain ⟨ln, hln⟩ : ∃ ln, ln = l.length := ⟨_, rfl⟩
      obtain ⟨xb, hxb⟩ : ∃ xb, xb = w.heap.size := ⟨_, rfl⟩
      have HX := hide hxb
      clear f1' f2' R2 et hgc B2 b2 HI
      go_wp2_with fail
      try (go_quiet (fail); go_wp2_with fail)
      refine wp_region_held_drew (S := PS b w.heap.size S.next g2 cp2 (1 : Int) text) (by kernel_rfl) hPS (fun hS => ?_)
      refine wpAnyH_take (i := 0) (oi := { dst := some 150, op := Op.move (Operand.tmp 0), type := 67, pos := "base.go:409", after := #[], guard := none }) (v := .pointer (some ⟨b, 0, none⟩)) rfl (by kernel_rfl) (by kernel_rfl) (by kernel_rfl) (fun _ _ _ h => h) (Or.inl ⟨by kernel_rfl, fun W h => (by first | kernel_rfl | go_simp)⟩) hS ?_
      simp only [Act.put, List.setIfInBounds_toArray, List.set_cons_zero, List.set_cons_succ]
      refine wpAnyH_take (i := 1) (oi := { dst := some 151, op := Op.nilCheck (Operand.tmp 150), type := 0, pos := "base.go:409", after := #[{ on := 0, ground := Ground.data }], guard := none }) (v := .pointer (some ⟨b, 0, none⟩)) rfl (by kernel_rfl) (by kernel_rfl) (by kernel_rfl) (fun _ _ _ h => h) (Or.inl ⟨by kernel_rfl, fun W h => (by first | kernel_rfl | go_simp)⟩) hS ?_
      simp only [Act.put, List.setIfInBounds_toArray, List.set_cons_zero, List.set_cons_succ]
      refine wpAnyH_take (i := 2) (oi := { dst := some 152, op := Op.fieldAddr 71 (Operand.tmp 151) 1, type := 0, pos := "base.go:409", after := #[{ on := 1, ground := Ground.data }], guard := none }) (v := .pointer (some ⟨b, 1, none⟩)) rfl (by kernel_rfl) (by kernel_rfl) (by kernel_rfl) (fun _ _ _ h => h) (Or.inl ⟨by kernel_rfl, fun W h => (by first | kernel_rfl | go_simp)⟩) hS ?_
      simp only [Act.put, List.setIfInBounds_toArray, List.set_cons_zero, List.set_cons_succ]
      refine wpAnyH_take (i := 3) (oi := { dst := some 153, op := Op.load 69 (Operand.tmp 152), type := 69, pos := "base.go:409", after := #[{ on := 2, ground := Ground.data }], guard := none }) (v := .slice (some ⟨g2, 0, none⟩) S.next cp2) rfl (by kernel_rfl) (by kernel_rfl) (by kernel_rfl) (fun _ _ _ h => h) (Or.inl ⟨by kernel_rfl, fun W h => run_ld_sl (.tmp 152) (by kernel_rfl) (by kernel_rfl) W h.1⟩) hS ?_
      simp only [Act.put, List.setIfInBounds_toArray, List.set_cons_zero, List.set_cons_succ]
      refine wpAnyH_take (i := 4) (oi := { dst := some 154, op := Op.move (Operand.tmp 7), type := 3, pos := "base.go:409", after := #[], guard := none }) (v := .int .i64 (n : Nat)) rfl (by kernel_rfl) (by kernel_rfl) (by kernel_rfl) (fun _ _ _ h => h) (Or.inl ⟨by kernel_rfl, fun W h => (by first | kernel_rfl | go_simp)⟩) hS ?_
      simp only [Act.put, List.setIfInBounds_toArray, List.set_cons_zero, List.set_cons_succ]
      refine wpAnyH_take (i := 5) (oi := { dst := some 155, op := Op.fieldAddr 37 (Operand.tmp 3) 3, type := 0, pos := "base.go:409", after := #[], guard := none }) (v := .pointer (some ⟨w.heap.size, 3, none⟩)) rfl (by kernel_rfl) (by kernel_rfl) (by kernel_rfl) (fun _ _ _ h => h) (Or.inl ⟨by kernel_rfl, fun W h => (by first | kernel_rfl | go_simp)⟩) hS ?_
      simp only [Act.put, List.setIfInBounds_toArray, List.set_cons_zero, List.set_cons_succ]
      refine wpAnyH_take (i := 6) (oi := { dst := some 156, op := Op.load 3 (Operand.tmp 155), type := 3, pos := "base.go:409", after := #[{ on := 5, ground := Ground.data }], guard := none }) (v := .int .i64 1) rfl (by kernel_rfl) (by kernel_rfl) (by kernel_rfl) (fun _ _ _ h => h) (Or.inl ⟨by kernel_rfl, fun W h => run_ld_int (.tmp 155) (by kernel_rfl) (by kernel_rfl) W h.2.1⟩) hS ?_
      simp only [Act.put, List.setIfInBounds_toArray, List.set_cons_zero, List.set_cons_succ]
      refine wpAnyH_take (i := 7) (oi := { dst := some 157, op := Op.move (Operand.tmp 0), type := 67, pos := "base.go:409", after := #[], guard := none }) (v := .pointer (some ⟨b, 0, none⟩)) rfl (by kernel_rfl) (by kernel_rfl) (by kernel_rfl) (fun _ _ _ h => h) (Or.inl ⟨by kernel_rfl, fun W h => (by first | kernel_rfl | go_simp)⟩) hS ?_
      simp only [Act.put, List.setIfInBounds_toArray, List.set_cons_zero, List.set_cons_succ]
      refine wpAnyH_take (i := 8) (oi := { dst := some 158, op := Op.nilCheck (Operand.tmp 157), type := 0, pos := "base.go:409", after := #[{ on := 7, ground := Ground.data }], guard := none }) (v := .pointer (some ⟨b, 0, none⟩)) rfl (by kernel_rfl) (by kernel_rfl) (by kernel_rfl) (fun _ _ _ h => h) (Or.inl ⟨by kernel_rfl, fun W h => (by first | kernel_rfl | go_simp)⟩) hS ?_
      simp only [Act.put, List.setIfInBounds_toArray, List.set_cons_zero, List.set_cons_succ]
      refine wpAnyH_take (i := 9) (oi := { dst := some 159, op := Op.fieldAddr 71 (Operand.tmp 158) 1, type := 0, pos := "base.go:409", after := #[{ on := 8, ground := Ground.data }], guard := none }) (v := .pointer (some ⟨b, 1, none⟩)) rfl (by kernel_rfl) (by kernel_rfl) (by kernel_rfl) (fun _ _ _ h => h) (Or.inl ⟨by kernel_rfl, fun W h => (by first | kernel_rfl | go_simp)⟩) hS ?_
      simp only [Act.put, List.setIfInBounds_toArray, List.set_cons_zero, List.set_cons_succ]
      refine wpAnyH_take (i := 10) (oi := { dst := some 160, op := Op.load 69 (Operand.tmp 159), type := 69, pos := "base.go:409", after := #[{ on := 9, ground := Ground.data }], guard := none }) (v := .slice (some ⟨g2, 0, none⟩) S.next cp2) rfl (by kernel_rfl) (by kernel_rfl) (by kernel_rfl) (fun _ _ _ h => h) (Or.inl ⟨by kernel_rfl, fun W h => run_ld_sl (.tmp 159) (by kernel_rfl) (by kernel_rfl) W h.1⟩) hS ?_
      simp only [Act.put, List.setIfInBounds_toArray, List.set_cons_zero, List.set_cons_succ]
      refine wpAnyH_take (i := 11) (oi := { dst := some 161, op := Op.move (Operand.tmp 7), type := 3, pos := "base.go:409", after := #[{ on := 17, ground := Ground.gcOnly Departure.lateStores }], guard := none }) (v := .int .i64 (n : Nat)) rfl (by kernel_rfl) (by kernel_rfl) (by kernel_rfl) (fun _ _ _ h => h) (Or.inl ⟨by kernel_rfl, fun W h => (by first | kernel_rfl | go_simp)⟩) hS ?_
      simp only [Act.put, List.setIfInBounds_toArray, List.set_cons_zero, List.set_cons_succ]
      refine wpAnyH_take (i := 12) (oi := { dst := some 162, op := Op.fieldAddr 37 (Operand.tmp 3) 3, type := 0, pos := "base.go:409", after := #[{ on := 17, ground := Ground.gcOnly Departure.lateStores }], guard := none }) (v := .pointer (some ⟨w.heap.size, 3, none⟩)) rfl (by kernel_rfl) (by kernel_rfl) (by kernel_rfl) (fun _ _ _ h => h) (Or.inl ⟨by kernel_rfl, fun W h => (by first | kernel_rfl | go_simp)⟩) hS ?_
      simp only [Act.put, List.setIfInBounds_toArray, List.set_cons_zero, List.set_cons_succ]
      refine wpAnyH_take (i := 13) (oi := { dst := some 163, op := Op.load 3 (Operand.tmp 162), type := 3, pos := "base.go:409", after := #[{ on := 12, ground := Ground.data }, { on := 17, ground := Ground.gcOnly Departure.lateStores }], guard := none }) (v := .int .i64 1) rfl (by kernel_rfl) (by kernel_rfl) (by kernel_rfl) (fun _ _ _ h => h) (Or.inl ⟨by kernel_rfl, fun W h => run_ld_int (.tmp 162) (by kernel_rfl) (by kernel_rfl) W h.2.1⟩) hS ?_
      simp only [Act.put, List.setIfInBounds_toArray, List.set_cons_zero, List.set_cons_succ]
      refine wpAnyH_take (i := 14) (oi := { dst := some 164, op := Op.indexAddr 69 (Operand.tmp 153) (Operand.tmp 154), type := 0, pos := "base.go:409", after := #[{ on := 3, ground := Ground.data }, { on := 4, ground := Ground.data }], guard := none }) (v := .pointer (some ⟨g2, n * 4, none⟩)) rfl (by kernel_rfl) (by kernel_rfl) (by kernel_rfl) (fun _ _ _ h => h) (Or.inl ⟨by kernel_rfl, fun W h => run_idx_file (c := cp2) (.tmp 153) (.tmp 154) (by kernel_rfl) (by kernel_rfl) (by kernel_rfl) hnlt W⟩) hS ?_
      simp only [Act.put, List.setIfInBounds_toArray, List.set_cons_zero, List.set_cons_succ]
      refine wpAnyH_take (i := 15) (oi := { dst := some 165, op := Op.fieldAddr 100 (Operand.tmp 164) 0, type := 0, pos := "base.go:409", after := #[{ on := 14, ground := Ground.data }], guard := none }) (v := .pointer (some ⟨g2, n * 4, none⟩)) rfl (by kernel_rfl) (by kernel_rfl) (by kernel_rfl) (fun _ _ _ h => h) (Or.inl ⟨by kernel_rfl, fun W h => (by first | kernel_rfl | go_simp)⟩) hS ?_
      simp only [Act.put, List.setIfInBounds_toArray, List.set_cons_zero, List.set_cons_succ]
      refine wpAnyH_take (i := 16) (oi := { dst := some 166, op := Op.indexAddr 97 (Operand.tmp 165) (Operand.tmp 156), type := 0, pos := "base.go:409", after := #[{ on := 15, ground := Ground.data }, { on := 6, ground := Ground.data }, { on := 0, ground := Ground.phase }, { on := 1, ground := Ground.phase }, { on := 2, ground := Ground.phase }, { on := 3, ground := Ground.phase }, { on := 4, ground := Ground.phase }, { on := 5, ground := Ground.phase }, { on := 6, ground := Ground.phase }, { on := 7, ground := Ground.textOnly Departure.lateStores }, { on := 8, ground := Ground.textOnly Departure.lateStoresUnsure }, { on := 9, ground := Ground.textOnly Departure.lateStoresUnsure }, { on := 10, ground := Ground.phase }, { on := 11, ground := Ground.textOnly Departure.lateStores }, { on := 12, ground := Ground.textOnly Departure.lateStores }, { on := 13, ground := Ground.textOnly Departure.lateStores }], guard := none }) (v := .pointer (some ⟨g2, n * 4 + 1, none⟩)) rfl (by kernel_rfl) (by kernel_rfl) (by kernel_rfl) (fun _ _ _ h => h) (Or.inl ⟨by kernel_rfl, fun W h => (by first | kernel_rfl | go_simp)⟩) hS ?_
      simp only [Act.put, List.setIfInBounds_toArray, List.set_cons_zero, List.set_cons_succ]
      refine wpAnyH_take (i := 18) (oi := { dst := some 167, op := Op.indexAddr 69 (Operand.tmp 160) (Operand.tmp 161), type := 0, pos := "base.go:409", after := #[{ on := 10, ground := Ground.data }, { on := 11, ground := Ground.data }], guard := none }) (v := .pointer (some ⟨g2, n * 4, none⟩)) rfl (by kernel_rfl) (by kernel_rfl) (by kernel_rfl) (fun _ _ _ h => h) (Or.inl ⟨by kernel_rfl, fun W h => run_idx_file (c := cp2) (.tmp 160) (.tmp 161) (by kernel_rfl) (by kernel_rfl) (by kernel_rfl) hnlt W⟩) hS ?_
      simp only [Act.put, List.setIfInBounds_toArray, List.set_cons_zero, List.set_cons_succ]
      refine wpAnyH_take (i := 19) (oi := { dst := some 168, op := Op.fieldAddr 100 (Operand.tmp 167) 1, type := 0, pos := "base.go:409", after := #[{ on := 18, ground := Ground.data }], guard := none }) (v := .pointer (some ⟨g2, n * 4 + 2, none⟩)) rfl (by kernel_rfl) (by kernel_rfl) (by kernel_rfl) (fun _ _ _ h => h) (Or.inl ⟨by kernel_rfl, fun W h => (by first | kernel_rfl | go_simp)⟩) hS ?_
      simp only [Act.put, List.setIfInBounds_toArray, List.set_cons_zero, List.set_cons_succ]
      refine wpAnyH_ready (rs := [17]) (by kernel_rfl) (by simp) ?_
      refine AllReadyH.cons (o := { dst := none, op := Op.store 4 (Operand.tmp 166) (Operand.const (Value.bool false)), type := 0, pos := "base.go:409", after := #[{ on := 16, ground := Ground.data }, { on := 0, ground := Ground.phase }, { on := 1, ground := Ground.phase }, { on := 2, ground := Ground.phase }, { on := 3, ground := Ground.phase }, { on := 4, ground := Ground.phase }, { on := 5, ground := Ground.phase }, { on := 6, ground := Ground.phase }, { on := 7, ground := Ground.textOnly Departure.lateStores }, { on := 8, ground := Ground.textOnly Departure.lateStoresUnsure }, { on := 9, ground := Ground.textOnly Departure.lateStoresUnsure }, { on := 10, ground := Ground.phase }, { on := 11, ground := Ground.textOnly Departure.lateStores }, { on := 12, ground := Ground.textOnly Departure.lateStores }, { on := 13, ground := Ground.textOnly Departure.lateStores }], guard := none }) rfl (fun K hK => ?_) AllReadyH.nil
      rw [if_pos (by kernel_rfl)]
      refine wp_st_bool (v := false) (.tmp 166) (.const (.bool false)) (by kernel_rfl) rfl (by kernel_rfl) (by kernel_rfl) f1 z1 ?_
      refine hK.out _ _ (hS.far hbg hxg) (fun hS2 => ?_)
      clear hK K
      refine wpAnyH_take (i := 20) (oi := { dst := some 169, op := Op.indexAddr 98 (Operand.tmp 168) (Operand.tmp 163), type := 0, pos := "base.go:409", after := #[{ on := 19, ground := Ground.data }, { on := 13, ground := Ground.data }, { on := 0, ground := Ground.phase }, { on := 1, ground := Ground.phase }, { on := 2, ground := Ground.phase }, { on := 3, ground := Ground.phase }, { on := 4, ground := Ground.phase }, { on := 5, ground := Ground.phase }, { on := 6, ground := Ground.phase }, { on := 7, ground := Ground.phase }, { on := 8, ground := Ground.phase }, { on := 9, ground := Ground.phase }, { on := 10, ground := Ground.phase }, { on := 11, ground := Ground.phase }, { on := 12, ground := Ground.phase }, { on := 13, ground := Ground.phase }, { on := 14, ground := Ground.phase }, { on := 15, ground := Ground.phase }, { on := 16, ground := Ground.phase }, { on := 17, ground := Ground.phase }], guard := none }) (v := .pointer (some ⟨g2, n * 4 + 2 + 1, none⟩)) rfl (by kernel_rfl) (by kernel_rfl) (by kernel_rfl) (fun _ _ _ h => h) (Or.inl ⟨by kernel_rfl, fun W h => (by first | kernel_rfl | go_simp)⟩) hS2 ?_
      simp only [Act.put, List.setIfInBounds_toArray, List.set_cons_zero, List.set_cons_succ]
      refine wpAnyH_ready (rs := [21]) (by kernel_rfl) (by simp) ?_
      refine AllReadyH.cons (o := { dst := none, op := Op.store 9 (Operand.tmp 169) (Operand.const (Value.string { data := #[] })), type := 0, pos := "base.go:409", after := #[{ on := 20, ground := Ground.data }, { on := 17, ground := Ground.chain }, { on := 0, ground := Ground.phase }, { on := 1, ground := Ground.phase }, { on := 2, ground := Ground.phase }, { on := 3, ground := Ground.phase }, { on := 4, ground := Ground.phase }, { on := 5, ground := Ground.phase }, { on := 6, ground := Ground.phase }, { on := 7, ground := Ground.phase }, { on := 8, ground := Ground.phase }, { on := 9, ground := Ground.phase }, { on := 10, ground := Ground.phase }, { on := 11, ground := Ground.phase }, { on := 12, ground := Ground.phase }, { on := 13, ground := Ground.phase }, { on := 14, ground := Ground.phase }, { on := 15, ground := Ground.phase }, { on := 16, ground := Ground.phase }, { on := 17, ground := Ground.phase }], guard := none }) rfl (fun K hK => ?_) AllReadyH.nil
      rw [if_pos (by kernel_rfl)]
      refine wp_st_str (v := ⟨#[]⟩) (.tmp 169) (.const (.string ⟨#[]⟩)) (by kernel_rfl) rfl (by kernel_rfl) (by kernel_rfl) f2 z2 ?_
      refine hK.out _ _ (hS2.far hbg hxg) (fun hS3 => ?_)
      clear hK K
      refine wpAnyH_done (by kernel_rfl) ?_ _
      have k0 : ((W.drew.setCell ⟨g2, n * 4 + 1, none⟩ (.bool false)).setCell ⟨g2, n * 4 + 2 + 1, none⟩ (.string ⟨#[]⟩)).cell? ⟨w.heap.size, 0, none⟩ = some (.int .i64 6) := by
        rw [World.cell?_setCell_far _ _ _ _ (Ne.symm hxg), World.cell?_setCell_far _ _ _ _ (Ne.symm hxg)]; exact c0
      have DONE := hide (IHeld.of ((unhide BB).drew) (unhide FIN))
      clear hS hS2 hS3 FIN
      generalize ((W.drew.setCell ⟨g2, n * 4 + 1, none⟩ (.bool false)).setCell ⟨g2, n * 4 + 2 + 1, none⟩ (.string ⟨#[]⟩)) = WE at k0 DONE ⊢
      clear f1 f2 z1 z2 hPS tv fv t2 c0 c3 c6
      go_wp2_with fail
      go_ret
      exact ⟨rfl, unhide DONE⟩
end
end Idl
end Go.Proofs.YtmlhalhjfcfagabGreat
namespace Go.Proofs.YtmlhalhjfcfagabGreat
open Go.RowKit
section
variable {P : Program} {ops : Array Oper} {Q : Exit → Act → World → Prop} {md : Region.Mode} {S : World → Prop} {f : Nat}
def wpAnyJ (P : Program) (md : Region.Mode) (ops : Array Oper) (Q : Exit → Act → World → Prop) (S : World → Prop) (f : Nat) : Nat → Array Bool → Act → World → Prop
  | 0, listed, a, w => Region.ready md ops listed = [] ∧ Q .normal a w
  | fuel + 1, listed, a, w => (Region.ready md ops listed = [] → Q .normal a w) ∧
    ∀ i ∈ Region.ready md ops listed, wpOp P ops Q i (fun a' w' => (i ≠ f → S w') ∧ wpAnyJ P md ops Q S f fuel (listed.setIfInBounds i true) a' w') a w
theorem wpAny_of_J : ∀ (fuel : Nat) (listed : Array Bool) (a : Act) (w : World), wpAnyJ P md ops Q S f fuel listed a w → wpAny P md ops Q fuel listed a w
  | 0, _, _, _, h => h
  | fuel + 1, _, _, _, h => ⟨h.1, fun i hi => wpOp_mono (fun a' w' h' => wpAny_of_J fuel _ a' w' h'.2) (h.2 i hi)⟩
/-- the last one waitsJ for it -/
def waitsJ (md : Region.Mode) (ops : Array Oper) (f i : Nat) : Bool := match ops[f]? with | some o => o.after.any fun e => Region.binds md e && e.on == i | none => false
theorem waitsJ_ready {i : Nat} {listed : Array Bool} (h : waitsJ md ops f i = true) (hi : listed.getD i true = false) : f ∉ Region.ready md ops listed := fun hf => by
  obtain ⟨_, o, ho, hall⟩ := mem_ready.1 hf
  unfold waitsJ at h
  rw [ho] at h
  simp only [Array.any_eq_true, Bool.and_eq_true, beq_iff_eq] at h
  obtain ⟨j, hj, hb, e⟩ := h
  have := hall _ (Array.getElem_mem hj) hb
  rw [e] at this
  rcases Nat.lt_or_ge i listed.size with h' | h'
  · simp [h'] at hi this; rw [hi] at this; cases this
  · simp [Array.getElem?_eq_none h'] at this
theorem wpAnyJ_first {i : Nat} {oi : Oper} {v : Value} (hi : ops[i]? = some oi) (hsel : ∀ (j : Nat) (o : Oper) cs b, ops[j]? = some o → o.op ≠ .select cs b)
    (hQ : ∀ c a w, Q (.panic c) (a.put oi.dst v) w → Q (.panic c) a w) (hw : waitsJ md ops f i = true) :
    ∀ (fuel : Nat) (listed : Array Bool) (a : Act) (w : World),
      (∀ j oj, ops[j]? = some oj → j ≠ i → listed.getD j true = false → (∀ e ∈ oj.after, Region.binds md e = true → e.on ≠ i) → oi.apart ops oj = true) →
      i ∈ Region.ready md ops listed → YieldsIf P ops S oi v a → S w →
      wpAnyJ P md ops Q S f fuel (listed.setIfInBounds i true) (a.put oi.dst v) w → wpAnyJ P md ops Q S f (fuel + 1) listed a w := by
  intro fuel
  induction fuel with
  | zero =>
    intro listed a w _ hr hy hS H
    refine ⟨fun h => (by rw [h] at hr; cases hr), fun j hj => ?_⟩
    by_cases hji : j = i
    · subst hji; exact hy.wpOp hi hS ⟨fun _ => hS, H⟩
    · have := ready_mono hj hji
      rw [H.1] at this
      cases this
  | succ fuel ih =>
    intro listed a w hfree hr hy hS H
    refine ⟨fun h => (by rw [h] at hr; cases hr), fun j hj => ?_⟩
    by_cases hji : j = i
    · subst hji; exact hy.wpOp hi hS ⟨fun _ => hS, H⟩
    · have h1 := H.2 j (ready_mono hj hji)
      have hjf : j ≠ f := fun e => waitsJ_ready hw (mem_ready.1 hr).1 (by rw [← e]; exact hj)
      obtain ⟨hjun, oj, hoj, hall⟩ := mem_ready.1 hj
      have hnot : ∀ e ∈ oj.after, Region.binds md e = true → e.on ≠ i := fun e he hb heq => by
        have h1 := hall e he hb
        have h0 := (mem_ready.1 hr).1
        rw [heq] at h1
        rcases Nat.lt_or_ge i listed.size with h' | h'
        · simp [h'] at h0 h1; rw [h0] at h1; cases h1
        · simp [Array.getElem?_eq_none h'] at h1
      have h2 := wpOp_putIf hoj (hfree j oj hoj hji hjun hnot) (fun cs b => hsel i oi cs b hi) (fun cs b => hsel j oj cs b hoj) hQ hy h1
      have hfree' : ∀ k ok, ops[k]? = some ok → k ≠ i → (listed.setIfInBounds j true).getD k true = false →
          (∀ e ∈ ok.after, Region.binds md e = true → e.on ≠ i) → oi.apart ops ok = true := fun k ok hk hki hun hno => by
        refine hfree k ok hk hki ?_ hno
        by_cases hjk : j = k
        · subst hjk; exact hjun
        · rw [getD_set_ne true hjk] at hun; exact hun
      refine wpOp_mono (fun a' w' h3 => ⟨fun _ => h3.2.1 hjf, ih (listed.setIfInBounds j true) a' w' hfree' (ready_mono hr (Ne.symm hji)) h3.1 (h3.2.1 hjf) ?_⟩) h2
      rw [Array.setIfInBounds_comm _ _ hji]
      exact h3.2.2
theorem wpAnyJ_take {i : Nat} {oi : Oper} {v : Value} {fuel : Nat} {listed : Array Bool} {a : Act} {w : World} (hi : ops[i]? = some oi)
    (hs : Region.noSelect ops = true) (hf : Region.free md ops listed i = true) (hr : (Region.ready md ops listed).contains i = true) (hw : waitsJ md ops f i = true)
    (hQ : ∀ c a w, Q (.panic c) (a.put oi.dst v) w → Q (.panic c) a w) (hy : YieldsIf P ops S oi v a) (hS : S w)
    (h : wpAnyJ P md ops Q S f fuel (listed.setIfInBounds i true) (a.put oi.dst v) w) : wpAnyJ P md ops Q S f (fuel + 1) listed a w :=
  wpAnyJ_first hi (Region.noSelect_spec hs) hQ hw fuel listed a w (Region.free_spec hi hf) (by simpa using hr) hy hS h
/-- one alone may come up -/
theorem wpAnyJ_one {i : Nat} {o : Oper} {fuel : Nat} {listed : Array Bool} {a : Act} {w : World} (hr : Region.ready md ops listed = [i]) (ho : ops[i]? = some o) (hwant : Region.wanted o (yielded ops a.tmps) = true)
    (h : ∀ K' : Act → World → Prop, Shut (∀ a w, (i ≠ f → S w) → wpAnyJ P md ops Q S f fuel (listed.setIfInBounds i true) a w → K' a w) → Oper.wp P o a w K' Q) : wpAnyJ P md ops Q S f (fuel + 1) listed a w := by
  refine ⟨fun h0 => (by rw [hr] at h0; cases h0), fun j hj => ?_⟩
  rw [hr, List.mem_singleton] at hj
  subst hj
  exact wpOp_step ho (fun K' hK => by rw [if_pos hwant]; exact h K' (fun a w hS hW => hK a w ⟨hS, hW⟩))
theorem wpAnyJ_done {listed : Array Bool} {a : Act} {w : World} (hr : Region.ready md ops listed = []) (h : Q .normal a w) : ∀ fuel, wpAnyJ P md ops Q S f fuel listed a w
  | 0 => ⟨hr, h⟩
  | _ + 1 => ⟨fun _ => h, by rw [hr]; simp⟩
theorem wp_region_J {id : Nat} {a : Act} {w : World} (f : Nat) (hm : P.follows .mixedOrders = true) (hS : S w.drew)
    (h : S w.drew → wpAnyJ P .any ops Q S f ops.size (Array.replicate ops.size false) a w.drew) : (Code.region id ops true).wp P Q a w :=
  wp_region_any hm (wpAny_of_J _ _ _ _ (h hS))
end
end Go.Proofs.YtmlhalhjfcfagabGreat
namespace Go.Proofs.YtmlhalhjfcfagabGreat
open Go.RowKit
namespace Idl
/-- the reference's world, without its laws -/
structure IRaw (w : World) (b : Nat) (l : List Tg) (n : Nat) (S : St) (vt vf : Value) : Prop where
  root : w.heap[b]? = some (.cells #[vt, vf] 71 (0, 0))
  rowT : w.ownsRow 0 90 3 vt l.length (cellsT l)
  rowF : w.ownsRow 0 100 4 vf n (cellsF S n)
  offT : vt.ownBlock ≠ some b
  offF : vf.ownBlock ≠ some b
  apart : ∀ k, vt.ownBlock = some k → vf.ownBlock ≠ some k
theorem IRep.raw {w : World} {b : Nat} {S : St} {l : List Tg} {vt vf : Value} (h : IRep w b S l vt vf) : IRaw w b l S.next S vt vf := ⟨h.root, h.rowT, h.rowF, h.offT, h.offF, h.apart⟩
theorem IRaw.rep {w : World} {b : Nat} {S : St} {l : List Tg} {vt vf : Value} (h : IRaw w b l S.next S vt vf) (hI : Inv S) (hT : Tags S l) : IRep w b S l vt vf := ⟨hI, hT, h.root, h.rowT, h.rowF, h.offT, h.offF, h.apart⟩
section
variable {w w' W : World} {b n : Nat} {S S' : St} {l l' : List Tg} {vt vf : Value}
theorem IRaw.blt (h : IRaw w b l n S vt vf) : b < w.heap.size := (Array.getElem?_eq_some_iff.1 h.root).1
theorem IRaw.lt (h : IRaw w b l n S vt vf) {k : Nat} (hk : iown b vt vf k) : k < w.heap.size := by
  rcases hk with rfl | hk | hk
  · exact h.blt
  · exact (h.rowT.lt k hk).2
  · exact (h.rowF.lt k hk).2
theorem IRaw.keep (h : IRaw w b l n S vt vf) (hk : ∀ k, iown b vt vf k → w'.heap[k]? = w.heap[k]?) : IRaw w' b l n S vt vf :=
  ⟨by rw [hk b (.inl rfl)]; exact h.root, ownsRow_of_block h.rowT (fun k e => hk k (.inr (.inl e))), ownsRow_of_block h.rowF (fun k e => hk k (.inr (.inr e))), h.offT, h.offF, h.apart⟩
theorem IRaw.below (h : IRaw w b l n S vt vf) (hb : Below w.heap.size w w') : IRaw w' b l n S vt vf := h.keep (fun k hk => hb.block k (h.lt hk))
theorem IRaw.setT (h : IRaw w b l n S vt vf) {row : Option Nat} {v : Value} (hg : w.grownBy W row) (hr : row = none ∨ row = vt.ownBlock)
    (ho : W.ownsRow 0 90 3 v l'.length (cellsT l')) (ha : v.ownBlock = vt.ownBlock ∨ ∀ k, v.ownBlock = some k → w.heap.size ≤ k) :
    IRaw (W.setCell ⟨b, 0, none⟩ v) b l' n S v vf ∧ Chg (iown b vt vf) w (W.setCell ⟨b, 0, none⟩ v) ∧ ∀ k, iown b v vf k → iown b vt vf k ∨ w.heap.size ≤ k := by
  have hbr : some b ≠ row := by
    rcases hr with rfl | rfl
    · intro e; cases e
    · exact fun e => h.offT e.symm
  have hb : W.heap[b]? = some (.cells #[vt, vf] 71 (0, 0)) := by rw [hg.block b h.blt hbr]; exact h.root
  have hoth : ∀ k, k ≠ b → (W.setCell ⟨b, 0, none⟩ v).heap[k]? = W.heap[k]? := fun k hk => Below.heap_setCell _ _ _ _ hk
  have hsz : (W.setCell ⟨b, 0, none⟩ v).heap.size = W.heap.size := by simp [World.setCell]
  have hvb : v.ownBlock ≠ some b := by
    rcases ha with e | e
    · rw [e]; exact h.offT
    · intro e2
      have := e b e2
      have := h.blt
      omega
  have hvf : ∀ k, vf.ownBlock = some k → W.heap[k]? = w.heap[k]? := fun k hk => hg.block k (h.rowF.lt k hk).2 (by
    rcases hr with rfl | rfl
    · intro e; cases e
    · exact fun e => h.apart k e.symm hk)
  refine ⟨⟨?_, ownsRow_of_block ho (fun k hk => hoth k (fun e => hvb (by rw [← e]; exact hk))), ?_, hvb, h.offF, fun k hk hk2 => ?_⟩, ⟨?_, ?_, ?_, ?_, fun k hk hn2 => ?_⟩, fun k hk => ?_⟩
  · rw [setCell_eq_setRow W b 0 _ _ _ v hb, setRow_heap W b _ _ _ _ hb]
    rfl
  · exact ownsRow_of_block h.rowF (fun k hk => by rw [hoth k (fun e => h.offF (by rw [← e]; exact hk)), hvf k hk])
  · rcases ha with e | e
    · exact h.apart k (by rw [← e]; exact hk) hk2
    · have := e k hk
      have := (h.rowF.lt k hk2).2
      omega
  · exact hg.os
  · exact hg.tape
  · exact hg.output
  · rw [hsz]; exact hg.size
  · rw [hoth k (fun e => hn2 (.inl e))]
    refine hg.block k hk ?_
    rcases hr with rfl | rfl
    · intro e; cases e
    · exact fun e => hn2 (.inr (.inl e.symm))
  · rcases hk with e | e | e
    · exact .inl (.inl e)
    · rcases ha with e2 | e2
      · exact .inl (.inr (.inl (by rw [← e2]; exact e)))
      · exact .inr (e2 k e)
    · exact .inl (.inr (.inr e))
theorem IRaw.setF (h : IRaw w b l n S vt vf) {v : Value} {n' : Nat} (hg : w.grownBy W vf.ownBlock)
    (ho : W.ownsRow 0 100 4 v n' (cellsF S' n')) (ha : v.ownBlock = vf.ownBlock ∨ ∀ k, v.ownBlock = some k → w.heap.size ≤ k) :
    IRaw (W.setCell ⟨b, 1, none⟩ v) b l n' S' vt v ∧ Chg (iown b vt vf) w (W.setCell ⟨b, 1, none⟩ v) ∧ ∀ k, iown b vt v k → iown b vt vf k ∨ w.heap.size ≤ k := by
  have hb : W.heap[b]? = some (.cells #[vt, vf] 71 (0, 0)) := by rw [hg.block b h.blt (fun e => h.offF e.symm)]; exact h.root
  have hoth : ∀ k, k ≠ b → (W.setCell ⟨b, 1, none⟩ v).heap[k]? = W.heap[k]? := fun k hk => Below.heap_setCell _ _ _ _ hk
  have hsz : (W.setCell ⟨b, 1, none⟩ v).heap.size = W.heap.size := by simp [World.setCell]
  have hvb : v.ownBlock ≠ some b := by
    rcases ha with e | e
    · rw [e]; exact h.offF
    · intro e2
      have := e b e2
      have := h.blt
      omega
  have hvt : ∀ k, vt.ownBlock = some k → W.heap[k]? = w.heap[k]? := fun k hk => hg.block k (h.rowT.lt k hk).2 (fun e => h.apart k hk e.symm)
  refine ⟨⟨?_, ?_, ownsRow_of_block ho (fun k hk => hoth k (fun e => hvb (by rw [← e]; exact hk))), h.offT, hvb, fun k hk hk2 => ?_⟩, ⟨hg.os, hg.tape, hg.output, by rw [hsz]; exact hg.size, fun k hk hn2 => ?_⟩, fun k hk => ?_⟩
  · rw [setCell_eq_setRow W b 1 _ _ _ v hb, setRow_heap W b _ _ _ _ hb]
    rfl
  · exact ownsRow_of_block h.rowT (fun k hk => by rw [hoth k (fun e => h.offT (by rw [← e]; exact hk)), hvt k hk])
  · rcases ha with e | e
    · exact h.apart k hk (by rw [← e]; exact hk2)
    · have := e k hk2
      have := (h.rowT.lt k hk).2
      omega
  · rw [hoth k (fun e => hn2 (.inl e))]
    exact hg.block k hk (fun e => hn2 (.inr (.inr e.symm)))
  · rcases hk with e | e | e
    · exact .inl (.inl e)
    · exact .inl (.inr (.inl e))
    · rcases ha with e2 | e2
      · exact .inl (.inr (.inr (by rw [← e2]; exact e)))
      · exact .inr (e2 k e)
end
/-- what the regions of Do read -/
def TS (b xb : Nat) (vt vf : Value) (x : Stp) (W : World) : Prop := W.cell? ⟨b, 0, none⟩ = some vt ∧ W.cell? ⟨b, 1, none⟩ = some vf ∧ ∀ (j : Nat) (u : Value), (stpA x)[j]? = some u → W.cell? ⟨xb, j, none⟩ = some u
theorem TS.keep {b xb : Nat} {vt vf : Value} {x : Stp} {W W' : World} (h : TS b xb vt vf x W) (hb : W'.heap[b]? = W.heap[b]?) (hx : W'.heap[xb]? = W.heap[xb]?) : TS b xb vt vf x W' :=
  ⟨by rw [← h.1]; exact World.cell?_of_block hb, by rw [← h.2.1]; exact World.cell?_of_block hb, fun j u hj => by rw [← h.2.2 j u hj]; exact World.cell?_of_block hx⟩
theorem tag_info : ∃ i z, Tryz.prog.info? 90 = some i ∧ i.zero = some z ∧ i.size = 3 ∧ i.bytes = 32 ∧ z.cells.size = 3 := by
  have h : (Tryz.prog.info? 90).map (fun i => (i.zero.map (fun z => z.cells.size), i.size, i.bytes)) = some (some 3, 3, 32) := by kernel_rfl
  cases hq : Tryz.prog.info? 90 with
  | none => rw [hq] at h; cases h
  | some i =>
    rw [hq] at h
    simp only [Option.map_some, Option.some.injEq, Prod.mk.injEq] at h
    cases hz : i.zero with
    | none => rw [hz] at h; cases h.1
    | some z =>
      rw [hz] at h
      simp only [Option.map_some, Option.some.injEq] at h
      exact ⟨i, z, rfl, hz, h.2.1, h.2.2, h.1⟩
theorem file_info : ∃ i z, Tryz.prog.info? 100 = some i ∧ i.zero = some z ∧ i.size = 4 ∧ i.bytes = 40 ∧ z.cells.size = 4 := by
  have h : (Tryz.prog.info? 100).map (fun i => (i.zero.map (fun z => z.cells.size), i.size, i.bytes)) = some (some 4, 4, 40) := by kernel_rfl
  cases hq : Tryz.prog.info? 100 with
  | none => rw [hq] at h; cases h
  | some i =>
    rw [hq] at h
    simp only [Option.map_some, Option.some.injEq, Prod.mk.injEq] at h
    cases hz : i.zero with
    | none => rw [hz] at h; cases h.1
    | some z =>
      rw [hz] at h
      simp only [Option.map_some, Option.some.injEq] at h
      exact ⟨i, z, rfl, hz, h.2.1, h.2.2, h.1⟩
theorem row_new (W : World) (xs : List Value) (t : TypeId) : ∀ j u, xs[j]? = some u → (W.alloc (.cells xs.toArray t)).cell? ((⟨W.heap.size, 0, none⟩ : Addr).add j) = some u := fun j u hj => by
  rw [Addr.add_lit, Nat.zero_add, World.cell?_alloc_at _ _ _ _ rfl]
  simpa using hj
end Idl
end Go.Proofs.YtmlhalhjfcfagabGreat
namespace Go.Proofs.YtmlhalhjfcfagabGreat
open Go.RowKit
namespace Idl
def RawTo (b : Nat) (vt vf : Value) (W0 W' : World) (l' : List Tg) (n' : Nat) (S' : St) (vt' vf' : Value) : Prop :=
  IRaw W' b l' n' S' vt' vf' ∧ Chg (iown b vt vf) W0 W' ∧ ∀ k, iown b vt' vf' k → iown b vt vf k ∨ W0.heap.size ≤ k
theorem RawTo.trans {b n1 n2 : Nat} {vt vf v1 f1 v2 f2 : Value} {W0 W1 W2 : World} {l1 l2 : List Tg} {S1 S2 : St} (h : RawTo b vt vf W0 W1 l1 n1 S1 v1 f1) (k : RawTo b v1 f1 W1 W2 l2 n2 S2 v2 f2) : RawTo b vt vf W0 W2 l2 n2 S2 v2 f2 := by
  refine ⟨k.1, h.2.1.trans k.2.1 h.2.2, fun i hi => ?_⟩
  rcases k.2.2 i hi with z | z
  · exact h.2.2 i z
  · exact .inr (Nat.le_trans h.2.1.size z)
theorem RawTo.held {b m : Nat} {vt vf v1 f1 : Value} {w W0 W1 : World} {l1 : List Tg} {S1 : St} (h : RawTo b vt vf W0 W1 l1 S1.next S1 v1 f1) (hb : Below w.heap.size w W0) (hI : Inv S1) (hT : Tags S1 l1) (hm : l1.length ≤ m) : IHeld b vt vf w W1 S1 m :=
  IHeld.of hb ⟨l1, v1, f1, h.1.rep hI hT, h.2.1, h.2.2, hm⟩
theorem make_raw {W0 W2 : World} {b n : Nat} {S : St} {l : List Tg} {vt vf v' : Value} {ob : Obj} (h : IRaw W0 b l n S vt vf) {d : Int} {s : ByteArray} {k : Nat}
    (ho : W2.ownsRow 0 90 3 v' (l.length + 1) (cellsT l ++ [.int .i64 d, .string s, .int .i64 (k : Nat)])) (hg : (W0.alloc ob).grownBy W2 vt.ownBlock)
    (ha : v'.ownBlock = vt.ownBlock ∨ v'.ownBlock = some (W0.alloc ob).heap.size) : RawTo b vt vf W0 (W2.setCell ⟨b, 0, none⟩ v') (l ++ [⟨d, s, k⟩]) n S v' vf := by
  have hb := (Below.refl W0.heap.size W0).alloc (Nat.le_refl _) ob
  have h1 := h.below hb
  have e := h1.setT (l' := l ++ [⟨d, s, k⟩]) hg (.inr rfl) (by rw [cellsT_add, List.length_append]; exact ho) (by
    rcases ha with z | z
    · exact .inl z
    · exact .inr fun k hk => by rw [z] at hk; cases hk; exact Nat.le_refl _)
  refine ⟨e.1, (Chg.of_below hb).trans e.2.1 (fun i hi => .inl hi), fun i hi => ?_⟩
  rcases e.2.2 i hi with z | z
  · exact .inl z
  · exact .inr (Nat.le_trans hb.size z)
theorem raw_frozen {W0 W2 : World} {b n : Nat} {S : St} {l : List Tg} {vt vf : Value} {ob : Obj} (h : IRaw W0 b l n S vt vf) (hg : (W0.alloc ob).grownBy W2 vt.ownBlock) : W2.frozen? ⟨b, 0, none⟩ = false := by
  refine frozen_of_row W2 b 0 #[vt, vf] 71 ?_
  rw [hg.block b (Nat.lt_of_lt_of_le h.blt (by simp)) (fun e => h.offT e.symm), heap_alloc_old _ _ h.blt]
  exact h.root
theorem run_ld_slT {o : Oper} {ρ : Operand → Value} (x : Operand) (ho : o.op = .load 68 x) {g o0 : Nat} (hx : ρ x = .pointer (some ⟨g, o0, none⟩)) {a : Option Addr} {n c : Nat} (w : World) (h : w.cell? ⟨g, o0, none⟩ = some (.slice a n c)) : (execOp ρ o).run Tryz.prog w = .ok (.value (.slice a n c)) w := by
  unfold execOp
  rw [ho]
  go_simp
theorem wp_st_slT {o : Oper} {a : Act} {K : Act → World → Prop} {Q : Exit → Act → World → Prop} {W : World} (x y : Operand) (ho : o.op = .store 68 x y) (hd : o.dst = none) {g o0 : Nat} {v : Option Addr} {n c : Nat} (hx : a.eval x = .pointer (some ⟨g, o0, none⟩)) (hy : a.eval y = .slice v n c) {u : Value} (hc : W.cell? ⟨g, o0, none⟩ = some u) (hf : W.frozen? ⟨g, o0, none⟩ = false)
    (h : K a (W.setCell ⟨g, o0, none⟩ (.slice v n c))) : o.wp Tryz.prog a W K Q := by
  unfold Oper.wp execOp
  simp only [ho, hx, hy]
  go_simp
  exact h
theorem one_tag (d : Int) (s : ByteArray) (k : Nat) : ∀ u ∈ [Value.int .i64 d, .string s, .int .i64 ((k : Nat) : Int)], u.oneCell' = true := fun u hu => by
  simp only [List.mem_cons, List.not_mem_nil, or_false] at hu
  rcases hu with rfl | rfl | rfl <;> rfl
theorem make_rawF {W0 W2 : World} {b : Nat} {S : St} {l : List Tg} {vt vf v' : Value} {ob : Obj} (h : IRaw W0 b l S.next S vt vf)
    (ho : W2.ownsRow 0 100 4 v' (S.next + 1) (cellsF S S.next ++ [.bool false, .bool false, .string ⟨#[]⟩, .string ⟨#[]⟩])) (hg : (W0.alloc ob).grownBy W2 vf.ownBlock)
    (ha : v'.ownBlock = vf.ownBlock ∨ v'.ownBlock = some (W0.alloc ob).heap.size) {d : Nat} {s : ByteArray} : RawTo b vt vf W0 (W2.setCell ⟨b, 1, none⟩ v') l (S.fresh.add d s S.next).next (S.fresh.add d s S.next) vt v' := by
  have hb := (Below.refl W0.heap.size W0).alloc (Nat.le_refl _) ob
  have h1 := h.below hb
  have e := h1.setF (S' := S.fresh.add d s S.next) (n' := S.next + 1) hg (by
    rw [show cellsF (S.fresh.add d s S.next) (S.next + 1) = cellsF S.fresh (S.next + 1) from rfl, cellsF_fresh]; exact ho) (by
    rcases ha with z | z
    · exact .inl z
    · exact .inr fun k hk => by rw [z] at hk; cases hk; exact Nat.le_refl _)
  refine ⟨e.1, (Chg.of_below hb).trans e.2.1 (fun i hi => .inl hi), fun i hi => ?_⟩
  rcases e.2.2 i hi with z | z
  · exact .inl z
  · exact .inr (Nat.le_trans hb.size z)
section
variable {w : World} {b : Nat} {S : St} {l : List Tg} {vt vf : Value}
set_option maxHeartbeats 4000000 in
set_option maxRecDepth 100000 in
theorem rDo_make (h : IRep w b S l vt vf) (h1 : l.length ≤ 1000000) (h2 : S.next ≤ 1000000) (dir toDir p : Int) (name tu text : ByteArray) (hn : name.size ≤ maxLen) (ht : tu.size ≤ maxLen) (hx : text.size ≤ maxLen) (hc : code S ⟨1, dir, toDir, p, name, tu, text⟩ = 0) :
    Calls Tryz.prog 31 #[.pointer (some ⟨b, 0, none⟩), .agg (stpA ⟨1, dir, toDir, p, name, tu, text⟩)] w fun e w' => e = .returned (.int .i64 0) ∧ IHeld b vt vf w w' (step S ⟨1, dir, toDir, p, name, tu, text⟩) (l.length + 1) := by
  obtain ⟨i0, zt, hi0, hz0, hz1, hz2, hz3⟩ := tag_info
  obtain ⟨i1, zf, hj0, hj1, hj2, hj3, hj4⟩ := file_info
  have bel0 : Below w.heap.size w (w.alloc (.cells (stpA ⟨1, dir, toDir, p, name, tu, text⟩) 37)) := (Below.refl _ w).alloc (Nat.le_refl _) _
  have C1 := hide (stepFault_any ⟨1, dir, toDir, p, name, tu, text⟩ hn ht hx (w.alloc (.cells (stpA ⟨1, dir, toDir, p, name, tu, text⟩) 37)))
  have BEL := hide bel0
  have HC := hide fun W bW => stp_kept w ⟨1, dir, toDir, p, name, tu, text⟩ W bW
  have HR := hide h
  have hk : chk ⟨1, dir, toDir, p, name, tu, text⟩ = 0 := by
    cases e : decide (chk ⟨1, dir, toDir, p, name, tu, text⟩ = 0)
    · rw [code_chk (by simpa using e)] at hc; exact hc
    · simpa using e
  rw [hk] at C1
  have g0 := goes hc
  have hnew := g0.mak (by simp)
  have hd : isD dir = true := g0.din
  have hst : step S ⟨1, dir, toDir, p, name, tu, text⟩ = S.fresh.add dir.toNat name S.next := by
    rcases step_cases hc with ⟨k, e⟩ | ⟨k, _⟩ | ⟨k, _⟩ | ⟨k, _⟩ | ⟨k, _⟩ | ⟨k, _⟩
    all_goals first | exact e | (exfalso; revert k; decide) | (simp at k)
  have HI := hide (inv_step h.inv ⟨1, dir, toDir, p, name, tu, text⟩)
  have HTG := hide (h.tags.make h.inv (x := ⟨1, dir, toDir, p, name, tu, text⟩) hd hnew)
  rw [hst] at HI ⊢
  have hlk : lookS S dir name = none := by rw [lookS_in hd]; exact hnew
  rcases atI_lookS h.tags dir name with ⟨a1, _⟩ | ⟨i, hi, _, a1, a2⟩
  · have HA := hide a1
    have HXT := hide (show vt.ownBlock ≠ some w.heap.size from fun e => by have := (h.rowT.lt _ e).2; omega)
    have HXF := hide (show vf.ownBlock ≠ some w.heap.size from fun e => by have := (h.rowF.lt _ e).2; omega)
    obtain ⟨ta, tc, rfl, _⟩ := own_form h.rowT
    obtain ⟨fa, fc, rfl, _⟩ := own_form h.rowF
    clear hc hk g0 hst a1 hlk bel0 hnew hd h
    go_enter Tryz.func31, Tryz.ntmps31
    go_wp2_with fail
    refine (unhide C1).mono ?_
    rintro e w1 ⟨rfl, bel⟩
    have B1 : Below w.heap.size w w1 := (unhide BEL).trans (bel.mono (by simp))
    have c1 : w1.cell? ⟨w.heap.size, 1, none⟩ = some (.int .i64 dir) := unhide HC w1 bel 1 _ rfl
    have c4 : w1.cell? ⟨w.heap.size, 4, none⟩ = some (.string name) := unhide HC w1 bel 4 _ rfl
    obtain ⟨ta2, fa2, tc2, fc2, e1, e2, R1⟩ := ((unhide HR).below B1).rd h1 h2
    have C2 := hide (rAt_any dir name w1 R1)
    rw [unhide HA] at C2
    have BL := hide bel
    clear R1 bel HA e1 e2 ta2 fa2 tc2 fc2
    go_wp2_with fail
    refine (unhide C2).mono ?_
    rintro e w2 ⟨rfl, q, rfl⟩
    have B2 : Below w.heap.size w (w1.drewN q) := belowN B1
    have b2 : Below (w.alloc (.cells (stpA ⟨1, dir, toDir, p, name, tu, text⟩) 37)).heap.size (w.alloc (.cells (stpA ⟨1, dir, toDir, p, name, tu, text⟩) 37)) (w1.drewN q) := belowN (unhide BL)
    clear B1 BL c1 c4 C2
    generalize w1.drewN q = W at B2 b2 ⊢
    have HW := hide ((unhide HR).below B2)
    have c0 : W.cell? ⟨w.heap.size, 0, none⟩ = some (.int .i64 1) := unhide HC W b2 0 _ rfl
    obtain ⟨X, hX⟩ : ∃ X : Stp, X = ⟨1, dir, toDir, p, name, tu, text⟩ := ⟨_, rfl⟩
    have hTS : TS b w.heap.size (.slice ta l.length tc) (.slice fa S.next fc) ⟨1, dir, toDir, p, name, tu, text⟩ W.drew :=
      ⟨by rw [World.cell?_of_block (w' := W.drew) (w := W) rfl, cell_of_row W b 0 _ _ _ (unhide HW).root]; rfl, by rw [World.cell?_of_block (w' := W.drew) (w := W) rfl, cell_of_row W b 1 _ _ _ (unhide HW).root]; rfl, fun j u hj => by rw [World.cell?_of_block (w' := W.drew) (w := W) rfl]; exact unhide HC W b2 j u hj⟩
    have HX0 := hide (show w.heap.size < W.drew.heap.size from Nat.lt_of_lt_of_le (by simp) b2.size)
    have HW0 := hide ((unhide HW).raw.below (Below.refl _ _).drew)
    have BB := hide (B2.drew)
    clear B2 b2 hX HW
    go_wp2_with fail
    try (go_quiet (fail); go_wp2_with fail)
    refine wp_region_J (S := TS b w.heap.size (.slice ta l.length tc) (.slice fa S.next fc) ⟨1, dir, toDir, p, name, tu, text⟩) 19 (by kernel_rfl) hTS (fun hS => ?_)
    refine wpAnyJ_take (i := 0) (oi := { dst := some 25, op := Op.move (Operand.tmp 0), type := 67, pos := "base.go:386", after := #[], guard := none }) (v := .pointer (some ⟨b, 0, none⟩)) rfl (by kernel_rfl) (by kernel_rfl) (by kernel_rfl) (by kernel_rfl) (fun _ _ _ h => h) (Or.inl ⟨by kernel_rfl, fun W h => (by first | kernel_rfl | go_simp)⟩) hS ?_
    simp only [Act.put, List.setIfInBounds_toArray, List.set_cons_zero, List.set_cons_succ]
    refine wpAnyJ_take (i := 1) (oi := { dst := some 26, op := Op.move (Operand.tmp 0), type := 67, pos := "base.go:386", after := #[], guard := none }) (v := .pointer (some ⟨b, 0, none⟩)) rfl (by kernel_rfl) (by kernel_rfl) (by kernel_rfl) (by kernel_rfl) (fun _ _ _ h => h) (Or.inl ⟨by kernel_rfl, fun W h => (by first | kernel_rfl | go_simp)⟩) hS ?_
    simp only [Act.put, List.setIfInBounds_toArray, List.set_cons_zero, List.set_cons_succ]
    refine wpAnyJ_take (i := 2) (oi := { dst := some 27, op := Op.nilCheck (Operand.tmp 26), type := 0, pos := "base.go:386", after := #[{ on := 1, ground := Ground.data }], guard := none }) (v := .pointer (some ⟨b, 0, none⟩)) rfl (by kernel_rfl) (by kernel_rfl) (by kernel_rfl) (by kernel_rfl) (fun _ _ _ h => h) (Or.inl ⟨by kernel_rfl, fun W h => (by first | kernel_rfl | go_simp)⟩) hS ?_
    simp only [Act.put, List.setIfInBounds_toArray, List.set_cons_zero, List.set_cons_succ]
    refine wpAnyJ_take (i := 3) (oi := { dst := some 28, op := Op.fieldAddr 71 (Operand.tmp 27) 0, type := 0, pos := "base.go:386", after := #[{ on := 2, ground := Ground.data }], guard := none }) (v := .pointer (some ⟨b, 0, none⟩)) rfl (by kernel_rfl) (by kernel_rfl) (by kernel_rfl) (by kernel_rfl) (fun _ _ _ h => h) (Or.inl ⟨by kernel_rfl, fun W h => (by first | kernel_rfl | go_simp)⟩) hS ?_
    simp only [Act.put, List.setIfInBounds_toArray, List.set_cons_zero, List.set_cons_succ]
    refine wpAnyJ_take (i := 4) (oi := { dst := some 29, op := Op.load 68 (Operand.tmp 28), type := 68, pos := "base.go:386", after := #[{ on := 3, ground := Ground.data }], guard := none }) (v := .slice ta l.length tc) rfl (by kernel_rfl) (by kernel_rfl) (by kernel_rfl) (by kernel_rfl) (fun _ _ _ h => h) (Or.inl ⟨by kernel_rfl, fun W h => run_ld_slT (.tmp 28) (by kernel_rfl) (by kernel_rfl) W h.1⟩) hS ?_
    simp only [Act.put, List.setIfInBounds_toArray, List.set_cons_zero, List.set_cons_succ]
    refine wpAnyJ_take (i := 5) (oi := { dst := some 30, op := Op.fieldAddr 37 (Operand.tmp 3) 1, type := 0, pos := "base.go:386", after := #[], guard := none }) (v := .pointer (some ⟨w.heap.size, 1, none⟩)) rfl (by kernel_rfl) (by kernel_rfl) (by kernel_rfl) (by kernel_rfl) (fun _ _ _ h => h) (Or.inl ⟨by kernel_rfl, fun W h => (by first | kernel_rfl | go_simp)⟩) hS ?_
    simp only [Act.put, List.setIfInBounds_toArray, List.set_cons_zero, List.set_cons_succ]
    refine wpAnyJ_take (i := 6) (oi := { dst := some 31, op := Op.load 3 (Operand.tmp 30), type := 3, pos := "base.go:386", after := #[{ on := 5, ground := Ground.data }], guard := none }) (v := .int .i64 dir) rfl (by kernel_rfl) (by kernel_rfl) (by kernel_rfl) (by kernel_rfl) (fun _ _ _ h => h) (Or.inl ⟨by kernel_rfl, fun W h => run_ld_int (.tmp 30) (by kernel_rfl) (by kernel_rfl) W (h.2.2 1 _ rfl)⟩) hS ?_
    simp only [Act.put, List.setIfInBounds_toArray, List.set_cons_zero, List.set_cons_succ]
    refine wpAnyJ_take (i := 7) (oi := { dst := some 32, op := Op.fieldAddr 37 (Operand.tmp 3) 4, type := 0, pos := "base.go:386", after := #[], guard := none }) (v := .pointer (some ⟨w.heap.size, 4, none⟩)) rfl (by kernel_rfl) (by kernel_rfl) (by kernel_rfl) (by kernel_rfl) (fun _ _ _ h => h) (Or.inl ⟨by kernel_rfl, fun W h => (by first | kernel_rfl | go_simp)⟩) hS ?_
    simp only [Act.put, List.setIfInBounds_toArray, List.set_cons_zero, List.set_cons_succ]
    refine wpAnyJ_take (i := 8) (oi := { dst := some 33, op := Op.load 9 (Operand.tmp 32), type := 9, pos := "base.go:386", after := #[{ on := 7, ground := Ground.data }], guard := none }) (v := .string name) rfl (by kernel_rfl) (by kernel_rfl) (by kernel_rfl) (by kernel_rfl) (fun _ _ _ h => h) (Or.inl ⟨by kernel_rfl, fun W h => run_ld_str (.tmp 32) (by kernel_rfl) (by kernel_rfl) W (h.2.2 4 _ rfl)⟩) hS ?_
    simp only [Act.put, List.setIfInBounds_toArray, List.set_cons_zero, List.set_cons_succ]
    refine wpAnyJ_take (i := 9) (oi := { dst := some 34, op := Op.move (Operand.tmp 0), type := 67, pos := "base.go:386", after := #[], guard := none }) (v := .pointer (some ⟨b, 0, none⟩)) rfl (by kernel_rfl) (by kernel_rfl) (by kernel_rfl) (by kernel_rfl) (fun _ _ _ h => h) (Or.inl ⟨by kernel_rfl, fun W h => (by first | kernel_rfl | go_simp)⟩) hS ?_
    simp only [Act.put, List.setIfInBounds_toArray, List.set_cons_zero, List.set_cons_succ]
    refine wpAnyJ_take (i := 10) (oi := { dst := some 35, op := Op.nilCheck (Operand.tmp 34), type := 0, pos := "base.go:386", after := #[{ on := 9, ground := Ground.data }], guard := none }) (v := .pointer (some ⟨b, 0, none⟩)) rfl (by kernel_rfl) (by kernel_rfl) (by kernel_rfl) (by kernel_rfl) (fun _ _ _ h => h) (Or.inl ⟨by kernel_rfl, fun W h => (by first | kernel_rfl | go_simp)⟩) hS ?_
    simp only [Act.put, List.setIfInBounds_toArray, List.set_cons_zero, List.set_cons_succ]
    refine wpAnyJ_take (i := 11) (oi := { dst := some 36, op := Op.fieldAddr 71 (Operand.tmp 35) 1, type := 0, pos := "base.go:386", after := #[{ on := 10, ground := Ground.data }], guard := none }) (v := .pointer (some ⟨b, 1, none⟩)) rfl (by kernel_rfl) (by kernel_rfl) (by kernel_rfl) (by kernel_rfl) (fun _ _ _ h => h) (Or.inl ⟨by kernel_rfl, fun W h => (by first | kernel_rfl | go_simp)⟩) hS ?_
    simp only [Act.put, List.setIfInBounds_toArray, List.set_cons_zero, List.set_cons_succ]
    refine wpAnyJ_take (i := 12) (oi := { dst := some 37, op := Op.load 69 (Operand.tmp 36), type := 69, pos := "base.go:386", after := #[{ on := 11, ground := Ground.data }], guard := none }) (v := .slice fa S.next fc) rfl (by kernel_rfl) (by kernel_rfl) (by kernel_rfl) (by kernel_rfl) (fun _ _ _ h => h) (Or.inl ⟨by kernel_rfl, fun W h => run_ld_sl (.tmp 36) (by kernel_rfl) (by kernel_rfl) W h.2.1⟩) hS ?_
    simp only [Act.put, List.setIfInBounds_toArray, List.set_cons_zero, List.set_cons_succ]
    refine wpAnyJ_take (i := 13) (oi := { dst := some 38, op := Op.call { callee := Callee.builtin Builtin.len, args := #[Operand.tmp 37], argTypes := #[69] }, type := 3, pos := "base.go:386", after := #[{ on := 12, ground := Ground.data }], guard := none }) (v := .int .i64 ((S.next : Nat) : Int)) rfl (by kernel_rfl) (by kernel_rfl) (by kernel_rfl) (by kernel_rfl) (fun _ _ _ h => h) (Or.inl ⟨by kernel_rfl, fun W h => (by first | kernel_rfl | go_simp)⟩) hS ?_
    simp only [Act.put, List.setIfInBounds_toArray, List.set_cons_zero, List.set_cons_succ]
    refine wpAnyJ_take (i := 14) (oi := { dst := some 39, op := Op.build 90 #[(0, Operand.tmp 31), (1, Operand.tmp 33), (2, Operand.tmp 38)], type := 90, pos := "base.go:386", after := #[{ on := 6, ground := Ground.data }, { on := 8, ground := Ground.data }, { on := 13, ground := Ground.data }], guard := none }) (v := .agg #[.int .i64 dir, .string name, .int .i64 ((S.next : Nat) : Int)]) rfl (by kernel_rfl) (by kernel_rfl) (by kernel_rfl) (by kernel_rfl) (fun _ _ _ h => h) (Or.inl ⟨by kernel_rfl, fun W h => (by first | kernel_rfl | go_simp)⟩) hS ?_
    simp only [Act.put, List.setIfInBounds_toArray, List.set_cons_zero, List.set_cons_succ]
    generalize World.drew _ = W0 at hS HW0 HX0 BB ⊢
    refine wpAnyJ_one (i := 15) (o := { dst := some 40, op := Op.buildSlice 68 1 #[(0, Operand.tmp 39)], type := 68, pos := "base.go:386", after := #[{ on := 14, ground := Ground.data }], guard := none }) (by kernel_rfl) rfl (by kernel_rfl) (fun K hK => ?_)
    go_simp
    have hS1 := hS.keep (W' := W0.alloc (.cells #[.int .i64 dir, .string name, .int .i64 ((S.next : Nat) : Int)] 90)) (heap_alloc_old _ _ (unhide HW0).blt) (heap_alloc_old _ _ (unhide HX0))
    refine hK.out _ _ (fun _ => hS1) ?_
    clear hK K
    try simp only [Act.put, List.setIfInBounds_toArray, List.set_cons_zero, List.set_cons_succ]
    refine wpAnyJ_one (i := 16) (o := { dst := some 41, op := Op.call { callee := Callee.builtin Builtin.append, args := #[Operand.tmp 29, Operand.tmp 40], argTypes := #[68, 68] }, type := 68, pos := "base.go:386", after := #[{ on := 4, ground := Ground.data }, { on := 15, ground := Ground.data }], guard := none }) (by kernel_rfl) rfl (by kernel_rfl) (fun K hK => ?_)
    refine wp_append_part (.tmp 29) (.tmp 40) (by kernel_rfl) Tryz.underlying68 hi0 hz0 hz1 hz2 hz3 (by omega) (by kernel_rfl) (World.ownsRow.alloc (unhide HW0).rowT _) (by kernel_rfl) (.inr ⟨⟨W0.heap.size, 0, none⟩, 1, rfl, rfl, row_new W0 [.int .i64 dir, .string name, .int .i64 ((S.next : Nat) : Int)] 90⟩) (one_tag dir name S.next) (by unfold maxLen; omega) (by omega) (by simp) ?_
    intro v' W2 ho hg ha
    obtain ⟨a', c', rfl, _⟩ := own_form ho
    have hS2 := hS1.keep (hg.block b (Nat.lt_of_lt_of_le (unhide HW0).blt (by simp)) (fun e => (unhide HW0).offT e.symm)) (hg.block w.heap.size (Nat.lt_of_lt_of_le (unhide HX0) (by simp)) (fun e => unhide HXT e.symm))
    have RAW := hide (make_raw (unhide HW0) ho hg ha)
    have FRZ := hide (raw_frozen (unhide HW0) hg)
    refine hK.out _ _ (fun _ => hS2) ?_
    clear hK K ho hg ha
    try simp only [Act.put, List.setIfInBounds_toArray, List.set_cons_zero, List.set_cons_succ]
    refine wpAnyJ_one (i := 17) (o := { dst := some 42, op := Op.nilCheck (Operand.tmp 25), type := 0, pos := "base.go:386", after := #[{ on := 0, ground := Ground.data }, { on := 0, ground := Ground.phase }, { on := 1, ground := Ground.phase }, { on := 2, ground := Ground.phase }, { on := 3, ground := Ground.phase }, { on := 4, ground := Ground.phase }, { on := 5, ground := Ground.phase }, { on := 6, ground := Ground.phase }, { on := 7, ground := Ground.phase }, { on := 8, ground := Ground.phase }, { on := 9, ground := Ground.phase }, { on := 10, ground := Ground.phase }, { on := 11, ground := Ground.phase }, { on := 12, ground := Ground.phase }, { on := 13, ground := Ground.phase }, { on := 14, ground := Ground.phase }, { on := 15, ground := Ground.phase }, { on := 16, ground := Ground.phase }], guard := none }) (by kernel_rfl) rfl (by kernel_rfl) (fun K hK => ?_)
    go_simp
    refine hK.out _ _ (fun _ => hS2) ?_
    clear hK K
    try simp only [Act.put, List.setIfInBounds_toArray, List.set_cons_zero, List.set_cons_succ]
    refine wpAnyJ_one (i := 18) (o := { dst := some 43, op := Op.fieldAddr 71 (Operand.tmp 42) 0, type := 0, pos := "base.go:386", after := #[{ on := 17, ground := Ground.data }, { on := 0, ground := Ground.phase }, { on := 1, ground := Ground.phase }, { on := 2, ground := Ground.phase }, { on := 3, ground := Ground.phase }, { on := 4, ground := Ground.phase }, { on := 5, ground := Ground.phase }, { on := 6, ground := Ground.phase }, { on := 7, ground := Ground.phase }, { on := 8, ground := Ground.phase }, { on := 9, ground := Ground.phase }, { on := 10, ground := Ground.phase }, { on := 11, ground := Ground.phase }, { on := 12, ground := Ground.phase }, { on := 13, ground := Ground.phase }, { on := 14, ground := Ground.phase }, { on := 15, ground := Ground.phase }, { on := 16, ground := Ground.phase }], guard := none }) (by kernel_rfl) rfl (by kernel_rfl) (fun K hK => ?_)
    go_simp
    refine hK.out _ _ (fun _ => hS2) ?_
    clear hK K
    try simp only [Act.put, List.setIfInBounds_toArray, List.set_cons_zero, List.set_cons_succ]
    refine wpAnyJ_one (i := 19) (o := { dst := none, op := Op.store 68 (Operand.tmp 43) (Operand.tmp 41), type := 0, pos := "base.go:386", after := #[{ on := 18, ground := Ground.data }, { on := 16, ground := Ground.data }, { on := 16, ground := Ground.chain }, { on := 0, ground := Ground.phase }, { on := 1, ground := Ground.phase }, { on := 2, ground := Ground.phase }, { on := 3, ground := Ground.phase }, { on := 4, ground := Ground.phase }, { on := 5, ground := Ground.phase }, { on := 6, ground := Ground.phase }, { on := 7, ground := Ground.phase }, { on := 8, ground := Ground.phase }, { on := 9, ground := Ground.phase }, { on := 10, ground := Ground.phase }, { on := 11, ground := Ground.phase }, { on := 12, ground := Ground.phase }, { on := 13, ground := Ground.phase }, { on := 14, ground := Ground.phase }, { on := 15, ground := Ground.phase }, { on := 16, ground := Ground.phase }], guard := none }) (by kernel_rfl) rfl (by kernel_rfl) (fun K hK => ?_)
    refine wp_st_slT (v := a') (n := l.length + 1) (c := c') (.tmp 43) (.tmp 41) (by kernel_rfl) rfl (by kernel_rfl) (by kernel_rfl) hS2.1 (unhide FRZ) ?_
    refine hK.out _ _ (fun h => absurd rfl h) ?_
    clear hK K
    refine wpAnyJ_done (by kernel_rfl) ?_ _
    obtain ⟨WB, hWB⟩ : ∃ WB, WB = W2.setCell ⟨b, 0, none⟩ (.slice a' (l.length + 1) c') := ⟨_, rfl⟩
    rw [← hWB] at RAW ⊢
    clear hWB hS hS1 hS2 FRZ hTS
    have fv : WB.cell? ⟨b, 1, none⟩ = some (.slice fa S.next fc) := by rw [cell_of_row WB b 1 _ _ _ (unhide RAW).1.root]; rfl
    have blt := (unhide RAW).1.blt
    obtain ⟨v2, W5, hrun, ho2, hg2, ha2⟩ := run_append_part (P := Tryz.prog) (W := WB.alloc (.cells #[.bool false, .bool false, .string ⟨#[]⟩, .string ⟨#[]⟩] 100)) (t := 69) 69 Tryz.underlying69 hj0 hj1 hj2 hj3 hj4 (by omega) (World.ownsRow.alloc (unhide RAW).1.rowF _) (x := .slice (some ⟨WB.heap.size, 0, none⟩) 1 1) (m := 1) (news := [.bool false, .bool false, .string ⟨#[]⟩, .string ⟨#[]⟩]) (.inr ⟨_, _, rfl, rfl, row_new WB [.bool false, .bool false, .string ⟨#[]⟩, .string ⟨#[]⟩] 100⟩) (fun u hu => by
      simp only [List.mem_cons, List.not_mem_nil, or_false] at hu
      rcases hu with rfl | rfl | rfl | rfl <;> rfl) (by unfold maxLen; omega) (by omega) (by simp)
    obtain ⟨a5, c5, rfl, _⟩ := own_form ho2
    have DONE := hide (((unhide RAW).trans (make_rawF (unhide RAW).1 ho2 hg2 ha2)).held (m := l.length + 1) (S1 := S.fresh.add dir.toNat name S.next) (unhide BB) (unhide HI) (unhide HTG) (by simp))
    have fv5 : W5.cell? ⟨b, 1, none⟩ = some (.slice fa S.next fc) := by
      rw [World.cell?_of_block (hg2.block b (Nat.lt_of_lt_of_le blt (by simp)) (fun e => (unhide RAW).1.offF e.symm)), World.cell?_of_block (heap_alloc_old _ _ blt)]; exact fv
    have fz5 : W5.frozen? ⟨b, 1, none⟩ = false := by
      refine frozen_of_row W5 b 1 #[.slice a' (l.length + 1) c', .slice fa S.next fc] 71 ?_
      rw [hg2.block b (Nat.lt_of_lt_of_le blt (by simp)) (fun e => (unhide RAW).1.offF e.symm), heap_alloc_old _ _ blt]
      exact (unhide RAW).1.root
    clear ho2 hg2 ha2
    go_wp2_with (at_builtin; refine Lib.wpList_append_run _ rfl _ _ _ _ rfl _ _ rfl rfl _ _ hrun ?_)
    go_ret
    exact ⟨rfl, unhide DONE⟩
  · rw [hlk] at a2; cases a2
end
end Idl
end Go.Proofs.YtmlhalhjfcfagabGreat
namespace Go.Proofs.YtmlhalhjfcfagabGreat
open Go.RowKit
namespace Idl
theorem run_add_one {o : Oper} {ρ : Operand → Value} (x : Operand) (ho : o.op = .binOp .add 3 x (.const (.int .i64 1)) 3) {i : Nat} (hx : ρ x = .int .i64 ((i : Nat) : Int)) (hy : ρ (.const (.int .i64 1)) = .int .i64 1) (hi : i ≤ 2000000) (w : World) : (execOp ρ o).run Tryz.prog w = .ok (.value (.int .i64 ((i + 1 : Nat) : Int))) w := by
  have hw : IntKind.i64.wrap ((i : Int) + 1) = (i : Int) + 1 := by
    simp [IntKind.wrap, IntKind.signed, IntKind.bits]
    omega
  unfold execOp
  rw [ho]
  go_simp
theorem row_none {W W1 : World} {base : Nat} {e : TypeId} {size : Nat} {v : Value} {n : Nat} {xs : List Value} (h : W.ownsRow base e size v n xs) (hg : W.grownBy W1 (Value.slice none 0 0).ownBlock) : W1.ownsRow base e size v n xs :=
  ownsRow_of_block h (fun k hk => hg.block k (h.lt k hk).2 (by intro e; cases e))
theorem row_len {W : World} {base : Nat} {e : TypeId} {size : Nat} {v : Value} {n m : Nat} {xs : List Value} (h : n = m) (ho : W.ownsRow base e size v n xs) : W.ownsRow base e size v m xs := by subst h; exact ho
theorem rawCall {b n : Nat} {vt vf v1 f1 : Value} {W0 W1 W2 : World} {l1 : List Tg} {S : St} (h : RawTo b vt vf W0 W1 l1 n S v1 f1) (hb : Below W1.heap.size W1 W2) : RawTo b vt vf W0 W2 l1 n S v1 f1 :=
  ⟨h.1.below hb, h.2.1.trans (Chg.of_below (own := iown b v1 f1) hb) h.2.2, h.2.2⟩
theorem unlink_raw {W0 W1 W2 : World} {b n i : Nat} {S : St} {l : List Tg} {vt vf v1 v2 : Value} (h : IRaw W0 b l n S vt vf) (hi : i < l.length) (hg1 : W0.grownBy W1 (Value.slice none 0 0).ownBlock) (hg2 : W1.grownBy W2 v1.ownBlock)
    (ha1 : v1.ownBlock = (Value.slice none 0 0).ownBlock ∨ v1.ownBlock = some W0.heap.size) (ha2 : v2.ownBlock = v1.ownBlock ∨ v2.ownBlock = some W1.heap.size)
    (ho : W2.ownsRow 0 90 3 v2 (0 + i + (l.length - (i + 1))) ([] ++ (cellsT l).take (i * 3) ++ (cellsT l).drop ((i + 1) * 3))) :
    RawTo b vt vf W0 (W2.setCell ⟨b, 0, none⟩ v2) (l.take i ++ l.drop (i + 1)) n S v2 vf ∧ ∀ k, k < W0.heap.size → W2.heap[k]? = W0.heap[k]? := by
  have hk : ∀ k, k < W0.heap.size → W2.heap[k]? = W0.heap[k]? := fun k hk => by
    rw [hg2.block k (Nat.lt_of_lt_of_le hk hg1.size) (fun e => by
      rcases ha1 with z | z
      · rw [z] at e; cases e
      · rw [z] at e; cases e; omega), hg1.block k hk (by intro e; cases e)]
  have hg : W0.grownBy W2 none := ⟨hg2.os.trans hg1.os, hg2.tape.trans hg1.tape, hg2.output.trans hg1.output, Nat.le_trans hg1.size hg2.size, fun k h1 _ => hk k h1⟩
  have hl : (l.take i ++ l.drop (i + 1)).length = 0 + i + (l.length - (i + 1)) := by rw [List.length_append, List.length_take, List.length_drop]; omega
  have e := h.setT (l' := l.take i ++ l.drop (i + 1)) hg (.inl rfl) (by rw [cellsT_cut l i hi, hl]; exact ho) (.inr fun k hk => by
    rcases ha2 with z | z
    · rw [z] at hk
      rcases ha1 with y | y
      · rw [y] at hk; cases hk
      · rw [y] at hk; cases hk; exact Nat.le_refl _
    · rw [z] at hk; cases hk; exact hg1.size)
  exact ⟨⟨e.1, e.2.1, e.2.2⟩, hk⟩
theorem RawTo.cast {b n : Nat} {vt vf v1 f1 : Value} {W0 W1 : World} {l1 : List Tg} {S S1 : St} (h : RawTo b vt vf W0 W1 l1 n S v1 f1) (he : cellsF S1 n = cellsF S n) : RawTo b vt vf W0 W1 l1 n S1 v1 f1 :=
  ⟨⟨h.1.root, h.1.rowT, by rw [he]; exact h.1.rowF, h.1.offT, h.1.offF, h.1.apart⟩, h.2⟩
end Idl
end Go.Proofs.YtmlhalhjfcfagabGreat
namespace Go.Proofs.YtmlhalhjfcfagabGreat
open Go.RowKit
namespace Idl
section
variable {w : World} {b : Nat} {S : St} {l : List Tg} {vt vf : Value}
set_option maxHeartbeats 4000000 in
set_option maxRecDepth 100000 in
theorem rDo_link (h : IRep w b S l vt vf) (h1 : l.length ≤ 1000000) (h2 : S.next ≤ 1000000) (dir toDir p : Int) (name tu text : ByteArray) (hn : name.size ≤ maxLen) (ht : tu.size ≤ maxLen) (hx : text.size ≤ maxLen) (hc : code S ⟨2, dir, toDir, p, name, tu, text⟩ = 0) :
    Calls Tryz.prog 31 #[.pointer (some ⟨b, 0, none⟩), .agg (stpA ⟨2, dir, toDir, p, name, tu, text⟩)] w fun e w' => e = .returned (.int .i64 0) ∧ IHeld b vt vf w w' (step S ⟨2, dir, toDir, p, name, tu, text⟩) (l.length + 1) := by
  obtain ⟨i0, zt, hi0, hz0, hz1, hz2, hz3⟩ := tag_info
  have bel0 : Below w.heap.size w (w.alloc (.cells (stpA ⟨2, dir, toDir, p, name, tu, text⟩) 37)) := (Below.refl _ w).alloc (Nat.le_refl _) _
  have C1 := hide (stepFault_any ⟨2, dir, toDir, p, name, tu, text⟩ hn ht hx (w.alloc (.cells (stpA ⟨2, dir, toDir, p, name, tu, text⟩) 37)))
  have BEL := hide bel0
  have HC := hide fun W bW => stp_kept w ⟨2, dir, toDir, p, name, tu, text⟩ W bW
  have HR := hide h
  have hk : chk ⟨2, dir, toDir, p, name, tu, text⟩ = 0 := by
    cases e : decide (chk ⟨2, dir, toDir, p, name, tu, text⟩ = 0)
    · rw [code_chk (by simpa using e)] at hc; exact hc
    · simpa using e
  rw [hk] at C1
  have g0 := goes hc
  have hd : isD dir = true := g0.din
  have hlook := g0.old (by simp)
  have hlk : lookS S dir name = some (the S ⟨2, dir, toDir, p, name, tu, text⟩) := by rw [lookS_in hd]; exact hlook
  have hto := g0.to (by simp)
  have hd2 : isD toDir = true := hto.1
  have hnew : look (S.dir toDir.toNat) tu = none := hto.2.2
  have hlk2 : lookS S toDir tu = none := by rw [lookS_in hd2]; exact hnew
  have hst : step S ⟨2, dir, toDir, p, name, tu, text⟩ = S.add toDir.toNat tu (the S ⟨2, dir, toDir, p, name, tu, text⟩) := by
    rcases step_cases hc with ⟨k, e⟩ | ⟨k, e⟩ | ⟨k, e⟩ | ⟨k, e⟩ | ⟨k, e⟩ | ⟨k, e⟩
    all_goals first | exact e | (exfalso; revert k; decide) | (simp at k)
  have HI := hide (inv_step h.inv ⟨2, dir, toDir, p, name, tu, text⟩)
  rw [hst] at HI ⊢
  rcases atI_lookS h.tags dir name with ⟨_, a2⟩ | ⟨i, hi, htag, a1, a2⟩
  · rw [hlk] at a2; cases a2
  · obtain ⟨nf, hnn⟩ : ∃ n, n = the S ⟨2, dir, toDir, p, name, tu, text⟩ := ⟨_, rfl⟩
    rw [← hnn] at HI hlk hlook ⊢
    have hfile : l[i].file = nf := by rw [hlk] at a2; cases a2; rfl
    have HA := hide a1
    have HTG := hide (h.tags.link h.inv (n := nf) hd2 hnew)
    have hB1 : atI l toDir tu = -1 := by
      rcases atI_lookS h.tags toDir tu with ⟨z, _⟩ | ⟨_, _, _, _, z⟩
      · exact z
      · rw [hlk2] at z; cases z
    have HB := hide hB1
    clear hB1
    have HXT := hide (show vt.ownBlock ≠ some w.heap.size from fun e => by have := (h.rowT.lt _ e).2; omega)
    have HBX := hide (show b ≠ w.heap.size from fun e => by have := h.blt; omega)
    obtain ⟨ta, tc, rfl, hcap⟩ := own_form h.rowT
    obtain ⟨fa, fc, rfl, _⟩ := own_form h.rowF
    clear hc hk g0 hst a1 a2 bel0 hd hlook hlk h hnn htag hto hd2 hnew hlk2
    go_enter Tryz.func31, Tryz.ntmps31
    go_wp2_with fail
    refine (unhide C1).mono ?_
    rintro e w1 ⟨rfl, bel⟩
    have B1 : Below w.heap.size w w1 := (unhide BEL).trans (bel.mono (by simp))
    have c1 : w1.cell? ⟨w.heap.size, 1, none⟩ = some (.int .i64 dir) := unhide HC w1 bel 1 _ rfl
    have c4 : w1.cell? ⟨w.heap.size, 4, none⟩ = some (.string name) := unhide HC w1 bel 4 _ rfl
    obtain ⟨ta2, fa2, tc2, fc2, e1, e2, R1⟩ := ((unhide HR).below B1).rd h1 h2
    have C2 := hide (rAt_any dir name w1 R1)
    rw [unhide HA] at C2
    have BL := hide bel
    clear R1 bel HA e1 e2 ta2 fa2 tc2 fc2
    go_wp2_with fail
    refine (unhide C2).mono ?_
    rintro e w2 ⟨rfl, q, rfl⟩
    have B2 : Below w.heap.size w (w1.drewN q) := belowN B1
    have b2 : Below (w.alloc (.cells (stpA ⟨2, dir, toDir, p, name, tu, text⟩) 37)).heap.size (w.alloc (.cells (stpA ⟨2, dir, toDir, p, name, tu, text⟩) 37)) (w1.drewN q) := belowN (unhide BL)
    clear B1 BL c1 c4 C2
    generalize w1.drewN q = W at B2 b2 ⊢
    have HW := hide ((unhide HR).below B2)
    have c0 : W.cell? ⟨w.heap.size, 0, none⟩ = some (.int .i64 2) := unhide HC W b2 0 _ rfl
    obtain ⟨ta2, fa2, tc2, fc2, e1, e2, R1⟩ := (unhide HW).rd h1 h2
    simp only [Value.slice.injEq] at e1 e2
    obtain ⟨rfl, _, rfl⟩ := e1
    obtain ⟨rfl, _, rfl⟩ := e2
    have tv := R1.tv
    have blt := R1.lt
    obtain ⟨gt, ot, eta, hgt, _, _, t2⟩ := R1.tags i hi
    rw [hfile] at t2
    have HETA := hide eta
    have iz : (i : Int) < (l.length : Int) := by omega
    have u1 : decide ((i : Int) < 0) = false := by simp
    have C3 := hide (rAt_any toDir tu W R1)
    rw [unhide HB] at C3
    have c2 : W.cell? ⟨w.heap.size, 2, none⟩ = some (.int .i64 toDir) := unhide HC W b2 2 _ rfl
    have c5 : W.cell? ⟨w.heap.size, 5, none⟩ = some (.string tu) := unhide HC W b2 5 _ rfl
    clear R1 HB
    subst eta
    go_wp2_with fail
    try (go_quiet (fail); go_wp2_with fail)
    refine (unhide C3).mono ?_
    rintro e w2 ⟨rfl, q2, rfl⟩
    replace B2 : Below w.heap.size w (W.drewN q2) := belowN B2
    replace b2 : Below (w.alloc (.cells (stpA ⟨2, dir, toDir, p, name, tu, text⟩) 37)).heap.size (w.alloc (.cells (stpA ⟨2, dir, toDir, p, name, tu, text⟩) 37)) (W.drewN q2) := belowN b2
    replace HW := hide ((unhide HR).below B2)
    clear c0 c2 c5 tv t2 C3
    generalize W.drewN q2 = WW at B2 b2 HW ⊢
    have hTS : TS b w.heap.size (.slice (some ⟨gt, ot, none⟩) l.length tc) (.slice fa S.next fc) ⟨2, dir, toDir, p, name, tu, text⟩ WW.drew :=
      ⟨by rw [World.cell?_of_block (w' := WW.drew) (w := WW) rfl, cell_of_row WW b 0 _ _ _ (unhide HW).root]; rfl, by rw [World.cell?_of_block (w' := WW.drew) (w := WW) rfl, cell_of_row WW b 1 _ _ _ (unhide HW).root]; rfl, fun j u hj => by rw [World.cell?_of_block (w' := WW.drew) (w := WW) rfl]; exact unhide HC WW b2 j u hj⟩
    have HX0 := hide (show w.heap.size < WW.drew.heap.size from Nat.lt_of_lt_of_le (by simp) b2.size)
    have HW0 := hide ((unhide HW).raw.below (Below.refl _ _).drew)
    have BB := hide (B2.drew)
    clear B2 b2 HW
    go_wp2_with fail
    try (go_quiet (fail); go_wp2_with fail)
    refine wp_region_J (S := TS b w.heap.size (.slice (some ⟨gt, ot, none⟩) l.length tc) (.slice fa S.next fc) ⟨2, dir, toDir, p, name, tu, text⟩) 15 (by kernel_rfl) hTS (fun hS => ?_)
    refine wpAnyJ_take (i := 0) (oi := { dst := some 79, op := Op.move (Operand.tmp 0), type := 67, pos := "base.go:398", after := #[], guard := none }) (v := .pointer (some ⟨b, 0, none⟩)) rfl (by kernel_rfl) (by kernel_rfl) (by kernel_rfl) (by kernel_rfl) (fun _ _ _ h => h) (Or.inl ⟨by kernel_rfl, fun W h => (by first | kernel_rfl | go_simp)⟩) hS ?_
    simp only [Act.put, List.setIfInBounds_toArray, List.set_cons_zero, List.set_cons_succ]
    refine wpAnyJ_take (i := 1) (oi := { dst := some 80, op := Op.move (Operand.tmp 0), type := 67, pos := "base.go:398", after := #[], guard := none }) (v := .pointer (some ⟨b, 0, none⟩)) rfl (by kernel_rfl) (by kernel_rfl) (by kernel_rfl) (by kernel_rfl) (fun _ _ _ h => h) (Or.inl ⟨by kernel_rfl, fun W h => (by first | kernel_rfl | go_simp)⟩) hS ?_
    simp only [Act.put, List.setIfInBounds_toArray, List.set_cons_zero, List.set_cons_succ]
    refine wpAnyJ_take (i := 2) (oi := { dst := some 81, op := Op.nilCheck (Operand.tmp 80), type := 0, pos := "base.go:398", after := #[{ on := 1, ground := Ground.data }], guard := none }) (v := .pointer (some ⟨b, 0, none⟩)) rfl (by kernel_rfl) (by kernel_rfl) (by kernel_rfl) (by kernel_rfl) (fun _ _ _ h => h) (Or.inl ⟨by kernel_rfl, fun W h => (by first | kernel_rfl | go_simp)⟩) hS ?_
    simp only [Act.put, List.setIfInBounds_toArray, List.set_cons_zero, List.set_cons_succ]
    refine wpAnyJ_take (i := 3) (oi := { dst := some 82, op := Op.fieldAddr 71 (Operand.tmp 81) 0, type := 0, pos := "base.go:398", after := #[{ on := 2, ground := Ground.data }], guard := none }) (v := .pointer (some ⟨b, 0, none⟩)) rfl (by kernel_rfl) (by kernel_rfl) (by kernel_rfl) (by kernel_rfl) (fun _ _ _ h => h) (Or.inl ⟨by kernel_rfl, fun W h => (by first | kernel_rfl | go_simp)⟩) hS ?_
    simp only [Act.put, List.setIfInBounds_toArray, List.set_cons_zero, List.set_cons_succ]
    refine wpAnyJ_take (i := 4) (oi := { dst := some 83, op := Op.load 68 (Operand.tmp 82), type := 68, pos := "base.go:398", after := #[{ on := 3, ground := Ground.data }], guard := none }) (v := .slice (some ⟨gt, ot, none⟩) l.length tc) rfl (by kernel_rfl) (by kernel_rfl) (by kernel_rfl) (by kernel_rfl) (fun _ _ _ h => h) (Or.inl ⟨by kernel_rfl, fun W h => run_ld_slT (.tmp 82) (by kernel_rfl) (by kernel_rfl) W h.1⟩) hS ?_
    simp only [Act.put, List.setIfInBounds_toArray, List.set_cons_zero, List.set_cons_succ]
    refine wpAnyJ_take (i := 5) (oi := { dst := some 84, op := Op.fieldAddr 37 (Operand.tmp 3) 2, type := 0, pos := "base.go:398", after := #[], guard := none }) (v := .pointer (some ⟨w.heap.size, 2, none⟩)) rfl (by kernel_rfl) (by kernel_rfl) (by kernel_rfl) (by kernel_rfl) (fun _ _ _ h => h) (Or.inl ⟨by kernel_rfl, fun W h => (by first | kernel_rfl | go_simp)⟩) hS ?_
    simp only [Act.put, List.setIfInBounds_toArray, List.set_cons_zero, List.set_cons_succ]
    refine wpAnyJ_take (i := 6) (oi := { dst := some 85, op := Op.load 3 (Operand.tmp 84), type := 3, pos := "base.go:398", after := #[{ on := 5, ground := Ground.data }], guard := none }) (v := .int .i64 toDir) rfl (by kernel_rfl) (by kernel_rfl) (by kernel_rfl) (by kernel_rfl) (fun _ _ _ h => h) (Or.inl ⟨by kernel_rfl, fun W h => run_ld_int (.tmp 84) (by kernel_rfl) (by kernel_rfl) W (h.2.2 2 _ rfl)⟩) hS ?_
    simp only [Act.put, List.setIfInBounds_toArray, List.set_cons_zero, List.set_cons_succ]
    refine wpAnyJ_take (i := 7) (oi := { dst := some 86, op := Op.fieldAddr 37 (Operand.tmp 3) 5, type := 0, pos := "base.go:398", after := #[], guard := none }) (v := .pointer (some ⟨w.heap.size, 5, none⟩)) rfl (by kernel_rfl) (by kernel_rfl) (by kernel_rfl) (by kernel_rfl) (fun _ _ _ h => h) (Or.inl ⟨by kernel_rfl, fun W h => (by first | kernel_rfl | go_simp)⟩) hS ?_
    simp only [Act.put, List.setIfInBounds_toArray, List.set_cons_zero, List.set_cons_succ]
    refine wpAnyJ_take (i := 8) (oi := { dst := some 87, op := Op.load 9 (Operand.tmp 86), type := 9, pos := "base.go:398", after := #[{ on := 7, ground := Ground.data }], guard := none }) (v := .string tu) rfl (by kernel_rfl) (by kernel_rfl) (by kernel_rfl) (by kernel_rfl) (fun _ _ _ h => h) (Or.inl ⟨by kernel_rfl, fun W h => run_ld_str (.tmp 86) (by kernel_rfl) (by kernel_rfl) W (h.2.2 5 _ rfl)⟩) hS ?_
    simp only [Act.put, List.setIfInBounds_toArray, List.set_cons_zero, List.set_cons_succ]
    refine wpAnyJ_take (i := 9) (oi := { dst := some 88, op := Op.move (Operand.tmp 7), type := 3, pos := "base.go:398", after := #[], guard := none }) (v := .int .i64 ((nf : Nat) : Int)) rfl (by kernel_rfl) (by kernel_rfl) (by kernel_rfl) (by kernel_rfl) (fun _ _ _ h => h) (Or.inl ⟨by kernel_rfl, fun W h => (by first | kernel_rfl | go_simp)⟩) hS ?_
    simp only [Act.put, List.setIfInBounds_toArray, List.set_cons_zero, List.set_cons_succ]
    refine wpAnyJ_take (i := 10) (oi := { dst := some 89, op := Op.build 90 #[(0, Operand.tmp 85), (1, Operand.tmp 87), (2, Operand.tmp 88)], type := 90, pos := "base.go:398", after := #[{ on := 6, ground := Ground.data }, { on := 8, ground := Ground.data }, { on := 9, ground := Ground.data }], guard := none }) (v := .agg #[.int .i64 toDir, .string tu, .int .i64 ((nf : Nat) : Int)]) rfl (by kernel_rfl) (by kernel_rfl) (by kernel_rfl) (by kernel_rfl) (fun _ _ _ h => h) (Or.inl ⟨by kernel_rfl, fun W h => (by first | kernel_rfl | go_simp)⟩) hS ?_
    simp only [Act.put, List.setIfInBounds_toArray, List.set_cons_zero, List.set_cons_succ]
    generalize World.drew _ = W0 at hS HW0 HX0 BB ⊢
    refine wpAnyJ_one (i := 11) (o := { dst := some 90, op := Op.buildSlice 68 1 #[(0, Operand.tmp 89)], type := 68, pos := "base.go:398", after := #[{ on := 10, ground := Ground.data }], guard := none }) (by kernel_rfl) rfl (by kernel_rfl) (fun K hK => ?_)
    go_simp
    have hS1 := hS.keep (W' := W0.alloc (.cells #[.int .i64 toDir, .string tu, .int .i64 ((nf : Nat) : Int)] 90)) (heap_alloc_old _ _ (unhide HW0).blt) (heap_alloc_old _ _ (unhide HX0))
    refine hK.out _ _ (fun _ => hS1) ?_
    clear hK K
    try simp only [Act.put, List.setIfInBounds_toArray, List.set_cons_zero, List.set_cons_succ]
    refine wpAnyJ_one (i := 12) (o := { dst := some 91, op := Op.call { callee := Callee.builtin Builtin.append, args := #[Operand.tmp 83, Operand.tmp 90], argTypes := #[68, 68] }, type := 68, pos := "base.go:398", after := #[{ on := 4, ground := Ground.data }, { on := 11, ground := Ground.data }], guard := none }) (by kernel_rfl) rfl (by kernel_rfl) (fun K hK => ?_)
    refine wp_append_part (.tmp 83) (.tmp 90) (by kernel_rfl) Tryz.underlying68 hi0 hz0 hz1 hz2 hz3 (by omega) (by kernel_rfl) (World.ownsRow.alloc (unhide HW0).rowT _) (by kernel_rfl) (.inr ⟨⟨W0.heap.size, 0, none⟩, 1, rfl, rfl, row_new W0 [.int .i64 toDir, .string tu, .int .i64 ((nf : Nat) : Int)] 90⟩) (one_tag toDir tu nf) (by unfold maxLen; omega) (by omega) (by simp) ?_
    intro v' W2 ho hg ha
    obtain ⟨a', c', rfl, _⟩ := own_form ho
    have hS2 := hS1.keep (hg.block b (Nat.lt_of_lt_of_le (unhide HW0).blt (by simp)) (fun e => (unhide HW0).offT e.symm)) (hg.block w.heap.size (Nat.lt_of_lt_of_le (unhide HX0) (by simp)) (fun e => unhide HXT e.symm))
    have RAW := hide (make_raw (unhide HW0) ho hg ha)
    have FRZ := hide (raw_frozen (unhide HW0) hg)
    refine hK.out _ _ (fun _ => hS2) ?_
    clear hK K ho hg ha
    try simp only [Act.put, List.setIfInBounds_toArray, List.set_cons_zero, List.set_cons_succ]
    refine wpAnyJ_one (i := 13) (o := { dst := some 92, op := Op.nilCheck (Operand.tmp 79), type := 0, pos := "base.go:398", after := #[{ on := 0, ground := Ground.data }, { on := 0, ground := Ground.phase }, { on := 1, ground := Ground.phase }, { on := 2, ground := Ground.phase }, { on := 3, ground := Ground.phase }, { on := 4, ground := Ground.phase }, { on := 5, ground := Ground.phase }, { on := 6, ground := Ground.phase }, { on := 7, ground := Ground.phase }, { on := 8, ground := Ground.phase }, { on := 9, ground := Ground.phase }, { on := 10, ground := Ground.phase }, { on := 11, ground := Ground.phase }, { on := 12, ground := Ground.phase }], guard := none }) (by kernel_rfl) rfl (by kernel_rfl) (fun K hK => ?_)
    go_simp
    refine hK.out _ _ (fun _ => hS2) ?_
    clear hK K
    try simp only [Act.put, List.setIfInBounds_toArray, List.set_cons_zero, List.set_cons_succ]
    refine wpAnyJ_one (i := 14) (o := { dst := some 93, op := Op.fieldAddr 71 (Operand.tmp 92) 0, type := 0, pos := "base.go:398", after := #[{ on := 13, ground := Ground.data }, { on := 0, ground := Ground.phase }, { on := 1, ground := Ground.phase }, { on := 2, ground := Ground.phase }, { on := 3, ground := Ground.phase }, { on := 4, ground := Ground.phase }, { on := 5, ground := Ground.phase }, { on := 6, ground := Ground.phase }, { on := 7, ground := Ground.phase }, { on := 8, ground := Ground.phase }, { on := 9, ground := Ground.phase }, { on := 10, ground := Ground.phase }, { on := 11, ground := Ground.phase }, { on := 12, ground := Ground.phase }], guard := none }) (by kernel_rfl) rfl (by kernel_rfl) (fun K hK => ?_)
    go_simp
    refine hK.out _ _ (fun _ => hS2) ?_
    clear hK K
    try simp only [Act.put, List.setIfInBounds_toArray, List.set_cons_zero, List.set_cons_succ]
    refine wpAnyJ_one (i := 15) (o := { dst := none, op := Op.store 68 (Operand.tmp 93) (Operand.tmp 91), type := 0, pos := "base.go:398", after := #[{ on := 14, ground := Ground.data }, { on := 12, ground := Ground.data }, { on := 12, ground := Ground.chain }, { on := 0, ground := Ground.phase }, { on := 1, ground := Ground.phase }, { on := 2, ground := Ground.phase }, { on := 3, ground := Ground.phase }, { on := 4, ground := Ground.phase }, { on := 5, ground := Ground.phase }, { on := 6, ground := Ground.phase }, { on := 7, ground := Ground.phase }, { on := 8, ground := Ground.phase }, { on := 9, ground := Ground.phase }, { on := 10, ground := Ground.phase }, { on := 11, ground := Ground.phase }, { on := 12, ground := Ground.phase }], guard := none }) (by kernel_rfl) rfl (by kernel_rfl) (fun K hK => ?_)
    refine wp_st_slT (v := a') (n := l.length + 1) (c := c') (.tmp 93) (.tmp 91) (by kernel_rfl) rfl (by kernel_rfl) (by kernel_rfl) hS2.1 (unhide FRZ) ?_
    refine hK.out _ _ (fun h => absurd rfl h) ?_
    clear hK K
    refine wpAnyJ_done (by kernel_rfl) ?_ _
    obtain ⟨WB, hWB⟩ : ∃ WB, WB = W2.setCell ⟨b, 0, none⟩ (.slice a' (l.length + 1) c') := ⟨_, rfl⟩
    have hxb : ∀ (j : Nat) (u : Value), (stpA ⟨2, dir, toDir, p, name, tu, text⟩)[j]? = some u → WB.cell? ⟨w.heap.size, j, none⟩ = some u := fun j u hj => by
      rw [hWB, World.cell?_setCell_far _ _ _ _ (unhide HBX)]; exact hS2.2.2 j u hj
    rw [← hWB] at RAW ⊢
    clear hWB hS hS1 hS2 FRZ hTS
    have k0 : WB.cell? ⟨w.heap.size, 0, none⟩ = some (.int .i64 2) := hxb 0 _ rfl
    have HDONE := hide (((unhide RAW).cast (S1 := S.add toDir.toNat tu nf) rfl).held (m := l.length + 1) (S1 := S.add toDir.toNat tu nf) (unhide BB) (unhide HI) (unhide HTG) (by simp))
    clear hxb
    go_wp2_with fail
    go_ret
    exact ⟨rfl, unhide HDONE⟩
end
end Idl
end Go.Proofs.YtmlhalhjfcfagabGreat
namespace Go.Proofs.YtmlhalhjfcfagabGreat
open Go.RowKit
namespace Idl
section
variable {w : World} {b : Nat} {S : St} {l : List Tg} {vt vf : Value}
set_option maxHeartbeats 4000000 in
set_option maxRecDepth 100000 in
theorem rDo_unlink (h : IRep w b S l vt vf) (h1 : l.length ≤ 1000000) (h2 : S.next ≤ 1000000) (dir toDir p : Int) (name tu text : ByteArray) (hn : name.size ≤ maxLen) (ht : tu.size ≤ maxLen) (hx : text.size ≤ maxLen) (hc : code S ⟨3, dir, toDir, p, name, tu, text⟩ = 0) :
    Calls Tryz.prog 31 #[.pointer (some ⟨b, 0, none⟩), .agg (stpA ⟨3, dir, toDir, p, name, tu, text⟩)] w fun e w' => e = .returned (.int .i64 0) ∧ IHeld b vt vf w w' (step S ⟨3, dir, toDir, p, name, tu, text⟩) l.length := by
  obtain ⟨i0, zt, hi0, hz0, hz1, hz2, hz3⟩ := tag_info
  have bel0 : Below w.heap.size w (w.alloc (.cells (stpA ⟨3, dir, toDir, p, name, tu, text⟩) 37)) := (Below.refl _ w).alloc (Nat.le_refl _) _
  have C1 := hide (stepFault_any ⟨3, dir, toDir, p, name, tu, text⟩ hn ht hx (w.alloc (.cells (stpA ⟨3, dir, toDir, p, name, tu, text⟩) 37)))
  have BEL := hide bel0
  have HC := hide fun W bW => stp_kept w ⟨3, dir, toDir, p, name, tu, text⟩ W bW
  have HR := hide h
  have hk : chk ⟨3, dir, toDir, p, name, tu, text⟩ = 0 := by
    cases e : decide (chk ⟨3, dir, toDir, p, name, tu, text⟩ = 0)
    · rw [code_chk (by simpa using e)] at hc; exact hc
    · simpa using e
  rw [hk] at C1
  have g0 := goes hc
  have hd : isD dir = true := g0.din
  have hlook := g0.old (by simp)
  have hlk : lookS S dir name = some (the S ⟨3, dir, toDir, p, name, tu, text⟩) := by rw [lookS_in hd]; exact hlook
  have hst : step S ⟨3, dir, toDir, p, name, tu, text⟩ = S.drop dir.toNat name := by
    rcases step_cases hc with ⟨k, e⟩ | ⟨k, e⟩ | ⟨k, e⟩ | ⟨k, e⟩ | ⟨k, e⟩ | ⟨k, e⟩
    all_goals first | exact e | (exfalso; revert k; decide) | (simp at k)
  have HI := hide (inv_step h.inv ⟨3, dir, toDir, p, name, tu, text⟩)
  rw [hst] at HI ⊢
  rcases atI_lookS h.tags dir name with ⟨_, a2⟩ | ⟨i, hi, htag, a1, a2⟩
  · rw [hlk] at a2; cases a2
  · obtain ⟨nf, hnn⟩ : ∃ n, n = the S ⟨3, dir, toDir, p, name, tu, text⟩ := ⟨_, rfl⟩
    rw [← hnn] at hlk hlook
    have hfile : l[i].file = nf := by rw [hlk] at a2; cases a2; rfl
    have HA := hide a1
    have HTG := hide (h.tags.unlink h.inv hd hlook htag)
    have HXT := hide (show vt.ownBlock ≠ some w.heap.size from fun e => by have := (h.rowT.lt _ e).2; omega)
    have HBX := hide (show b ≠ w.heap.size from fun e => by have := h.blt; omega)
    obtain ⟨ta, tc, rfl, hcap⟩ := own_form h.rowT
    obtain ⟨fa, fc, rfl, _⟩ := own_form h.rowF
    clear hc hk g0 hst a1 a2 bel0 hd hlook hlk h hnn htag
    go_enter Tryz.func31, Tryz.ntmps31
    go_wp2_with fail
    refine (unhide C1).mono ?_
    rintro e w1 ⟨rfl, bel⟩
    have B1 : Below w.heap.size w w1 := (unhide BEL).trans (bel.mono (by simp))
    have c1 : w1.cell? ⟨w.heap.size, 1, none⟩ = some (.int .i64 dir) := unhide HC w1 bel 1 _ rfl
    have c4 : w1.cell? ⟨w.heap.size, 4, none⟩ = some (.string name) := unhide HC w1 bel 4 _ rfl
    obtain ⟨ta2, fa2, tc2, fc2, e1, e2, R1⟩ := ((unhide HR).below B1).rd h1 h2
    have C2 := hide (rAt_any dir name w1 R1)
    rw [unhide HA] at C2
    have BL := hide bel
    clear R1 bel HA e1 e2 ta2 fa2 tc2 fc2
    go_wp2_with fail
    refine (unhide C2).mono ?_
    rintro e w2 ⟨rfl, q, rfl⟩
    have B2 : Below w.heap.size w (w1.drewN q) := belowN B1
    have b2 : Below (w.alloc (.cells (stpA ⟨3, dir, toDir, p, name, tu, text⟩) 37)).heap.size (w.alloc (.cells (stpA ⟨3, dir, toDir, p, name, tu, text⟩) 37)) (w1.drewN q) := belowN (unhide BL)
    clear B1 BL c1 c4 C2
    generalize w1.drewN q = W at B2 b2 ⊢
    have HW := hide ((unhide HR).below B2)
    have c0 : W.cell? ⟨w.heap.size, 0, none⟩ = some (.int .i64 3) := unhide HC W b2 0 _ rfl
    obtain ⟨ta2, fa2, tc2, fc2, e1, e2, R1⟩ := (unhide HW).rd h1 h2
    simp only [Value.slice.injEq] at e1 e2
    obtain ⟨rfl, _, rfl⟩ := e1
    obtain ⟨rfl, _, rfl⟩ := e2
    have tv := R1.tv
    have blt := R1.lt
    obtain ⟨gt, ot, eta, hgt, _, _, t2⟩ := R1.tags i hi
    rw [hfile] at t2
    have HETA := hide eta
    have iz : (i : Int) < (l.length : Int) := by omega
    have u1 : decide ((i : Int) < 0) = false := by simp
    have hTS : TS b w.heap.size (.slice ta l.length tc) (.slice fa S.next fc) ⟨3, dir, toDir, p, name, tu, text⟩ W.drew :=
      ⟨by rw [World.cell?_of_block (w' := W.drew) (w := W) rfl, cell_of_row W b 0 _ _ _ (unhide HW).root]; rfl, by rw [World.cell?_of_block (w' := W.drew) (w := W) rfl, cell_of_row W b 1 _ _ _ (unhide HW).root]; rfl, fun j u hj => by rw [World.cell?_of_block (w' := W.drew) (w := W) rfl]; exact unhide HC W b2 j u hj⟩
    have HX0 := hide (show w.heap.size < W.drew.heap.size from Nat.lt_of_lt_of_le (by simp) b2.size)
    have HW0 := hide ((unhide HW).raw.below (Below.refl _ _).drew)
    have BB := hide (B2.drew)
    clear R1 B2 b2 HW
    subst eta
    go_wp2_with fail
    try (go_quiet (fail); go_wp2_with fail)
    clear t2 tv
    obtain ⟨xl, hxl⟩ : ∃ x, x = sliced (some ⟨gt, ot, none⟩) 0 i tc 3 := ⟨_, rfl⟩
    obtain ⟨xh, hxh⟩ : ∃ x, x = sliced (some ⟨gt, ot, none⟩) (i + 1) l.length tc 3 := ⟨_, rfl⟩
    have HXL := hide hxl
    have HXH := hide hxh
    clear hxl hxh
    refine wp_region_held_drew (S := TS b w.heap.size (.slice (some ⟨gt, ot, none⟩) l.length tc) (.slice fa S.next fc) ⟨3, dir, toDir, p, name, tu, text⟩) (by kernel_rfl) hTS (fun hS => ?_)
    refine wpAnyH_take (i := 0) (oi := { dst := some 102, op := Op.move (Operand.tmp 8), type := 68, pos := "base.go:402", after := #[], guard := none }) (v := .slice none 0 0) rfl (by kernel_rfl) (by kernel_rfl) (by kernel_rfl) (fun _ _ _ h => h) (Or.inl ⟨by kernel_rfl, fun W h => (by first | kernel_rfl | go_simp)⟩) hS ?_
    try simp only [Act.put, List.setIfInBounds_toArray, List.set_cons_zero, List.set_cons_succ]
    refine wpAnyH_take (i := 1) (oi := { dst := some 103, op := Op.move (Operand.tmp 0), type := 67, pos := "base.go:402", after := #[], guard := none }) (v := .pointer (some ⟨b, 0, none⟩)) rfl (by kernel_rfl) (by kernel_rfl) (by kernel_rfl) (fun _ _ _ h => h) (Or.inl ⟨by kernel_rfl, fun W h => (by first | kernel_rfl | go_simp)⟩) hS ?_
    try simp only [Act.put, List.setIfInBounds_toArray, List.set_cons_zero, List.set_cons_succ]
    refine wpAnyH_take (i := 2) (oi := { dst := some 104, op := Op.nilCheck (Operand.tmp 103), type := 0, pos := "base.go:402", after := #[{ on := 1, ground := Ground.data }], guard := none }) (v := .pointer (some ⟨b, 0, none⟩)) rfl (by kernel_rfl) (by kernel_rfl) (by kernel_rfl) (fun _ _ _ h => h) (Or.inl ⟨by kernel_rfl, fun W h => (by first | kernel_rfl | go_simp)⟩) hS ?_
    try simp only [Act.put, List.setIfInBounds_toArray, List.set_cons_zero, List.set_cons_succ]
    refine wpAnyH_take (i := 3) (oi := { dst := some 105, op := Op.fieldAddr 71 (Operand.tmp 104) 0, type := 0, pos := "base.go:402", after := #[{ on := 2, ground := Ground.data }], guard := none }) (v := .pointer (some ⟨b, 0, none⟩)) rfl (by kernel_rfl) (by kernel_rfl) (by kernel_rfl) (fun _ _ _ h => h) (Or.inl ⟨by kernel_rfl, fun W h => (by first | kernel_rfl | go_simp)⟩) hS ?_
    try simp only [Act.put, List.setIfInBounds_toArray, List.set_cons_zero, List.set_cons_succ]
    refine wpAnyH_take (i := 4) (oi := { dst := some 106, op := Op.load 68 (Operand.tmp 105), type := 68, pos := "base.go:402", after := #[{ on := 3, ground := Ground.data }], guard := none }) (v := .slice (some ⟨gt, ot, none⟩) l.length tc) rfl (by kernel_rfl) (by kernel_rfl) (by kernel_rfl) (fun _ _ _ h => h) (Or.inl ⟨by kernel_rfl, fun W h => run_ld_slT (.tmp 105) (by kernel_rfl) (by kernel_rfl) W h.1⟩) hS ?_
    try simp only [Act.put, List.setIfInBounds_toArray, List.set_cons_zero, List.set_cons_succ]
    refine wpAnyH_take (i := 5) (oi := { dst := some 107, op := Op.move (Operand.tmp 6), type := 3, pos := "base.go:402", after := #[], guard := none }) (v := .int .i64 ((i : Nat) : Int)) rfl (by kernel_rfl) (by kernel_rfl) (by kernel_rfl) (fun _ _ _ h => h) (Or.inl ⟨by kernel_rfl, fun W h => (by first | kernel_rfl | go_simp)⟩) hS ?_
    try simp only [Act.put, List.setIfInBounds_toArray, List.set_cons_zero, List.set_cons_succ]
    refine wpAnyH_take (i := 6) (oi := { dst := some 108, op := Op.slice 68 (Operand.tmp 106) none (some (Operand.tmp 107)) none, type := 68, pos := "base.go:402", after := #[{ on := 4, ground := Ground.data }, { on := 5, ground := Ground.data }], guard := none }) (v := xl) rfl (by kernel_rfl) (by kernel_rfl) (by kernel_rfl) (fun _ _ _ h => h) (Or.inl ⟨by kernel_rfl, fun W h => (by rw [unhide HXL]; exact run_exec_cut_lo (m := l.length) (.tmp 106) (.tmp 107) 68 (by kernel_rfl) (by kernel_rfl) (by kernel_rfl) (by omega) Tryz.underlying68 (by kernel_rfl) W)⟩) hS ?_
    try simp only [Act.put, List.setIfInBounds_toArray, List.set_cons_zero, List.set_cons_succ]
    refine wpAnyH_take (i := 8) (oi := { dst := some 110, op := Op.move (Operand.tmp 0), type := 67, pos := "base.go:402", after := #[], guard := none }) (v := .pointer (some ⟨b, 0, none⟩)) rfl (by kernel_rfl) (by kernel_rfl) (by kernel_rfl) (fun _ _ _ h => h) (Or.inl ⟨by kernel_rfl, fun W h => (by first | kernel_rfl | go_simp)⟩) hS ?_
    try simp only [Act.put, List.setIfInBounds_toArray, List.set_cons_zero, List.set_cons_succ]
    refine wpAnyH_take (i := 9) (oi := { dst := some 111, op := Op.nilCheck (Operand.tmp 110), type := 0, pos := "base.go:402", after := #[{ on := 8, ground := Ground.data }], guard := none }) (v := .pointer (some ⟨b, 0, none⟩)) rfl (by kernel_rfl) (by kernel_rfl) (by kernel_rfl) (fun _ _ _ h => h) (Or.inl ⟨by kernel_rfl, fun W h => (by first | kernel_rfl | go_simp)⟩) hS ?_
    try simp only [Act.put, List.setIfInBounds_toArray, List.set_cons_zero, List.set_cons_succ]
    refine wpAnyH_take (i := 10) (oi := { dst := some 112, op := Op.fieldAddr 71 (Operand.tmp 111) 0, type := 0, pos := "base.go:402", after := #[{ on := 9, ground := Ground.data }], guard := none }) (v := .pointer (some ⟨b, 0, none⟩)) rfl (by kernel_rfl) (by kernel_rfl) (by kernel_rfl) (fun _ _ _ h => h) (Or.inl ⟨by kernel_rfl, fun W h => (by first | kernel_rfl | go_simp)⟩) hS ?_
    try simp only [Act.put, List.setIfInBounds_toArray, List.set_cons_zero, List.set_cons_succ]
    refine wpAnyH_take (i := 11) (oi := { dst := some 113, op := Op.load 68 (Operand.tmp 112), type := 68, pos := "base.go:402", after := #[{ on := 10, ground := Ground.data }], guard := none }) (v := .slice (some ⟨gt, ot, none⟩) l.length tc) rfl (by kernel_rfl) (by kernel_rfl) (by kernel_rfl) (fun _ _ _ h => h) (Or.inl ⟨by kernel_rfl, fun W h => run_ld_slT (.tmp 112) (by kernel_rfl) (by kernel_rfl) W h.1⟩) hS ?_
    try simp only [Act.put, List.setIfInBounds_toArray, List.set_cons_zero, List.set_cons_succ]
    refine wpAnyH_take (i := 12) (oi := { dst := some 114, op := Op.move (Operand.tmp 6), type := 3, pos := "base.go:402", after := #[], guard := none }) (v := .int .i64 ((i : Nat) : Int)) rfl (by kernel_rfl) (by kernel_rfl) (by kernel_rfl) (fun _ _ _ h => h) (Or.inl ⟨by kernel_rfl, fun W h => (by first | kernel_rfl | go_simp)⟩) hS ?_
    try simp only [Act.put, List.setIfInBounds_toArray, List.set_cons_zero, List.set_cons_succ]
    refine wpAnyH_take (i := 13) (oi := { dst := some 115, op := Op.binOp BinOp.add 3 (Operand.tmp 114) (Operand.const (Value.int IntKind.i64 1)) 3, type := 3, pos := "base.go:402", after := #[{ on := 12, ground := Ground.data }], guard := none }) (v := .int .i64 ((i + 1 : Nat) : Int)) rfl (by kernel_rfl) (by kernel_rfl) (by kernel_rfl) (fun _ _ _ h => h) (Or.inl ⟨by kernel_rfl, fun W h => run_add_one (.tmp 114) (by kernel_rfl) (by kernel_rfl) (by kernel_rfl) (by omega) W⟩) hS ?_
    try simp only [Act.put, List.setIfInBounds_toArray, List.set_cons_zero, List.set_cons_succ]
    refine wpAnyH_take (i := 14) (oi := { dst := some 116, op := Op.slice 68 (Operand.tmp 113) (some (Operand.tmp 115)) none none, type := 68, pos := "base.go:402", after := #[{ on := 11, ground := Ground.data }, { on := 13, ground := Ground.data }], guard := none }) (v := xh) rfl (by kernel_rfl) (by kernel_rfl) (by kernel_rfl) (fun _ _ _ h => h) (Or.inl ⟨by kernel_rfl, fun W h => (by rw [unhide HXH]; exact run_exec_cut_hi (m := l.length) (.tmp 113) (.tmp 115) 68 (by kernel_rfl) (by kernel_rfl) (by kernel_rfl) (by omega) Tryz.underlying68 (by kernel_rfl) W)⟩) hS ?_
    try simp only [Act.put, List.setIfInBounds_toArray, List.set_cons_zero, List.set_cons_succ]
    generalize World.drew _ = W0 at hS HW0 HX0 BB ⊢
    have hlen : (l).length = l.length := by simp
    refine wpAnyH_ready (rs := [7]) (by kernel_rfl) (by simp) ?_
    refine AllReadyH.cons (o := { dst := some 109, op := Op.call { callee := Callee.builtin Builtin.append, args := #[Operand.tmp 102, Operand.tmp 108], argTypes := #[68, 68] }, type := 68, pos := "base.go:402", after := #[{ on := 0, ground := Ground.data }, { on := 6, ground := Ground.data }], guard := none }) rfl (fun K hK => ?_) AllReadyH.nil
    rw [if_pos (by kernel_rfl)]
    refine wp_append_part (base := 0) (m := i) (news := (cellsT (l)).take (i * 3)) (.tmp 102) (.tmp 108) (by kernel_rfl) Tryz.underlying68 hi0 hz0 hz1 hz2 hz3 (by omega) (by kernel_rfl) (World.ownsRow_nil _ _ _ _) (xv := xl) (by kernel_rfl) (by rw [unhide HXL]; exact part_lo (row_len hlen (unhide HW0).rowT) (by omega)) (fun u hu => cellsT_one _ u (List.mem_of_mem_take hu)) (by unfold maxLen; omega) (by omega) (by simp) ?_
    intro v1 W1 ho1 hg1 ha1
    have hS1 := hS.keep (hg1.block b (unhide HW0).blt (by intro e; cases e)) (hg1.block w.heap.size (unhide HX0) (by intro e; cases e))
    refine hK.out _ _ hS1 (fun _ => ?_)
    clear hK K
    try simp only [Act.put, List.setIfInBounds_toArray, List.set_cons_zero, List.set_cons_succ]
    refine wpAnyH_ready (rs := [15]) (by kernel_rfl) (by simp) ?_
    refine AllReadyH.cons (o := { dst := some 117, op := Op.call { callee := Callee.builtin Builtin.append, args := #[Operand.tmp 109, Operand.tmp 116], argTypes := #[68, 68] }, type := 68, pos := "base.go:402", after := #[{ on := 7, ground := Ground.data }, { on := 14, ground := Ground.data }, { on := 7, ground := Ground.chain }], guard := none }) rfl (fun K hK => ?_) AllReadyH.nil
    rw [if_pos (by kernel_rfl)]
    refine wp_append_part (base := 0) (m := l.length - (i + 1)) (news := (cellsT (l)).drop ((i + 1) * 3)) (.tmp 109) (.tmp 116) (by kernel_rfl) Tryz.underlying68 hi0 hz0 hz1 hz2 hz3 (by omega) (by kernel_rfl) ho1 (xv := xh) (by kernel_rfl) (by rw [unhide HXH]; exact part_hi (row_none (row_len hlen (unhide HW0).rowT) hg1) (by omega)) (fun u hu => cellsT_one _ u (List.mem_of_mem_drop hu)) (by unfold maxLen; omega) (by omega) (by simp) ?_
    intro v2 W2 ho2 hg2 ha2
    have RW := hide (unlink_raw (l := l) (i := i) (unhide HW0) (by omega) hg1 hg2 ha1 ha2 (by rw [hlen]; exact ho2))
    have hS2 := hS.keep ((unhide RW).2 b (unhide HW0).blt) ((unhide RW).2 w.heap.size (unhide HX0))
    refine hK.out _ _ hS2 (fun _ => ?_)
    clear hK K ho1 hg1 ha1 hS1
    try simp only [Act.put, List.setIfInBounds_toArray, List.set_cons_zero, List.set_cons_succ]
    generalize 0 + i + (l.length - (i + 1)) = n2 at ho2
    obtain ⟨a2, c2, rfl, _⟩ := own_form ho2
    clear ho2 hg2 ha2
    refine wpAnyH_take (i := 16) (oi := { dst := some 8, op := Op.assign (Operand.tmp 117), type := 68, pos := "base.go:402", after := #[{ on := 15, ground := Ground.data }, { on := 15, ground := Ground.chain }, { on := 0, ground := Ground.phase }, { on := 1, ground := Ground.phase }, { on := 2, ground := Ground.phase }, { on := 3, ground := Ground.phase }, { on := 4, ground := Ground.phase }, { on := 5, ground := Ground.phase }, { on := 6, ground := Ground.phase }, { on := 7, ground := Ground.phase }, { on := 8, ground := Ground.phase }, { on := 9, ground := Ground.phase }, { on := 10, ground := Ground.phase }, { on := 11, ground := Ground.phase }, { on := 12, ground := Ground.phase }, { on := 13, ground := Ground.phase }, { on := 14, ground := Ground.phase }, { on := 15, ground := Ground.phase }], guard := none }) (v := .slice a2 n2 c2) rfl (by kernel_rfl) (by kernel_rfl) (by kernel_rfl) (fun _ _ _ h => h) (Or.inl ⟨by kernel_rfl, fun W h => (by kernel_rfl)⟩) hS2 ?_
    try simp only [Act.put, List.setIfInBounds_toArray, List.set_cons_zero, List.set_cons_succ]
    refine wpAnyH_done (by kernel_rfl) ?_ _
    have fv2 := hS2.1
    have fz2 : W2.frozen? ⟨b, 0, none⟩ = false := frozen_of_row W2 b 0 _ 71 (((unhide RW).2 b (unhide HW0).blt).trans (unhide HW0).root)
    have kx2 := hS2.2.2 0 _ rfl
    have hbx : b ≠ w.heap.size := unhide HBX
    have HDONE := hide ((((unhide RW).1).cast (S1 := S.drop dir.toNat name) rfl).held (m := l.length) (S1 := S.drop dir.toNat name) (unhide BB) (unhide HI) (unhide HTG) (by rw [List.length_append, List.length_take, List.length_drop]; omega))
    clear hS hS2 hTS
    go_wp2_with fail
    go_ret
    exact ⟨rfl, unhide HDONE⟩
end
end Idl
end Go.Proofs.YtmlhalhjfcfagabGreat
namespace Go.Proofs.YtmlhalhjfcfagabGreat
open Go.RowKit
namespace Idl
section
variable {w : World} {b : Nat} {S : St} {l : List Tg} {vt vf : Value}
set_option maxHeartbeats 4000000 in
set_option maxRecDepth 100000 in
theorem rDo_rename (h : IRep w b S l vt vf) (h1 : l.length ≤ 1000000) (h2 : S.next ≤ 1000000) (dir toDir p : Int) (name tu text : ByteArray) (hn : name.size ≤ maxLen) (ht : tu.size ≤ maxLen) (hx : text.size ≤ maxLen) (hc : code S ⟨4, dir, toDir, p, name, tu, text⟩ = 0) :
    Calls Tryz.prog 31 #[.pointer (some ⟨b, 0, none⟩), .agg (stpA ⟨4, dir, toDir, p, name, tu, text⟩)] w fun e w' => e = .returned (.int .i64 0) ∧ IHeld b vt vf w w' (step S ⟨4, dir, toDir, p, name, tu, text⟩) (l.length + 1) := by
  obtain ⟨i0, zt, hi0, hz0, hz1, hz2, hz3⟩ := tag_info
  have bel0 : Below w.heap.size w (w.alloc (.cells (stpA ⟨4, dir, toDir, p, name, tu, text⟩) 37)) := (Below.refl _ w).alloc (Nat.le_refl _) _
  have C1 := hide (stepFault_any ⟨4, dir, toDir, p, name, tu, text⟩ hn ht hx (w.alloc (.cells (stpA ⟨4, dir, toDir, p, name, tu, text⟩) 37)))
  have BEL := hide bel0
  have HC := hide fun W bW => stp_kept w ⟨4, dir, toDir, p, name, tu, text⟩ W bW
  have HR := hide h
  have hk : chk ⟨4, dir, toDir, p, name, tu, text⟩ = 0 := by
    cases e : decide (chk ⟨4, dir, toDir, p, name, tu, text⟩ = 0)
    · rw [code_chk (by simpa using e)] at hc; exact hc
    · simpa using e
  rw [hk] at C1
  have g0 := goes hc
  have hd : isD dir = true := g0.din
  have hlook := g0.old (by simp)
  have hlk : lookS S dir name = some (the S ⟨4, dir, toDir, p, name, tu, text⟩) := by rw [lookS_in hd]; exact hlook
  have hto := g0.to (by simp)
  have hd2 : isD toDir = true := hto.1
  have hnew : look (S.dir toDir.toNat) tu = none := hto.2.2
  have hlk2 : lookS S toDir tu = none := by rw [lookS_in hd2]; exact hnew
  have hst : step S ⟨4, dir, toDir, p, name, tu, text⟩ = (S.add toDir.toNat tu (the S ⟨4, dir, toDir, p, name, tu, text⟩)).drop dir.toNat name := by
    rcases step_cases hc with ⟨k, e⟩ | ⟨k, e⟩ | ⟨k, e⟩ | ⟨k, e⟩ | ⟨k, e⟩ | ⟨k, e⟩
    all_goals first | exact e | (exfalso; revert k; decide) | (simp at k)
  have HI := hide (inv_step h.inv ⟨4, dir, toDir, p, name, tu, text⟩)
  rw [hst] at HI ⊢
  rcases atI_lookS h.tags dir name with ⟨_, a2⟩ | ⟨i, hi, htag, a1, a2⟩
  · rw [hlk] at a2; cases a2
  · obtain ⟨nf, hnn⟩ : ∃ n, n = the S ⟨4, dir, toDir, p, name, tu, text⟩ := ⟨_, rfl⟩
    rw [← hnn] at HI hlk hlook ⊢
    have hfile : l[i].file = nf := by rw [hlk] at a2; cases a2; rfl
    have HA := hide a1
    have hI1 : Inv (S.add toDir.toNat tu nf) := h.inv.add _ _ _ hnew hto.2.1 (old_lt h.inv hlook)
    have hlook1 : look ((S.add toDir.toNat tu nf).dir dir.toNat) name = some nf := by
      have := lookS_add h.inv hd2 tu nf dir name
      rw [if_neg (fun z => by rw [z.1, z.2, hlk2] at hlk; cases hlk), hlk, lookS_in hd] at this
      exact this
    have HTG := hide ((h.tags.link h.inv (n := nf) hd2 hnew).unlink hI1 hd hlook1 (tagAt_append htag ⟨toDir, tu, nf⟩))
    have hB1 : atI l toDir tu = -1 := by
      rcases atI_lookS h.tags toDir tu with ⟨z, _⟩ | ⟨_, _, _, _, z⟩
      · exact z
      · rw [hlk2] at z; cases z
    have HB := hide hB1
    clear hB1
    have HXT := hide (show vt.ownBlock ≠ some w.heap.size from fun e => by have := (h.rowT.lt _ e).2; omega)
    have HBX := hide (show b ≠ w.heap.size from fun e => by have := h.blt; omega)
    obtain ⟨ta, tc, rfl, hcap⟩ := own_form h.rowT
    obtain ⟨fa, fc, rfl, _⟩ := own_form h.rowF
    clear hc hk g0 hst a1 a2 bel0 hd hlook hlk h hnn htag hto hd2 hnew hlk2 hI1 hlook1
    go_enter Tryz.func31, Tryz.ntmps31
    go_wp2_with fail
    refine (unhide C1).mono ?_
    rintro e w1 ⟨rfl, bel⟩
    have B1 : Below w.heap.size w w1 := (unhide BEL).trans (bel.mono (by simp))
    have c1 : w1.cell? ⟨w.heap.size, 1, none⟩ = some (.int .i64 dir) := unhide HC w1 bel 1 _ rfl
    have c4 : w1.cell? ⟨w.heap.size, 4, none⟩ = some (.string name) := unhide HC w1 bel 4 _ rfl
    obtain ⟨ta2, fa2, tc2, fc2, e1, e2, R1⟩ := ((unhide HR).below B1).rd h1 h2
    have C2 := hide (rAt_any dir name w1 R1)
    rw [unhide HA] at C2
    have BL := hide bel
    clear R1 bel HA e1 e2 ta2 fa2 tc2 fc2
    go_wp2_with fail
    refine (unhide C2).mono ?_
    rintro e w2 ⟨rfl, q, rfl⟩
    have B2 : Below w.heap.size w (w1.drewN q) := belowN B1
    have b2 : Below (w.alloc (.cells (stpA ⟨4, dir, toDir, p, name, tu, text⟩) 37)).heap.size (w.alloc (.cells (stpA ⟨4, dir, toDir, p, name, tu, text⟩) 37)) (w1.drewN q) := belowN (unhide BL)
    clear B1 BL c1 c4 C2
    generalize w1.drewN q = W at B2 b2 ⊢
    have HW := hide ((unhide HR).below B2)
    have c0 : W.cell? ⟨w.heap.size, 0, none⟩ = some (.int .i64 4) := unhide HC W b2 0 _ rfl
    obtain ⟨ta2, fa2, tc2, fc2, e1, e2, R1⟩ := (unhide HW).rd h1 h2
    simp only [Value.slice.injEq] at e1 e2
    obtain ⟨rfl, _, rfl⟩ := e1
    obtain ⟨rfl, _, rfl⟩ := e2
    have tv := R1.tv
    have blt := R1.lt
    obtain ⟨gt, ot, eta, hgt, _, _, t2⟩ := R1.tags i hi
    rw [hfile] at t2
    have HETA := hide eta
    have iz : (i : Int) < (l.length : Int) := by omega
    have u1 : decide ((i : Int) < 0) = false := by simp
    have C3 := hide (rAt_any toDir tu W R1)
    rw [unhide HB] at C3
    have c2 : W.cell? ⟨w.heap.size, 2, none⟩ = some (.int .i64 toDir) := unhide HC W b2 2 _ rfl
    have c5 : W.cell? ⟨w.heap.size, 5, none⟩ = some (.string tu) := unhide HC W b2 5 _ rfl
    clear R1 HB
    subst eta
    go_wp2_with fail
    try (go_quiet (fail); go_wp2_with fail)
    refine (unhide C3).mono ?_
    rintro e w2 ⟨rfl, q2, rfl⟩
    replace B2 : Below w.heap.size w (W.drewN q2) := belowN B2
    replace b2 : Below (w.alloc (.cells (stpA ⟨4, dir, toDir, p, name, tu, text⟩) 37)).heap.size (w.alloc (.cells (stpA ⟨4, dir, toDir, p, name, tu, text⟩) 37)) (W.drewN q2) := belowN b2
    replace HW := hide ((unhide HR).below B2)
    clear c0 c2 c5 tv t2 C3
    generalize W.drewN q2 = WW at B2 b2 HW ⊢
    have hTS : TS b w.heap.size (.slice (some ⟨gt, ot, none⟩) l.length tc) (.slice fa S.next fc) ⟨4, dir, toDir, p, name, tu, text⟩ WW.drew :=
      ⟨by rw [World.cell?_of_block (w' := WW.drew) (w := WW) rfl, cell_of_row WW b 0 _ _ _ (unhide HW).root]; rfl, by rw [World.cell?_of_block (w' := WW.drew) (w := WW) rfl, cell_of_row WW b 1 _ _ _ (unhide HW).root]; rfl, fun j u hj => by rw [World.cell?_of_block (w' := WW.drew) (w := WW) rfl]; exact unhide HC WW b2 j u hj⟩
    have HX0 := hide (show w.heap.size < WW.drew.heap.size from Nat.lt_of_lt_of_le (by simp) b2.size)
    have HW0 := hide ((unhide HW).raw.below (Below.refl _ _).drew)
    have BB := hide (B2.drew)
    clear B2 b2 HW
    go_wp2_with fail
    try (go_quiet (fail); go_wp2_with fail)
    refine wp_region_J (S := TS b w.heap.size (.slice (some ⟨gt, ot, none⟩) l.length tc) (.slice fa S.next fc) ⟨4, dir, toDir, p, name, tu, text⟩) 15 (by kernel_rfl) hTS (fun hS => ?_)
    refine wpAnyJ_take (i := 0) (oi := { dst := some 79, op := Op.move (Operand.tmp 0), type := 67, pos := "base.go:398", after := #[], guard := none }) (v := .pointer (some ⟨b, 0, none⟩)) rfl (by kernel_rfl) (by kernel_rfl) (by kernel_rfl) (by kernel_rfl) (fun _ _ _ h => h) (Or.inl ⟨by kernel_rfl, fun W h => (by first | kernel_rfl | go_simp)⟩) hS ?_
    simp only [Act.put, List.setIfInBounds_toArray, List.set_cons_zero, List.set_cons_succ]
    refine wpAnyJ_take (i := 1) (oi := { dst := some 80, op := Op.move (Operand.tmp 0), type := 67, pos := "base.go:398", after := #[], guard := none }) (v := .pointer (some ⟨b, 0, none⟩)) rfl (by kernel_rfl) (by kernel_rfl) (by kernel_rfl) (by kernel_rfl) (fun _ _ _ h => h) (Or.inl ⟨by kernel_rfl, fun W h => (by first | kernel_rfl | go_simp)⟩) hS ?_
    simp only [Act.put, List.setIfInBounds_toArray, List.set_cons_zero, List.set_cons_succ]
    refine wpAnyJ_take (i := 2) (oi := { dst := some 81, op := Op.nilCheck (Operand.tmp 80), type := 0, pos := "base.go:398", after := #[{ on := 1, ground := Ground.data }], guard := none }) (v := .pointer (some ⟨b, 0, none⟩)) rfl (by kernel_rfl) (by kernel_rfl) (by kernel_rfl) (by kernel_rfl) (fun _ _ _ h => h) (Or.inl ⟨by kernel_rfl, fun W h => (by first | kernel_rfl | go_simp)⟩) hS ?_
    simp only [Act.put, List.setIfInBounds_toArray, List.set_cons_zero, List.set_cons_succ]
    refine wpAnyJ_take (i := 3) (oi := { dst := some 82, op := Op.fieldAddr 71 (Operand.tmp 81) 0, type := 0, pos := "base.go:398", after := #[{ on := 2, ground := Ground.data }], guard := none }) (v := .pointer (some ⟨b, 0, none⟩)) rfl (by kernel_rfl) (by kernel_rfl) (by kernel_rfl) (by kernel_rfl) (fun _ _ _ h => h) (Or.inl ⟨by kernel_rfl, fun W h => (by first | kernel_rfl | go_simp)⟩) hS ?_
    simp only [Act.put, List.setIfInBounds_toArray, List.set_cons_zero, List.set_cons_succ]
    refine wpAnyJ_take (i := 4) (oi := { dst := some 83, op := Op.load 68 (Operand.tmp 82), type := 68, pos := "base.go:398", after := #[{ on := 3, ground := Ground.data }], guard := none }) (v := .slice (some ⟨gt, ot, none⟩) l.length tc) rfl (by kernel_rfl) (by kernel_rfl) (by kernel_rfl) (by kernel_rfl) (fun _ _ _ h => h) (Or.inl ⟨by kernel_rfl, fun W h => run_ld_slT (.tmp 82) (by kernel_rfl) (by kernel_rfl) W h.1⟩) hS ?_
    simp only [Act.put, List.setIfInBounds_toArray, List.set_cons_zero, List.set_cons_succ]
    refine wpAnyJ_take (i := 5) (oi := { dst := some 84, op := Op.fieldAddr 37 (Operand.tmp 3) 2, type := 0, pos := "base.go:398", after := #[], guard := none }) (v := .pointer (some ⟨w.heap.size, 2, none⟩)) rfl (by kernel_rfl) (by kernel_rfl) (by kernel_rfl) (by kernel_rfl) (fun _ _ _ h => h) (Or.inl ⟨by kernel_rfl, fun W h => (by first | kernel_rfl | go_simp)⟩) hS ?_
    simp only [Act.put, List.setIfInBounds_toArray, List.set_cons_zero, List.set_cons_succ]
    refine wpAnyJ_take (i := 6) (oi := { dst := some 85, op := Op.load 3 (Operand.tmp 84), type := 3, pos := "base.go:398", after := #[{ on := 5, ground := Ground.data }], guard := none }) (v := .int .i64 toDir) rfl (by kernel_rfl) (by kernel_rfl) (by kernel_rfl) (by kernel_rfl) (fun _ _ _ h => h) (Or.inl ⟨by kernel_rfl, fun W h => run_ld_int (.tmp 84) (by kernel_rfl) (by kernel_rfl) W (h.2.2 2 _ rfl)⟩) hS ?_
    simp only [Act.put, List.setIfInBounds_toArray, List.set_cons_zero, List.set_cons_succ]
    refine wpAnyJ_take (i := 7) (oi := { dst := some 86, op := Op.fieldAddr 37 (Operand.tmp 3) 5, type := 0, pos := "base.go:398", after := #[], guard := none }) (v := .pointer (some ⟨w.heap.size, 5, none⟩)) rfl (by kernel_rfl) (by kernel_rfl) (by kernel_rfl) (by kernel_rfl) (fun _ _ _ h => h) (Or.inl ⟨by kernel_rfl, fun W h => (by first | kernel_rfl | go_simp)⟩) hS ?_
    simp only [Act.put, List.setIfInBounds_toArray, List.set_cons_zero, List.set_cons_succ]
    refine wpAnyJ_take (i := 8) (oi := { dst := some 87, op := Op.load 9 (Operand.tmp 86), type := 9, pos := "base.go:398", after := #[{ on := 7, ground := Ground.data }], guard := none }) (v := .string tu) rfl (by kernel_rfl) (by kernel_rfl) (by kernel_rfl) (by kernel_rfl) (fun _ _ _ h => h) (Or.inl ⟨by kernel_rfl, fun W h => run_ld_str (.tmp 86) (by kernel_rfl) (by kernel_rfl) W (h.2.2 5 _ rfl)⟩) hS ?_
    simp only [Act.put, List.setIfInBounds_toArray, List.set_cons_zero, List.set_cons_succ]
    refine wpAnyJ_take (i := 9) (oi := { dst := some 88, op := Op.move (Operand.tmp 7), type := 3, pos := "base.go:398", after := #[], guard := none }) (v := .int .i64 ((nf : Nat) : Int)) rfl (by kernel_rfl) (by kernel_rfl) (by kernel_rfl) (by kernel_rfl) (fun _ _ _ h => h) (Or.inl ⟨by kernel_rfl, fun W h => (by first | kernel_rfl | go_simp)⟩) hS ?_
    simp only [Act.put, List.setIfInBounds_toArray, List.set_cons_zero, List.set_cons_succ]
    refine wpAnyJ_take (i := 10) (oi := { dst := some 89, op := Op.build 90 #[(0, Operand.tmp 85), (1, Operand.tmp 87), (2, Operand.tmp 88)], type := 90, pos := "base.go:398", after := #[{ on := 6, ground := Ground.data }, { on := 8, ground := Ground.data }, { on := 9, ground := Ground.data }], guard := none }) (v := .agg #[.int .i64 toDir, .string tu, .int .i64 ((nf : Nat) : Int)]) rfl (by kernel_rfl) (by kernel_rfl) (by kernel_rfl) (by kernel_rfl) (fun _ _ _ h => h) (Or.inl ⟨by kernel_rfl, fun W h => (by first | kernel_rfl | go_simp)⟩) hS ?_
    simp only [Act.put, List.setIfInBounds_toArray, List.set_cons_zero, List.set_cons_succ]
    generalize World.drew _ = W0 at hS HW0 HX0 BB ⊢
    refine wpAnyJ_one (i := 11) (o := { dst := some 90, op := Op.buildSlice 68 1 #[(0, Operand.tmp 89)], type := 68, pos := "base.go:398", after := #[{ on := 10, ground := Ground.data }], guard := none }) (by kernel_rfl) rfl (by kernel_rfl) (fun K hK => ?_)
    go_simp
    have hS1 := hS.keep (W' := W0.alloc (.cells #[.int .i64 toDir, .string tu, .int .i64 ((nf : Nat) : Int)] 90)) (heap_alloc_old _ _ (unhide HW0).blt) (heap_alloc_old _ _ (unhide HX0))
    refine hK.out _ _ (fun _ => hS1) ?_
    clear hK K
    try simp only [Act.put, List.setIfInBounds_toArray, List.set_cons_zero, List.set_cons_succ]
    refine wpAnyJ_one (i := 12) (o := { dst := some 91, op := Op.call { callee := Callee.builtin Builtin.append, args := #[Operand.tmp 83, Operand.tmp 90], argTypes := #[68, 68] }, type := 68, pos := "base.go:398", after := #[{ on := 4, ground := Ground.data }, { on := 11, ground := Ground.data }], guard := none }) (by kernel_rfl) rfl (by kernel_rfl) (fun K hK => ?_)
    refine wp_append_part (.tmp 83) (.tmp 90) (by kernel_rfl) Tryz.underlying68 hi0 hz0 hz1 hz2 hz3 (by omega) (by kernel_rfl) (World.ownsRow.alloc (unhide HW0).rowT _) (by kernel_rfl) (.inr ⟨⟨W0.heap.size, 0, none⟩, 1, rfl, rfl, row_new W0 [.int .i64 toDir, .string tu, .int .i64 ((nf : Nat) : Int)] 90⟩) (one_tag toDir tu nf) (by unfold maxLen; omega) (by omega) (by simp) ?_
    intro v' W2 ho hg ha
    obtain ⟨a', c', rfl, _⟩ := own_form ho
    have hS2 := hS1.keep (hg.block b (Nat.lt_of_lt_of_le (unhide HW0).blt (by simp)) (fun e => (unhide HW0).offT e.symm)) (hg.block w.heap.size (Nat.lt_of_lt_of_le (unhide HX0) (by simp)) (fun e => unhide HXT e.symm))
    have RAW := hide (make_raw (unhide HW0) ho hg ha)
    have FRZ := hide (raw_frozen (unhide HW0) hg)
    refine hK.out _ _ (fun _ => hS2) ?_
    clear hK K ho hg ha
    try simp only [Act.put, List.setIfInBounds_toArray, List.set_cons_zero, List.set_cons_succ]
    refine wpAnyJ_one (i := 13) (o := { dst := some 92, op := Op.nilCheck (Operand.tmp 79), type := 0, pos := "base.go:398", after := #[{ on := 0, ground := Ground.data }, { on := 0, ground := Ground.phase }, { on := 1, ground := Ground.phase }, { on := 2, ground := Ground.phase }, { on := 3, ground := Ground.phase }, { on := 4, ground := Ground.phase }, { on := 5, ground := Ground.phase }, { on := 6, ground := Ground.phase }, { on := 7, ground := Ground.phase }, { on := 8, ground := Ground.phase }, { on := 9, ground := Ground.phase }, { on := 10, ground := Ground.phase }, { on := 11, ground := Ground.phase }, { on := 12, ground := Ground.phase }], guard := none }) (by kernel_rfl) rfl (by kernel_rfl) (fun K hK => ?_)
    go_simp
    refine hK.out _ _ (fun _ => hS2) ?_
    clear hK K
    try simp only [Act.put, List.setIfInBounds_toArray, List.set_cons_zero, List.set_cons_succ]
    refine wpAnyJ_one (i := 14) (o := { dst := some 93, op := Op.fieldAddr 71 (Operand.tmp 92) 0, type := 0, pos := "base.go:398", after := #[{ on := 13, ground := Ground.data }, { on := 0, ground := Ground.phase }, { on := 1, ground := Ground.phase }, { on := 2, ground := Ground.phase }, { on := 3, ground := Ground.phase }, { on := 4, ground := Ground.phase }, { on := 5, ground := Ground.phase }, { on := 6, ground := Ground.phase }, { on := 7, ground := Ground.phase }, { on := 8, ground := Ground.phase }, { on := 9, ground := Ground.phase }, { on := 10, ground := Ground.phase }, { on := 11, ground := Ground.phase }, { on := 12, ground := Ground.phase }], guard := none }) (by kernel_rfl) rfl (by kernel_rfl) (fun K hK => ?_)
    go_simp
    refine hK.out _ _ (fun _ => hS2) ?_
    clear hK K
    try simp only [Act.put, List.setIfInBounds_toArray, List.set_cons_zero, List.set_cons_succ]
    refine wpAnyJ_one (i := 15) (o := { dst := none, op := Op.store 68 (Operand.tmp 93) (Operand.tmp 91), type := 0, pos := "base.go:398", after := #[{ on := 14, ground := Ground.data }, { on := 12, ground := Ground.data }, { on := 12, ground := Ground.chain }, { on := 0, ground := Ground.phase }, { on := 1, ground := Ground.phase }, { on := 2, ground := Ground.phase }, { on := 3, ground := Ground.phase }, { on := 4, ground := Ground.phase }, { on := 5, ground := Ground.phase }, { on := 6, ground := Ground.phase }, { on := 7, ground := Ground.phase }, { on := 8, ground := Ground.phase }, { on := 9, ground := Ground.phase }, { on := 10, ground := Ground.phase }, { on := 11, ground := Ground.phase }, { on := 12, ground := Ground.phase }], guard := none }) (by kernel_rfl) rfl (by kernel_rfl) (fun K hK => ?_)
    refine wp_st_slT (v := a') (n := l.length + 1) (c := c') (.tmp 93) (.tmp 91) (by kernel_rfl) rfl (by kernel_rfl) (by kernel_rfl) hS2.1 (unhide FRZ) ?_
    refine hK.out _ _ (fun h => absurd rfl h) ?_
    clear hK K
    refine wpAnyJ_done (by kernel_rfl) ?_ _
    obtain ⟨WB, hWB⟩ : ∃ WB, WB = W2.setCell ⟨b, 0, none⟩ (.slice a' (l.length + 1) c') := ⟨_, rfl⟩
    have hxb : ∀ (j : Nat) (u : Value), (stpA ⟨4, dir, toDir, p, name, tu, text⟩)[j]? = some u → WB.cell? ⟨w.heap.size, j, none⟩ = some u := fun j u hj => by
      rw [hWB, World.cell?_setCell_far _ _ _ _ (unhide HBX)]; exact hS2.2.2 j u hj
    rw [← hWB] at RAW ⊢
    clear hWB hS hS1 hS2 FRZ hTS
    have k0 : WB.cell? ⟨w.heap.size, 0, none⟩ = some (.int .i64 4) := hxb 0 _ rfl
    have hcap2 : l.length + 1 ≤ c' := by
      rcases (unhide RAW).1.rowT.2 with ⟨e, _⟩ | ⟨_, _, _, e, _, _, hm, _⟩
      · simp at e
      · simp only [Value.slice.injEq] at e
        obtain ⟨_, _, rfl⟩ := e
        simpa using hm
    have hTS : TS b w.heap.size (.slice a' (l.length + 1) c') (.slice fa S.next fc) ⟨4, dir, toDir, p, name, tu, text⟩ WB.drew :=
      ⟨by rw [World.cell?_of_block (w' := WB.drew) (w := WB) rfl, cell_of_row WB b 0 _ _ _ (unhide RAW).1.root]; rfl, by rw [World.cell?_of_block (w' := WB.drew) (w := WB) rfl, cell_of_row WB b 1 _ _ _ (unhide RAW).1.root]; rfl, fun j u hj => by rw [World.cell?_of_block (w' := WB.drew) (w := WB) rfl]; exact hxb j u hj⟩
    have HB0 := hide (unhide BB)
    have HX1 := hide (show w.heap.size < WB.drew.heap.size from Nat.lt_of_lt_of_le (unhide HX0) (unhide RAW).2.1.size)
    clear BB HX0 HW0
    have HX0 := hide (unhide HX1)
    have HW0 := hide ((unhide RAW).1.below (Below.refl _ _).drew)
    have BB := hide (show Below WB.heap.size WB WB.drew from (Below.refl WB.heap.size WB).drew)
    clear HX1
    clear hxb
    go_wp2_with fail
    try (go_quiet (fail); go_wp2_with fail)
    obtain ⟨xl, hxl⟩ : ∃ x, x = sliced a' 0 i c' 3 := ⟨_, rfl⟩
    obtain ⟨xh, hxh⟩ : ∃ x, x = sliced a' (i + 1) (l.length + 1) c' 3 := ⟨_, rfl⟩
    have HXL := hide hxl
    have HXH := hide hxh
    clear hxl hxh
    refine wp_region_held_drew (S := TS b w.heap.size (.slice a' (l.length + 1) c') (.slice fa S.next fc) ⟨4, dir, toDir, p, name, tu, text⟩) (by kernel_rfl) hTS (fun hS => ?_)
    refine wpAnyH_take (i := 0) (oi := { dst := some 102, op := Op.move (Operand.tmp 8), type := 68, pos := "base.go:402", after := #[], guard := none }) (v := .slice none 0 0) rfl (by kernel_rfl) (by kernel_rfl) (by kernel_rfl) (fun _ _ _ h => h) (Or.inl ⟨by kernel_rfl, fun W h => (by first | kernel_rfl | go_simp)⟩) hS ?_
    try simp only [Act.put, List.setIfInBounds_toArray, List.set_cons_zero, List.set_cons_succ]
    refine wpAnyH_take (i := 1) (oi := { dst := some 103, op := Op.move (Operand.tmp 0), type := 67, pos := "base.go:402", after := #[], guard := none }) (v := .pointer (some ⟨b, 0, none⟩)) rfl (by kernel_rfl) (by kernel_rfl) (by kernel_rfl) (fun _ _ _ h => h) (Or.inl ⟨by kernel_rfl, fun W h => (by first | kernel_rfl | go_simp)⟩) hS ?_
    try simp only [Act.put, List.setIfInBounds_toArray, List.set_cons_zero, List.set_cons_succ]
    refine wpAnyH_take (i := 2) (oi := { dst := some 104, op := Op.nilCheck (Operand.tmp 103), type := 0, pos := "base.go:402", after := #[{ on := 1, ground := Ground.data }], guard := none }) (v := .pointer (some ⟨b, 0, none⟩)) rfl (by kernel_rfl) (by kernel_rfl) (by kernel_rfl) (fun _ _ _ h => h) (Or.inl ⟨by kernel_rfl, fun W h => (by first | kernel_rfl | go_simp)⟩) hS ?_
    try simp only [Act.put, List.setIfInBounds_toArray, List.set_cons_zero, List.set_cons_succ]
    refine wpAnyH_take (i := 3) (oi := { dst := some 105, op := Op.fieldAddr 71 (Operand.tmp 104) 0, type := 0, pos := "base.go:402", after := #[{ on := 2, ground := Ground.data }], guard := none }) (v := .pointer (some ⟨b, 0, none⟩)) rfl (by kernel_rfl) (by kernel_rfl) (by kernel_rfl) (fun _ _ _ h => h) (Or.inl ⟨by kernel_rfl, fun W h => (by first | kernel_rfl | go_simp)⟩) hS ?_
    try simp only [Act.put, List.setIfInBounds_toArray, List.set_cons_zero, List.set_cons_succ]
    refine wpAnyH_take (i := 4) (oi := { dst := some 106, op := Op.load 68 (Operand.tmp 105), type := 68, pos := "base.go:402", after := #[{ on := 3, ground := Ground.data }], guard := none }) (v := .slice a' (l.length + 1) c') rfl (by kernel_rfl) (by kernel_rfl) (by kernel_rfl) (fun _ _ _ h => h) (Or.inl ⟨by kernel_rfl, fun W h => run_ld_slT (.tmp 105) (by kernel_rfl) (by kernel_rfl) W h.1⟩) hS ?_
    try simp only [Act.put, List.setIfInBounds_toArray, List.set_cons_zero, List.set_cons_succ]
    refine wpAnyH_take (i := 5) (oi := { dst := some 107, op := Op.move (Operand.tmp 6), type := 3, pos := "base.go:402", after := #[], guard := none }) (v := .int .i64 ((i : Nat) : Int)) rfl (by kernel_rfl) (by kernel_rfl) (by kernel_rfl) (fun _ _ _ h => h) (Or.inl ⟨by kernel_rfl, fun W h => (by first | kernel_rfl | go_simp)⟩) hS ?_
    try simp only [Act.put, List.setIfInBounds_toArray, List.set_cons_zero, List.set_cons_succ]
    refine wpAnyH_take (i := 6) (oi := { dst := some 108, op := Op.slice 68 (Operand.tmp 106) none (some (Operand.tmp 107)) none, type := 68, pos := "base.go:402", after := #[{ on := 4, ground := Ground.data }, { on := 5, ground := Ground.data }], guard := none }) (v := xl) rfl (by kernel_rfl) (by kernel_rfl) (by kernel_rfl) (fun _ _ _ h => h) (Or.inl ⟨by kernel_rfl, fun W h => (by rw [unhide HXL]; exact run_exec_cut_lo (m := (l.length + 1)) (.tmp 106) (.tmp 107) 68 (by kernel_rfl) (by kernel_rfl) (by kernel_rfl) (by omega) Tryz.underlying68 (by kernel_rfl) W)⟩) hS ?_
    try simp only [Act.put, List.setIfInBounds_toArray, List.set_cons_zero, List.set_cons_succ]
    refine wpAnyH_take (i := 8) (oi := { dst := some 110, op := Op.move (Operand.tmp 0), type := 67, pos := "base.go:402", after := #[], guard := none }) (v := .pointer (some ⟨b, 0, none⟩)) rfl (by kernel_rfl) (by kernel_rfl) (by kernel_rfl) (fun _ _ _ h => h) (Or.inl ⟨by kernel_rfl, fun W h => (by first | kernel_rfl | go_simp)⟩) hS ?_
    try simp only [Act.put, List.setIfInBounds_toArray, List.set_cons_zero, List.set_cons_succ]
    refine wpAnyH_take (i := 9) (oi := { dst := some 111, op := Op.nilCheck (Operand.tmp 110), type := 0, pos := "base.go:402", after := #[{ on := 8, ground := Ground.data }], guard := none }) (v := .pointer (some ⟨b, 0, none⟩)) rfl (by kernel_rfl) (by kernel_rfl) (by kernel_rfl) (fun _ _ _ h => h) (Or.inl ⟨by kernel_rfl, fun W h => (by first | kernel_rfl | go_simp)⟩) hS ?_
    try simp only [Act.put, List.setIfInBounds_toArray, List.set_cons_zero, List.set_cons_succ]
    refine wpAnyH_take (i := 10) (oi := { dst := some 112, op := Op.fieldAddr 71 (Operand.tmp 111) 0, type := 0, pos := "base.go:402", after := #[{ on := 9, ground := Ground.data }], guard := none }) (v := .pointer (some ⟨b, 0, none⟩)) rfl (by kernel_rfl) (by kernel_rfl) (by kernel_rfl) (fun _ _ _ h => h) (Or.inl ⟨by kernel_rfl, fun W h => (by first | kernel_rfl | go_simp)⟩) hS ?_
    try simp only [Act.put, List.setIfInBounds_toArray, List.set_cons_zero, List.set_cons_succ]
    refine wpAnyH_take (i := 11) (oi := { dst := some 113, op := Op.load 68 (Operand.tmp 112), type := 68, pos := "base.go:402", after := #[{ on := 10, ground := Ground.data }], guard := none }) (v := .slice a' (l.length + 1) c') rfl (by kernel_rfl) (by kernel_rfl) (by kernel_rfl) (fun _ _ _ h => h) (Or.inl ⟨by kernel_rfl, fun W h => run_ld_slT (.tmp 112) (by kernel_rfl) (by kernel_rfl) W h.1⟩) hS ?_
    try simp only [Act.put, List.setIfInBounds_toArray, List.set_cons_zero, List.set_cons_succ]
    refine wpAnyH_take (i := 12) (oi := { dst := some 114, op := Op.move (Operand.tmp 6), type := 3, pos := "base.go:402", after := #[], guard := none }) (v := .int .i64 ((i : Nat) : Int)) rfl (by kernel_rfl) (by kernel_rfl) (by kernel_rfl) (fun _ _ _ h => h) (Or.inl ⟨by kernel_rfl, fun W h => (by first | kernel_rfl | go_simp)⟩) hS ?_
    try simp only [Act.put, List.setIfInBounds_toArray, List.set_cons_zero, List.set_cons_succ]
    refine wpAnyH_take (i := 13) (oi := { dst := some 115, op := Op.binOp BinOp.add 3 (Operand.tmp 114) (Operand.const (Value.int IntKind.i64 1)) 3, type := 3, pos := "base.go:402", after := #[{ on := 12, ground := Ground.data }], guard := none }) (v := .int .i64 ((i + 1 : Nat) : Int)) rfl (by kernel_rfl) (by kernel_rfl) (by kernel_rfl) (fun _ _ _ h => h) (Or.inl ⟨by kernel_rfl, fun W h => run_add_one (.tmp 114) (by kernel_rfl) (by kernel_rfl) (by kernel_rfl) (by omega) W⟩) hS ?_
    try simp only [Act.put, List.setIfInBounds_toArray, List.set_cons_zero, List.set_cons_succ]
    refine wpAnyH_take (i := 14) (oi := { dst := some 116, op := Op.slice 68 (Operand.tmp 113) (some (Operand.tmp 115)) none none, type := 68, pos := "base.go:402", after := #[{ on := 11, ground := Ground.data }, { on := 13, ground := Ground.data }], guard := none }) (v := xh) rfl (by kernel_rfl) (by kernel_rfl) (by kernel_rfl) (fun _ _ _ h => h) (Or.inl ⟨by kernel_rfl, fun W h => (by rw [unhide HXH]; exact run_exec_cut_hi (m := (l.length + 1)) (.tmp 113) (.tmp 115) 68 (by kernel_rfl) (by kernel_rfl) (by kernel_rfl) (by omega) Tryz.underlying68 (by kernel_rfl) W)⟩) hS ?_
    try simp only [Act.put, List.setIfInBounds_toArray, List.set_cons_zero, List.set_cons_succ]
    generalize World.drew _ = W0 at hS HW0 HX0 BB ⊢
    have hlen : (l ++ [(⟨toDir, tu, nf⟩ : Tg)]).length = (l.length + 1) := by simp
    refine wpAnyH_ready (rs := [7]) (by kernel_rfl) (by simp) ?_
    refine AllReadyH.cons (o := { dst := some 109, op := Op.call { callee := Callee.builtin Builtin.append, args := #[Operand.tmp 102, Operand.tmp 108], argTypes := #[68, 68] }, type := 68, pos := "base.go:402", after := #[{ on := 0, ground := Ground.data }, { on := 6, ground := Ground.data }], guard := none }) rfl (fun K hK => ?_) AllReadyH.nil
    rw [if_pos (by kernel_rfl)]
    refine wp_append_part (base := 0) (m := i) (news := (cellsT (l ++ [(⟨toDir, tu, nf⟩ : Tg)])).take (i * 3)) (.tmp 102) (.tmp 108) (by kernel_rfl) Tryz.underlying68 hi0 hz0 hz1 hz2 hz3 (by omega) (by kernel_rfl) (World.ownsRow_nil _ _ _ _) (xv := xl) (by kernel_rfl) (by rw [unhide HXL]; exact part_lo (row_len hlen (unhide HW0).rowT) (by omega)) (fun u hu => cellsT_one _ u (List.mem_of_mem_take hu)) (by unfold maxLen; omega) (by omega) (by simp) ?_
    intro v1 W1 ho1 hg1 ha1
    have hS1 := hS.keep (hg1.block b (unhide HW0).blt (by intro e; cases e)) (hg1.block w.heap.size (unhide HX0) (by intro e; cases e))
    refine hK.out _ _ hS1 (fun _ => ?_)
    clear hK K
    try simp only [Act.put, List.setIfInBounds_toArray, List.set_cons_zero, List.set_cons_succ]
    refine wpAnyH_ready (rs := [15]) (by kernel_rfl) (by simp) ?_
    refine AllReadyH.cons (o := { dst := some 117, op := Op.call { callee := Callee.builtin Builtin.append, args := #[Operand.tmp 109, Operand.tmp 116], argTypes := #[68, 68] }, type := 68, pos := "base.go:402", after := #[{ on := 7, ground := Ground.data }, { on := 14, ground := Ground.data }, { on := 7, ground := Ground.chain }], guard := none }) rfl (fun K hK => ?_) AllReadyH.nil
    rw [if_pos (by kernel_rfl)]
    refine wp_append_part (base := 0) (m := (l.length + 1) - (i + 1)) (news := (cellsT (l ++ [(⟨toDir, tu, nf⟩ : Tg)])).drop ((i + 1) * 3)) (.tmp 109) (.tmp 116) (by kernel_rfl) Tryz.underlying68 hi0 hz0 hz1 hz2 hz3 (by omega) (by kernel_rfl) ho1 (xv := xh) (by kernel_rfl) (by rw [unhide HXH]; exact part_hi (row_none (row_len hlen (unhide HW0).rowT) hg1) (by omega)) (fun u hu => cellsT_one _ u (List.mem_of_mem_drop hu)) (by unfold maxLen; omega) (by omega) (by simp) ?_
    intro v2 W2 ho2 hg2 ha2
    have RW := hide (unlink_raw (l := l ++ [(⟨toDir, tu, nf⟩ : Tg)]) (i := i) (unhide HW0) (by omega) hg1 hg2 ha1 ha2 (by rw [hlen]; exact ho2))
    have hS2 := hS.keep ((unhide RW).2 b (unhide HW0).blt) ((unhide RW).2 w.heap.size (unhide HX0))
    refine hK.out _ _ hS2 (fun _ => ?_)
    clear hK K ho1 hg1 ha1 hS1
    try simp only [Act.put, List.setIfInBounds_toArray, List.set_cons_zero, List.set_cons_succ]
    generalize 0 + i + ((l.length + 1) - (i + 1)) = n2 at ho2
    obtain ⟨a2, c2, rfl, _⟩ := own_form ho2
    clear ho2 hg2 ha2
    refine wpAnyH_take (i := 16) (oi := { dst := some 8, op := Op.assign (Operand.tmp 117), type := 68, pos := "base.go:402", after := #[{ on := 15, ground := Ground.data }, { on := 15, ground := Ground.chain }, { on := 0, ground := Ground.phase }, { on := 1, ground := Ground.phase }, { on := 2, ground := Ground.phase }, { on := 3, ground := Ground.phase }, { on := 4, ground := Ground.phase }, { on := 5, ground := Ground.phase }, { on := 6, ground := Ground.phase }, { on := 7, ground := Ground.phase }, { on := 8, ground := Ground.phase }, { on := 9, ground := Ground.phase }, { on := 10, ground := Ground.phase }, { on := 11, ground := Ground.phase }, { on := 12, ground := Ground.phase }, { on := 13, ground := Ground.phase }, { on := 14, ground := Ground.phase }, { on := 15, ground := Ground.phase }], guard := none }) (v := .slice a2 n2 c2) rfl (by kernel_rfl) (by kernel_rfl) (by kernel_rfl) (fun _ _ _ h => h) (Or.inl ⟨by kernel_rfl, fun W h => (by kernel_rfl)⟩) hS2 ?_
    try simp only [Act.put, List.setIfInBounds_toArray, List.set_cons_zero, List.set_cons_succ]
    refine wpAnyH_done (by kernel_rfl) ?_ _
    have fv2 := hS2.1
    have fz2 : W2.frozen? ⟨b, 0, none⟩ = false := frozen_of_row W2 b 0 _ 71 (((unhide RW).2 b (unhide HW0).blt).trans (unhide HW0).root)
    have kx2 := hS2.2.2 0 _ rfl
    have hbx : b ≠ w.heap.size := unhide HBX
    have HDONE := hide ((((rawCall (unhide RAW) (unhide BB)).trans (unhide RW).1).cast (S1 := (S.add toDir.toNat tu nf).drop dir.toNat name) rfl).held (m := l.length + 1) (S1 := (S.add toDir.toNat tu nf).drop dir.toNat name) (unhide HB0) (unhide HI) (unhide HTG) (by rw [List.length_append, List.length_take, List.length_drop]; simp; omega))
    clear hS hS2 hTS
    go_wp2_with fail
    go_ret
    exact ⟨rfl, unhide HDONE⟩
end
end Idl
end Go.Proofs.YtmlhalhjfcfagabGreat
namespace Go.Proofs.YtmlhalhjfcfagabGreat
open Go.RowKit
namespace Idl
theorem IHeld.mono {b m m' : Nat} {vt vf : Value} {w w' : World} {S' : St} (h : IHeld b vt vf w w' S' m) (hm : m ≤ m') : IHeld b vt vf w w' S' m' := by
  obtain ⟨l', vt', vf', r, c, e, hl⟩ := h
  exact ⟨l', vt', vf', r, c, e, Nat.le_trans hl hm⟩
theorem rDo_any {w : World} {b : Nat} {S : St} {l : List Tg} {vt vf : Value} (h : IRep w b S l vt vf) (h1 : l.length ≤ 1000000) (h2 : S.next ≤ 1000000) (x : Stp) (hn : x.name.size ≤ maxLen) (ht : x.to.size ≤ maxLen) (hx : x.text.size ≤ maxLen) :
    Calls Tryz.prog 31 #[.pointer (some ⟨b, 0, none⟩), .agg (stpA x)] w fun e w' => e = .returned (.int .i64 (code S x)) ∧ IHeld b vt vf w w' (step S x) (l.length + 1) := by
  by_cases hc : code S x = 0
  · rw [hc]
    have k := step_cases hc
    obtain ⟨kind, dir, toDir, p, name, tu, text⟩ := x
    rcases k with ⟨k, _⟩ | ⟨k, _⟩ | ⟨k, _⟩ | ⟨k, _⟩ | ⟨k, _⟩ | ⟨k, _⟩
    · have k : kind = 1 := k
      subst k
      exact rDo_make h h1 h2 dir toDir p name tu text hn ht hx hc
    · have k : kind = 2 := k
      subst k
      exact rDo_link h h1 h2 dir toDir p name tu text hn ht hx hc
    · have k : kind = 3 := k
      subst k
      exact (rDo_unlink h h1 h2 dir toDir p name tu text hn ht hx hc).mono fun e w' z => ⟨z.1, z.2.mono (Nat.le_succ _)⟩
    · have k : kind = 4 := k
      subst k
      exact rDo_rename h h1 h2 dir toDir p name tu text hn ht hx hc
    · have k : kind = 5 := k
      subst k
      exact (rDo_put h h1 h2 dir toDir p name tu text hn ht hx hc).mono fun e w' z => ⟨z.1, z.2.mono (Nat.le_succ _)⟩
    · have k : kind = 6 := k
      subst k
      exact (rDo_cut h h1 h2 dir toDir p name tu text hn ht hx hc).mono fun e w' z => ⟨z.1, z.2.mono (Nat.le_succ _)⟩
  · refine (rDo_code h h1 h2 x hn ht hx hc).mono ?_
    rintro e w' ⟨rfl, hb⟩
    have e : step S x = S := by simp [step, hc]
    rw [e]
    exact ⟨rfl, l, vt, vf, h.below hb, Chg.of_below hb, fun k hk => .inl hk, Nat.le_succ _⟩
theorem next_step (S : St) (x : Stp) : (step S x).next ≤ S.next + 1 := by
  by_cases hc : code S x = 0
  · rcases step_cases hc with ⟨_, e⟩ | ⟨_, e⟩ | ⟨_, e⟩ | ⟨_, e⟩ | ⟨_, e⟩ | ⟨_, e⟩ <;> rw [e]
    · exact Nat.le_refl _
    all_goals exact Nat.le_succ _
  · have e : step S x = S := by simp [step, hc]
    rw [e]; exact Nat.le_succ _
theorem IRep.new (w : World) : IRep (w.alloc (.cells #[.slice none 0 0, .slice none 0 0] 71)) w.heap.size St.empty [] (.slice none 0 0) (.slice none 0 0) :=
  ⟨Inv.empty, Tags.empty, heap_alloc_new w _, World.ownsRow_nil _ _ _ _, World.ownsRow_nil _ _ _ _, fun h => (by cases h), fun h => (by cases h), fun k h => (by cases h)⟩
end Idl
end Go.Proofs.YtmlhalhjfcfagabGreat
