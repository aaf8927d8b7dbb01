/-
  The walk of (*eiderdownref.Ideal).Do: steps that put and cut. (Written by genjl.py.)
-/
import Derived.Test.YtmhbphmdfnlmkaaJk
import Derived.Test.YtmhbphmdfnlmkaaJi
namespace Go.Proofs.Ytmhbphmdfnlmkaa
open Go.RowKit
namespace Idl
theorem run_ld_sl {o : Oper} {ρ : Operand → Value} (x : Operand) (ho : o.op = .load 56 x) {g o0 : Nat} (hx : ρ x = .pointer (some ⟨g, o0, none⟩)) {a : Option Addr} {n c : Nat} (w : World) (h : w.cell? ⟨g, o0, none⟩ = some (.slice a n c)) : (execOp ρ o).run Try.prog w = .ok (.value (.slice a n c)) w := by
  unfold execOp
  rw [ho]
  go_simp
theorem run_ld_int {o : Oper} {ρ : Operand → Value} (x : Operand) (ho : o.op = .load 3 x) {g o0 : Nat} (hx : ρ x = .pointer (some ⟨g, o0, none⟩)) {v : Int} (w : World) (h : w.cell? ⟨g, o0, none⟩ = some (.int .i64 v)) : (execOp ρ o).run Try.prog w = .ok (.value (.int .i64 v)) w := by
  unfold execOp
  rw [ho]
  go_simp
theorem run_ld_str {o : Oper} {ρ : Operand → Value} (x : Operand) (ho : o.op = .load 9 x) {g o0 : Nat} (hx : ρ x = .pointer (some ⟨g, o0, none⟩)) {v : ByteArray} (w : World) (h : w.cell? ⟨g, o0, none⟩ = some (.string v)) : (execOp ρ o).run Try.prog w = .ok (.value (.string v)) w := by
  unfold execOp
  rw [ho]
  go_simp
theorem run_idx_file {o : Oper} {ρ : Operand → Value} (x y : Operand) (ho : o.op = .indexAddr 56 x y) {g n c j : Nat} (hx : ρ x = .slice (some ⟨g, 0, none⟩) n c) (hy : ρ y = .int .i64 ((j : Nat) : Int)) (hj : j < n) (w : World) : (execOp ρ o).run Try.prog w = .ok (.value (.pointer (some ⟨g, j * 4, none⟩))) w := by
  have jz : (j : Int) < (n : Int) := by omega
  unfold execOp
  rw [ho]
  go_simp
theorem wp_st_bool {o : Oper} {a : Act} {K : Act → World → Prop} {Q : Exit → Act → World → Prop} {W : World} (x y : Operand) (ho : o.op = .store 4 x y) (hd : o.dst = none) {g o0 : Nat} {v : Bool} (hx : a.eval x = .pointer (some ⟨g, o0, none⟩)) (hy : a.eval y = .bool v) {u : Value} (hc : W.cell? ⟨g, o0, none⟩ = some u) (hf : W.frozen? ⟨g, o0, none⟩ = false)
    (h : K a (W.setCell ⟨g, o0, none⟩ (.bool v))) : o.wp Try.prog a W K Q := by
  unfold Oper.wp execOp
  simp only [ho, hx, hy]
  go_simp
  exact h
theorem wp_st_str {o : Oper} {a : Act} {K : Act → World → Prop} {Q : Exit → Act → World → Prop} {W : World} (x y : Operand) (ho : o.op = .store 9 x y) (hd : o.dst = none) {g o0 : Nat} {v : ByteArray} (hx : a.eval x = .pointer (some ⟨g, o0, none⟩)) (hy : a.eval y = .string v) {u : Value} (hc : W.cell? ⟨g, o0, none⟩ = some u) (hf : W.frozen? ⟨g, o0, none⟩ = false)
    (h : K a (W.setCell ⟨g, o0, none⟩ (.string v))) : o.wp Try.prog a W K Q := by
  unfold Oper.wp execOp
  simp only [ho, hx, hy]
  go_simp
  exact h
/-- what the region reads -/
def PS (b xb nf gf fc : Nat) (p : Int) (text : ByteArray) (W : World) : Prop := W.cell? ⟨b, 1, none⟩ = some (.slice (some ⟨gf, 0, none⟩) nf fc) ∧ W.cell? ⟨xb, 3, none⟩ = some (.int .i64 p) ∧ W.cell? ⟨xb, 6, none⟩ = some (.string text)
theorem PS.far {b xb nf gf fc : Nat} {p : Int} {text : ByteArray} {W : World} (h : PS b xb nf gf fc p text W) (hb : b ≠ gf) (hx : xb ≠ gf) {o0 : Nat} {v : Value} : PS b xb nf gf fc p text (W.setCell ⟨gf, o0, none⟩ v) :=
  ⟨by rw [World.cell?_setCell_far _ _ _ _ (Ne.symm hb)]; exact h.1, by rw [World.cell?_setCell_far _ _ _ _ (Ne.symm hx)]; exact h.2.1, by rw [World.cell?_setCell_far _ _ _ _ (Ne.symm hx)]; exact h.2.2⟩
section
variable {w : World} {b : Nat} {S : St} {l : List Tg} {vt vf : Value}
theorem IHeld.of {W w' : World} {S' : St} {m : Nat} (hb : Below w.heap.size w W) (H : IHeld b vt vf W w' S' m) : IHeld b vt vf w w' S' m := by
  obtain ⟨l', vt', vf', r, c, e, hl⟩ := H
  have hs := hb.size
  refine ⟨l', vt', vf', r, (Chg.of_below hb).trans c (fun i hi => .inl hi), fun k hk => ?_, hl⟩
  rcases e k hk with h1 | h1
  · exact .inl h1
  · exact .inr (by omega)
set_option maxHeartbeats 4000000 in
set_option maxRecDepth 100000 in
theorem rDo_put (h : IRep w b S l vt vf) (h1 : l.length ≤ 1000000) (h2 : S.next ≤ 1000000) (dir toDir p : Int) (name to text : ByteArray) (hn : name.size ≤ maxLen) (ht : to.size ≤ maxLen) (hx : text.size ≤ maxLen) (hc : code S ⟨5, dir, toDir, p, name, to, text⟩ = 0) :
    Calls Try.prog 28 #[.pointer (some ⟨b, 0, none⟩), .agg (stpA ⟨5, dir, toDir, p, name, to, text⟩)] w fun e w' => e = .returned (.int .i64 0) ∧ IHeld b vt vf w w' (step S ⟨5, dir, toDir, p, name, to, text⟩) l.length := by
  have bel0 : Below w.heap.size w (w.alloc (.cells (stpA ⟨5, dir, toDir, p, name, to, text⟩) 49)) := (Below.refl _ w).alloc (Nat.le_refl _) _
  have C1 := hide (stepFault_any ⟨5, dir, toDir, p, name, to, text⟩ hn ht hx (w.alloc (.cells (stpA ⟨5, dir, toDir, p, name, to, text⟩) 49)))
  have BEL := hide bel0
  have HC := hide fun W bW => stp_kept w ⟨5, dir, toDir, p, name, to, text⟩ W bW
  have HR := hide h
  have hk : chk ⟨5, dir, toDir, p, name, to, text⟩ = 0 := by
    cases e : decide (chk ⟨5, dir, toDir, p, name, to, text⟩ = 0)
    · rw [code_chk (by simpa using e)] at hc; exact hc
    · simpa using e
  rw [hk] at C1
  have g0 := goes hc
  have hpp := g0.part (by simp)
  have hp0 : 0 ≤ p := hpp.1
  have hp2 : p < 2 := hpp.2
  have hlook := g0.old (by simp)
  have hlk : lookS S dir name = some (the S ⟨5, dir, toDir, p, name, to, text⟩) := by rw [lookS_in g0.din]; exact hlook
  have hnlt : the S ⟨5, dir, toDir, p, name, to, text⟩ < S.next := old_lt h.inv hlook
  have hst : step S ⟨5, dir, toDir, p, name, to, text⟩ = S.put (the S ⟨5, dir, toDir, p, name, to, text⟩) p.toNat true text := by
    rcases step_cases hc with ⟨k, _⟩ | ⟨k, _⟩ | ⟨k, _⟩ | ⟨k, _⟩ | ⟨k, e⟩ | ⟨k, e⟩
    all_goals first | exact e | (exfalso; revert k; decide) | (simp at k)
  have HI := hide (inv_step h.inv ⟨5, dir, toDir, p, name, to, text⟩)
  rw [hst] at HI ⊢
  rcases atI_lookS h.tags dir name with ⟨_, a2⟩ | ⟨i, hi, _, a1, a2⟩
  · rw [hlk] at a2; cases a2
  · obtain ⟨n, hnn⟩ : ∃ n, n = the S ⟨5, dir, toDir, p, name, to, text⟩ := ⟨_, rfl⟩
    rw [← hnn] at hnlt HI hlk ⊢
    have hfile : l[i].file = n := by rw [hlk] at a2; cases a2; rfl
    have HA := hide a1
    obtain ⟨pp, rfl⟩ := Int.eq_ofNat_of_zero_le hp0
    have hpn : pp < 2 := by omega
    rw [Int.toNat_natCast] at HI ⊢
    have hp01 : pp = 0 ∨ pp = 1 := by omega
    clear hc hk g0 hpp hp0 hp2 hlook hst a1 a2 hnn hlk bel0 hpn
    rcases hp01 with rfl | rfl
    · skip
      go_enter Try.func28, Try.ntmps28
      go_wp2_with fail
      refine (unhide C1).mono ?_
      rintro e w1 ⟨rfl, bel⟩
      have B1 : Below w.heap.size w w1 := (unhide BEL).trans (bel.mono (by simp))
      have c1 : w1.cell? ⟨w.heap.size, 1, none⟩ = some (.int .i64 dir) := unhide HC w1 bel 1 _ rfl
      have c4 : w1.cell? ⟨w.heap.size, 4, none⟩ = some (.string name) := unhide HC w1 bel 4 _ rfl
      obtain ⟨ta, fa, tc, fc, e1, e2, R1⟩ := ((unhide HR).below B1).rd h1 h2
      have C2 := hide (rAt_any dir name w1 R1)
      rw [unhide HA] at C2
      have BL := hide bel
      clear R1 bel HA e1 e2
      go_wp2_with fail
      refine (unhide C2).mono ?_
      rintro e w2 ⟨rfl, q, rfl⟩
      have B2 : Below w.heap.size w (w1.drewN q) := belowN B1
      have b2 : Below (w.alloc (.cells (stpA ⟨5, dir, toDir, ((0 : Nat) : Int), name, to, text⟩) 49)).heap.size (w.alloc (.cells (stpA ⟨5, dir, toDir, ((0 : Nat) : Int), name, to, text⟩) 49)) (w1.drewN q) := belowN (unhide BL)
      clear B1 BL c1 c4 C2
      generalize w1.drewN q = W at B2 b2 ⊢
      have HW := hide ((unhide HR).below B2)
      have c0 : W.cell? ⟨w.heap.size, 0, none⟩ = some (.int .i64 5) := unhide HC W b2 0 _ rfl
      have c3 : W.cell? ⟨w.heap.size, 3, none⟩ = some (.int .i64 0) := unhide HC W b2 3 _ rfl
      have c6 : W.cell? ⟨w.heap.size, 6, none⟩ = some (.string text) := unhide HC W b2 6 _ rfl
      obtain ⟨g2, cp2, ev, hgl, hgc⟩ := row_cell (unhide HW).rowF (by omega)
      subst ev
      obtain ⟨ta, fa, tc, fc, et, ef, R2⟩ := (unhide HW).rd h1 h2
      simp only [Value.slice.injEq] at ef
      obtain ⟨rfl, _, ecp⟩ := ef
      subst ecp
      have tv := R2.tv
      have fv := R2.fv
      have blt := R2.lt
      obtain ⟨gt, ot, rfl, hgt, _, _, t2⟩ := R2.tags i hi
      rw [hfile] at t2
      obtain ⟨gf, og, ef, hgf, f1', f2'⟩ := R2.files n hnlt
      simp only [Option.some.injEq, Addr.mk.injEq, and_true] at ef
      obtain ⟨rfl, rfl⟩ := ef
      rw [Nat.zero_add] at f1' f2'
      have f1 := f1' 0 (by omega)
      have f2 := f2' 0 (by omega)
      have z1 : W.frozen? ⟨g2, n * 4 + 0, none⟩ = false := (unhide HW).rowF.frozenAt _
      have z2 : (W.setCell ⟨g2, n * 4 + 0, none⟩ (.bool true)).frozen? ⟨g2, n * 4 + 2 + 0, none⟩ = false := ((unhide HW).rowF.stored _ _).1.frozenAt _
      have f2 : (W.setCell ⟨g2, n * 4 + 0, none⟩ (.bool true)).cell? ⟨g2, n * 4 + 2 + 0, none⟩ = some (.string (S.txt n 0)) := by
        rw [World.cell?_setCell_other _ _ _ _ (by simp only [ne_eq, Addr.mk.injEq, not_and]; omega)]; exact f2
      have hbg : b ≠ g2 := fun e => (unhide HW).offF (by rw [e]; rfl)
      have hxg : w.heap.size ≠ g2 := fun e => by
        have := (unhide HR).lt (k := g2) (.inr (.inr rfl))
        omega
      have FIN := hide (((unhide HW).below (Below.refl _ _).drew).put hnlt (show 0 < 2 by omega) true text (unhide HI))
      have iz : (i : Int) < (l.length : Int) := by omega
      have u1 : decide ((i : Int) < 0) = false := by simp
      have BB := hide B2
      have hPS : PS b w.heap.size S.next g2 cp2 (0 : Int) text W.drew := ⟨fv, c3, c6⟩
      obtain ⟨ln, hln⟩ : ∃ ln, ln = l.length := ⟨_, rfl⟩
      obtain ⟨xb, hxb⟩ : ∃ xb, xb = w.heap.size := ⟨_, rfl⟩
      have HX := hide hxb
      clear f1' f2' R2 et hgc B2 b2 HI
      go_wp2_with fail
      try (go_quiet (fail); go_wp2_with fail)
      refine wp_region_held_drew (S := PS b w.heap.size S.next g2 cp2 (0 : Int) text) (by kernel_rfl) hPS (fun hS => ?_)
      refine wpAnyH_take (i := 0) (oi := { dst := some 125, op := Op.move (Operand.tmp 0), type := 54, pos := "base.go:406", after := #[], guard := none }) (v := .pointer (some ⟨b, 0, none⟩)) rfl (by kernel_rfl) (by kernel_rfl) (by kernel_rfl) (fun _ _ _ h => h) (Or.inl ⟨by kernel_rfl, fun W h => (by first | kernel_rfl | go_simp)⟩) hS ?_
      simp only [Act.put, List.setIfInBounds_toArray, List.set_cons_zero, List.set_cons_succ]
      refine wpAnyH_take (i := 1) (oi := { dst := some 126, op := Op.nilCheck (Operand.tmp 125), type := 0, pos := "base.go:406", after := #[{ on := 0, ground := Ground.data }], guard := none }) (v := .pointer (some ⟨b, 0, none⟩)) rfl (by kernel_rfl) (by kernel_rfl) (by kernel_rfl) (fun _ _ _ h => h) (Or.inl ⟨by kernel_rfl, fun W h => (by first | kernel_rfl | go_simp)⟩) hS ?_
      simp only [Act.put, List.setIfInBounds_toArray, List.set_cons_zero, List.set_cons_succ]
      refine wpAnyH_take (i := 2) (oi := { dst := some 127, op := Op.fieldAddr 58 (Operand.tmp 126) 1, type := 0, pos := "base.go:406", after := #[{ on := 1, ground := Ground.data }], guard := none }) (v := .pointer (some ⟨b, 1, none⟩)) rfl (by kernel_rfl) (by kernel_rfl) (by kernel_rfl) (fun _ _ _ h => h) (Or.inl ⟨by kernel_rfl, fun W h => (by first | kernel_rfl | go_simp)⟩) hS ?_
      simp only [Act.put, List.setIfInBounds_toArray, List.set_cons_zero, List.set_cons_succ]
      refine wpAnyH_take (i := 3) (oi := { dst := some 128, op := Op.load 56 (Operand.tmp 127), type := 56, pos := "base.go:406", after := #[{ on := 2, ground := Ground.data }], guard := none }) (v := .slice (some ⟨g2, 0, none⟩) S.next cp2) rfl (by kernel_rfl) (by kernel_rfl) (by kernel_rfl) (fun _ _ _ h => h) (Or.inl ⟨by kernel_rfl, fun W h => run_ld_sl (.tmp 127) (by kernel_rfl) (by kernel_rfl) W h.1⟩) hS ?_
      simp only [Act.put, List.setIfInBounds_toArray, List.set_cons_zero, List.set_cons_succ]
      refine wpAnyH_take (i := 4) (oi := { dst := some 129, op := Op.move (Operand.tmp 7), type := 3, pos := "base.go:406", after := #[], guard := none }) (v := .int .i64 (n : Nat)) rfl (by kernel_rfl) (by kernel_rfl) (by kernel_rfl) (fun _ _ _ h => h) (Or.inl ⟨by kernel_rfl, fun W h => (by first | kernel_rfl | go_simp)⟩) hS ?_
      simp only [Act.put, List.setIfInBounds_toArray, List.set_cons_zero, List.set_cons_succ]
      refine wpAnyH_take (i := 5) (oi := { dst := some 130, op := Op.fieldAddr 49 (Operand.tmp 3) 3, type := 0, pos := "base.go:406", after := #[], guard := none }) (v := .pointer (some ⟨w.heap.size, 3, none⟩)) rfl (by kernel_rfl) (by kernel_rfl) (by kernel_rfl) (fun _ _ _ h => h) (Or.inl ⟨by kernel_rfl, fun W h => (by first | kernel_rfl | go_simp)⟩) hS ?_
      simp only [Act.put, List.setIfInBounds_toArray, List.set_cons_zero, List.set_cons_succ]
      refine wpAnyH_take (i := 6) (oi := { dst := some 131, op := Op.load 3 (Operand.tmp 130), type := 3, pos := "base.go:406", after := #[{ on := 5, ground := Ground.data }], guard := none }) (v := .int .i64 0) rfl (by kernel_rfl) (by kernel_rfl) (by kernel_rfl) (fun _ _ _ h => h) (Or.inl ⟨by kernel_rfl, fun W h => run_ld_int (.tmp 130) (by kernel_rfl) (by kernel_rfl) W h.2.1⟩) hS ?_
      simp only [Act.put, List.setIfInBounds_toArray, List.set_cons_zero, List.set_cons_succ]
      refine wpAnyH_take (i := 7) (oi := { dst := some 132, op := Op.move (Operand.tmp 0), type := 54, pos := "base.go:406", after := #[], guard := none }) (v := .pointer (some ⟨b, 0, none⟩)) rfl (by kernel_rfl) (by kernel_rfl) (by kernel_rfl) (fun _ _ _ h => h) (Or.inl ⟨by kernel_rfl, fun W h => (by first | kernel_rfl | go_simp)⟩) hS ?_
      simp only [Act.put, List.setIfInBounds_toArray, List.set_cons_zero, List.set_cons_succ]
      refine wpAnyH_take (i := 8) (oi := { dst := some 133, op := Op.nilCheck (Operand.tmp 132), type := 0, pos := "base.go:406", after := #[{ on := 7, ground := Ground.data }], guard := none }) (v := .pointer (some ⟨b, 0, none⟩)) rfl (by kernel_rfl) (by kernel_rfl) (by kernel_rfl) (fun _ _ _ h => h) (Or.inl ⟨by kernel_rfl, fun W h => (by first | kernel_rfl | go_simp)⟩) hS ?_
      simp only [Act.put, List.setIfInBounds_toArray, List.set_cons_zero, List.set_cons_succ]
      refine wpAnyH_take (i := 9) (oi := { dst := some 134, op := Op.fieldAddr 58 (Operand.tmp 133) 1, type := 0, pos := "base.go:406", after := #[{ on := 8, ground := Ground.data }], guard := none }) (v := .pointer (some ⟨b, 1, none⟩)) rfl (by kernel_rfl) (by kernel_rfl) (by kernel_rfl) (fun _ _ _ h => h) (Or.inl ⟨by kernel_rfl, fun W h => (by first | kernel_rfl | go_simp)⟩) hS ?_
      simp only [Act.put, List.setIfInBounds_toArray, List.set_cons_zero, List.set_cons_succ]
      refine wpAnyH_take (i := 10) (oi := { dst := some 135, op := Op.load 56 (Operand.tmp 134), type := 56, pos := "base.go:406", after := #[{ on := 9, ground := Ground.data }], guard := none }) (v := .slice (some ⟨g2, 0, none⟩) S.next cp2) rfl (by kernel_rfl) (by kernel_rfl) (by kernel_rfl) (fun _ _ _ h => h) (Or.inl ⟨by kernel_rfl, fun W h => run_ld_sl (.tmp 134) (by kernel_rfl) (by kernel_rfl) W h.1⟩) hS ?_
      simp only [Act.put, List.setIfInBounds_toArray, List.set_cons_zero, List.set_cons_succ]
      refine wpAnyH_take (i := 11) (oi := { dst := some 136, op := Op.move (Operand.tmp 7), type := 3, pos := "base.go:406", after := #[{ on := 19, ground := Ground.gcOnly Departure.lateStores }], guard := none }) (v := .int .i64 (n : Nat)) rfl (by kernel_rfl) (by kernel_rfl) (by kernel_rfl) (fun _ _ _ h => h) (Or.inl ⟨by kernel_rfl, fun W h => (by first | kernel_rfl | go_simp)⟩) hS ?_
      simp only [Act.put, List.setIfInBounds_toArray, List.set_cons_zero, List.set_cons_succ]
      refine wpAnyH_take (i := 12) (oi := { dst := some 137, op := Op.fieldAddr 49 (Operand.tmp 3) 3, type := 0, pos := "base.go:406", after := #[{ on := 19, ground := Ground.gcOnly Departure.lateStores }], guard := none }) (v := .pointer (some ⟨w.heap.size, 3, none⟩)) rfl (by kernel_rfl) (by kernel_rfl) (by kernel_rfl) (fun _ _ _ h => h) (Or.inl ⟨by kernel_rfl, fun W h => (by first | kernel_rfl | go_simp)⟩) hS ?_
      simp only [Act.put, List.setIfInBounds_toArray, List.set_cons_zero, List.set_cons_succ]
      refine wpAnyH_take (i := 13) (oi := { dst := some 138, op := Op.load 3 (Operand.tmp 137), type := 3, pos := "base.go:406", after := #[{ on := 12, ground := Ground.data }, { on := 19, ground := Ground.gcOnly Departure.lateStores }], guard := none }) (v := .int .i64 0) rfl (by kernel_rfl) (by kernel_rfl) (by kernel_rfl) (fun _ _ _ h => h) (Or.inl ⟨by kernel_rfl, fun W h => run_ld_int (.tmp 137) (by kernel_rfl) (by kernel_rfl) W h.2.1⟩) hS ?_
      simp only [Act.put, List.setIfInBounds_toArray, List.set_cons_zero, List.set_cons_succ]
      refine wpAnyH_take (i := 14) (oi := { dst := some 139, op := Op.fieldAddr 49 (Operand.tmp 3) 6, type := 0, pos := "base.go:406", after := #[{ on := 19, ground := Ground.gcOnly Departure.lateStores }], guard := none }) (v := .pointer (some ⟨w.heap.size, 6, none⟩)) rfl (by kernel_rfl) (by kernel_rfl) (by kernel_rfl) (fun _ _ _ h => h) (Or.inl ⟨by kernel_rfl, fun W h => (by first | kernel_rfl | go_simp)⟩) hS ?_
      simp only [Act.put, List.setIfInBounds_toArray, List.set_cons_zero, List.set_cons_succ]
      refine wpAnyH_take (i := 15) (oi := { dst := some 140, op := Op.load 9 (Operand.tmp 139), type := 9, pos := "base.go:406", after := #[{ on := 14, ground := Ground.data }, { on := 19, ground := Ground.gcOnly Departure.lateStores }], guard := none }) (v := .string text) rfl (by kernel_rfl) (by kernel_rfl) (by kernel_rfl) (fun _ _ _ h => h) (Or.inl ⟨by kernel_rfl, fun W h => run_ld_str (.tmp 139) (by kernel_rfl) (by kernel_rfl) W h.2.2⟩) hS ?_
      simp only [Act.put, List.setIfInBounds_toArray, List.set_cons_zero, List.set_cons_succ]
      refine wpAnyH_take (i := 16) (oi := { dst := some 141, op := Op.indexAddr 56 (Operand.tmp 128) (Operand.tmp 129), type := 0, pos := "base.go:406", after := #[{ on := 3, ground := Ground.data }, { on := 4, ground := Ground.data }], guard := none }) (v := .pointer (some ⟨g2, n * 4, none⟩)) rfl (by kernel_rfl) (by kernel_rfl) (by kernel_rfl) (fun _ _ _ h => h) (Or.inl ⟨by kernel_rfl, fun W h => run_idx_file (c := cp2) (.tmp 128) (.tmp 129) (by kernel_rfl) (by kernel_rfl) (by kernel_rfl) hnlt W⟩) hS ?_
      simp only [Act.put, List.setIfInBounds_toArray, List.set_cons_zero, List.set_cons_succ]
      refine wpAnyH_take (i := 17) (oi := { dst := some 142, op := Op.fieldAddr 105 (Operand.tmp 141) 0, type := 0, pos := "base.go:406", after := #[{ on := 16, ground := Ground.data }], guard := none }) (v := .pointer (some ⟨g2, n * 4, none⟩)) rfl (by kernel_rfl) (by kernel_rfl) (by kernel_rfl) (fun _ _ _ h => h) (Or.inl ⟨by kernel_rfl, fun W h => (by first | kernel_rfl | go_simp)⟩) hS ?_
      simp only [Act.put, List.setIfInBounds_toArray, List.set_cons_zero, List.set_cons_succ]
      refine wpAnyH_take (i := 18) (oi := { dst := some 143, op := Op.indexAddr 102 (Operand.tmp 142) (Operand.tmp 131), type := 0, pos := "base.go:406", after := #[{ on := 17, ground := Ground.data }, { on := 6, ground := Ground.data }, { on := 0, ground := Ground.phase }, { on := 1, ground := Ground.phase }, { on := 2, ground := Ground.phase }, { on := 3, ground := Ground.phase }, { on := 4, ground := Ground.phase }, { on := 5, ground := Ground.phase }, { on := 6, ground := Ground.phase }, { on := 7, ground := Ground.textOnly Departure.lateStores }, { on := 8, ground := Ground.textOnly Departure.lateStoresUnsure }, { on := 9, ground := Ground.textOnly Departure.lateStoresUnsure }, { on := 10, ground := Ground.phase }, { on := 11, ground := Ground.textOnly Departure.lateStores }, { on := 12, ground := Ground.textOnly Departure.lateStores }, { on := 13, ground := Ground.textOnly Departure.lateStores }, { on := 14, ground := Ground.textOnly Departure.lateStores }, { on := 15, ground := Ground.textOnly Departure.lateStores }], guard := none }) (v := .pointer (some ⟨g2, n * 4 + 0, none⟩)) rfl (by kernel_rfl) (by kernel_rfl) (by kernel_rfl) (fun _ _ _ h => h) (Or.inl ⟨by kernel_rfl, fun W h => (by first | kernel_rfl | go_simp)⟩) hS ?_
      simp only [Act.put, List.setIfInBounds_toArray, List.set_cons_zero, List.set_cons_succ]
      refine wpAnyH_take (i := 20) (oi := { dst := some 144, op := Op.indexAddr 56 (Operand.tmp 135) (Operand.tmp 136), type := 0, pos := "base.go:406", after := #[{ on := 10, ground := Ground.data }, { on := 11, ground := Ground.data }], guard := none }) (v := .pointer (some ⟨g2, n * 4, none⟩)) rfl (by kernel_rfl) (by kernel_rfl) (by kernel_rfl) (fun _ _ _ h => h) (Or.inl ⟨by kernel_rfl, fun W h => run_idx_file (c := cp2) (.tmp 135) (.tmp 136) (by kernel_rfl) (by kernel_rfl) (by kernel_rfl) hnlt W⟩) hS ?_
      simp only [Act.put, List.setIfInBounds_toArray, List.set_cons_zero, List.set_cons_succ]
      refine wpAnyH_take (i := 21) (oi := { dst := some 145, op := Op.fieldAddr 105 (Operand.tmp 144) 1, type := 0, pos := "base.go:406", after := #[{ on := 20, ground := Ground.data }], guard := none }) (v := .pointer (some ⟨g2, n * 4 + 2, none⟩)) rfl (by kernel_rfl) (by kernel_rfl) (by kernel_rfl) (fun _ _ _ h => h) (Or.inl ⟨by kernel_rfl, fun W h => (by first | kernel_rfl | go_simp)⟩) hS ?_
      simp only [Act.put, List.setIfInBounds_toArray, List.set_cons_zero, List.set_cons_succ]
      refine wpAnyH_ready (rs := [19]) (by kernel_rfl) (by simp) ?_
      refine AllReadyH.cons (o := { dst := none, op := Op.store 4 (Operand.tmp 143) (Operand.const (Value.bool true)), type := 0, pos := "base.go:406", after := #[{ on := 18, ground := Ground.data }, { on := 0, ground := Ground.phase }, { on := 1, ground := Ground.phase }, { on := 2, ground := Ground.phase }, { on := 3, ground := Ground.phase }, { on := 4, ground := Ground.phase }, { on := 5, ground := Ground.phase }, { on := 6, ground := Ground.phase }, { on := 7, ground := Ground.textOnly Departure.lateStores }, { on := 8, ground := Ground.textOnly Departure.lateStoresUnsure }, { on := 9, ground := Ground.textOnly Departure.lateStoresUnsure }, { on := 10, ground := Ground.phase }, { on := 11, ground := Ground.textOnly Departure.lateStores }, { on := 12, ground := Ground.textOnly Departure.lateStores }, { on := 13, ground := Ground.textOnly Departure.lateStores }, { on := 14, ground := Ground.textOnly Departure.lateStores }, { on := 15, ground := Ground.textOnly Departure.lateStores }], guard := none }) rfl (fun K hK => ?_) AllReadyH.nil
      rw [if_pos (by kernel_rfl)]
      refine wp_st_bool (v := true) (.tmp 143) (.const (.bool true)) (by kernel_rfl) rfl (by kernel_rfl) (by kernel_rfl) f1 z1 ?_
      refine hK.out _ _ (hS.far hbg hxg) (fun hS2 => ?_)
      clear hK K
      refine wpAnyH_take (i := 22) (oi := { dst := some 146, op := Op.indexAddr 103 (Operand.tmp 145) (Operand.tmp 138), type := 0, pos := "base.go:406", after := #[{ on := 21, ground := Ground.data }, { on := 13, ground := Ground.data }, { on := 0, ground := Ground.phase }, { on := 1, ground := Ground.phase }, { on := 2, ground := Ground.phase }, { on := 3, ground := Ground.phase }, { on := 4, ground := Ground.phase }, { on := 5, ground := Ground.phase }, { on := 6, ground := Ground.phase }, { on := 7, ground := Ground.phase }, { on := 8, ground := Ground.phase }, { on := 9, ground := Ground.phase }, { on := 10, ground := Ground.phase }, { on := 11, ground := Ground.phase }, { on := 12, ground := Ground.phase }, { on := 13, ground := Ground.phase }, { on := 14, ground := Ground.phase }, { on := 15, ground := Ground.phase }, { on := 16, ground := Ground.phase }, { on := 17, ground := Ground.phase }, { on := 18, ground := Ground.phase }, { on := 19, ground := Ground.phase }], guard := none }) (v := .pointer (some ⟨g2, n * 4 + 2 + 0, none⟩)) rfl (by kernel_rfl) (by kernel_rfl) (by kernel_rfl) (fun _ _ _ h => h) (Or.inl ⟨by kernel_rfl, fun W h => (by first | kernel_rfl | go_simp)⟩) hS2 ?_
      simp only [Act.put, List.setIfInBounds_toArray, List.set_cons_zero, List.set_cons_succ]
      refine wpAnyH_ready (rs := [23]) (by kernel_rfl) (by simp) ?_
      refine AllReadyH.cons (o := { dst := none, op := Op.store 9 (Operand.tmp 146) (Operand.tmp 140), type := 0, pos := "base.go:406", after := #[{ on := 22, ground := Ground.data }, { on := 15, ground := Ground.data }, { on := 19, ground := Ground.chain }, { on := 0, ground := Ground.phase }, { on := 1, ground := Ground.phase }, { on := 2, ground := Ground.phase }, { on := 3, ground := Ground.phase }, { on := 4, ground := Ground.phase }, { on := 5, ground := Ground.phase }, { on := 6, ground := Ground.phase }, { on := 7, ground := Ground.phase }, { on := 8, ground := Ground.phase }, { on := 9, ground := Ground.phase }, { on := 10, ground := Ground.phase }, { on := 11, ground := Ground.phase }, { on := 12, ground := Ground.phase }, { on := 13, ground := Ground.phase }, { on := 14, ground := Ground.phase }, { on := 15, ground := Ground.phase }, { on := 16, ground := Ground.phase }, { on := 17, ground := Ground.phase }, { on := 18, ground := Ground.phase }, { on := 19, ground := Ground.phase }], guard := none }) rfl (fun K hK => ?_) AllReadyH.nil
      rw [if_pos (by kernel_rfl)]
      refine wp_st_str (v := text) (.tmp 146) (.tmp 140) (by kernel_rfl) rfl (by kernel_rfl) (by kernel_rfl) f2 z2 ?_
      refine hK.out _ _ (hS2.far hbg hxg) (fun hS3 => ?_)
      clear hK K
      refine wpAnyH_done (by kernel_rfl) ?_ _
      have k0 : ((W.drew.setCell ⟨g2, n * 4 + 0, none⟩ (.bool true)).setCell ⟨g2, n * 4 + 2 + 0, none⟩ (.string text)).cell? ⟨w.heap.size, 0, none⟩ = some (.int .i64 5) := by
        rw [World.cell?_setCell_far _ _ _ _ (Ne.symm hxg), World.cell?_setCell_far _ _ _ _ (Ne.symm hxg)]; exact c0
      have DONE := hide (IHeld.of ((unhide BB).drew) (unhide FIN))
      clear hS hS2 hS3 FIN
      generalize ((W.drew.setCell ⟨g2, n * 4 + 0, none⟩ (.bool true)).setCell ⟨g2, n * 4 + 2 + 0, none⟩ (.string text)) = WE at k0 DONE ⊢
      clear f1 f2 z1 z2 hPS tv fv t2 c0 c3 c6
      go_wp2_with fail
      go_ret
      exact ⟨rfl, unhide DONE⟩
    · skip
      go_enter Try.func28, Try.ntmps28
      go_wp2_with fail
      refine (unhide C1).mono ?_
      rintro e w1 ⟨rfl, bel⟩
      have B1 : Below w.heap.size w w1 := (unhide BEL).trans (bel.mono (by simp))
      have c1 : w1.cell? ⟨w.heap.size, 1, none⟩ = some (.int .i64 dir) := unhide HC w1 bel 1 _ rfl
      have c4 : w1.cell? ⟨w.heap.size, 4, none⟩ = some (.string name) := unhide HC w1 bel 4 _ rfl
      obtain ⟨ta, fa, tc, fc, e1, e2, R1⟩ := ((unhide HR).below B1).rd h1 h2
      have C2 := hide (rAt_any dir name w1 R1)
      rw [unhide HA] at C2
      have BL := hide bel
      clear R1 bel HA e1 e2
      go_wp2_with fail
      refine (unhide C2).mono ?_
      rintro e w2 ⟨rfl, q, rfl⟩
      have B2 : Below w.heap.size w (w1.drewN q) := belowN B1
      have b2 : Below (w.alloc (.cells (stpA ⟨5, dir, toDir, ((1 : Nat) : Int), name, to, text⟩) 49)).heap.size (w.alloc (.cells (stpA ⟨5, dir, toDir, ((1 : Nat) : Int), name, to, text⟩) 49)) (w1.drewN q) := belowN (unhide BL)
      clear B1 BL c1 c4 C2
      generalize w1.drewN q = W at B2 b2 ⊢
      have HW := hide ((unhide HR).below B2)
      have c0 : W.cell? ⟨w.heap.size, 0, none⟩ = some (.int .i64 5) := unhide HC W b2 0 _ rfl
      have c3 : W.cell? ⟨w.heap.size, 3, none⟩ = some (.int .i64 1) := unhide HC W b2 3 _ rfl
      have c6 : W.cell? ⟨w.heap.size, 6, none⟩ = some (.string text) := unhide HC W b2 6 _ rfl
      obtain ⟨g2, cp2, ev, hgl, hgc⟩ := row_cell (unhide HW).rowF (by omega)
      subst ev
      obtain ⟨ta, fa, tc, fc, et, ef, R2⟩ := (unhide HW).rd h1 h2
      simp only [Value.slice.injEq] at ef
      obtain ⟨rfl, _, ecp⟩ := ef
      subst ecp
      have tv := R2.tv
      have fv := R2.fv
      have blt := R2.lt
      obtain ⟨gt, ot, rfl, hgt, _, _, t2⟩ := R2.tags i hi
      rw [hfile] at t2
      obtain ⟨gf, og, ef, hgf, f1', f2'⟩ := R2.files n hnlt
      simp only [Option.some.injEq, Addr.mk.injEq, and_true] at ef
      obtain ⟨rfl, rfl⟩ := ef
      rw [Nat.zero_add] at f1' f2'
      have f1 := f1' 1 (by omega)
      have f2 := f2' 1 (by omega)
      have z1 : W.frozen? ⟨g2, n * 4 + 1, none⟩ = false := (unhide HW).rowF.frozenAt _
      have z2 : (W.setCell ⟨g2, n * 4 + 1, none⟩ (.bool true)).frozen? ⟨g2, n * 4 + 2 + 1, none⟩ = false := ((unhide HW).rowF.stored _ _).1.frozenAt _
      have f2 : (W.setCell ⟨g2, n * 4 + 1, none⟩ (.bool true)).cell? ⟨g2, n * 4 + 2 + 1, none⟩ = some (.string (S.txt n 1)) := by
        rw [World.cell?_setCell_other _ _ _ _ (by simp only [ne_eq, Addr.mk.injEq, not_and]; omega)]; exact f2
      have hbg : b ≠ g2 := fun e => (unhide HW).offF (by rw [e]; rfl)
      have hxg : w.heap.size ≠ g2 := fun e => by
        have := (unhide HR).lt (k := g2) (.inr (.inr rfl))
        omega
      have FIN := hide (((unhide HW).below (Below.refl _ _).drew).put hnlt (show 1 < 2 by omega) true text (unhide HI))
      have iz : (i : Int) < (l.length : Int) := by omega
      have u1 : decide ((i : Int) < 0) = false := by simp
      have BB := hide B2
      have hPS : PS b w.heap.size S.next g2 cp2 (1 : Int) text W.drew := ⟨fv, c3, c6⟩
      obtain ⟨ln, hln⟩ : ∃ ln, ln = l.length := ⟨_, rfl⟩
      obtain ⟨xb, hxb⟩ : ∃ xb, xb = w.heap.size := ⟨_, rfl⟩
      have HX := hide hxb
      clear f1' f2' R2 et hgc B2 b2 HI
      go_wp2_with fail
      try (go_quiet (fail); go_wp2_with fail)
      refine wp_region_held_drew (S := PS b w.heap.size S.next g2 cp2 (1 : Int) text) (by kernel_rfl) hPS (fun hS => ?_)
      refine wpAnyH_take (i := 0) (oi := { dst := some 125, op := Op.move (Operand.tmp 0), type := 54, pos := "base.go:406", after := #[], guard := none }) (v := .pointer (some ⟨b, 0, none⟩)) rfl (by kernel_rfl) (by kernel_rfl) (by kernel_rfl) (fun _ _ _ h => h) (Or.inl ⟨by kernel_rfl, fun W h => (by first | kernel_rfl | go_simp)⟩) hS ?_
      simp only [Act.put, List.setIfInBounds_toArray, List.set_cons_zero, List.set_cons_succ]
      refine wpAnyH_take (i := 1) (oi := { dst := some 126, op := Op.nilCheck (Operand.tmp 125), type := 0, pos := "base.go:406", after := #[{ on := 0, ground := Ground.data }], guard := none }) (v := .pointer (some ⟨b, 0, none⟩)) rfl (by kernel_rfl) (by kernel_rfl) (by kernel_rfl) (fun _ _ _ h => h) (Or.inl ⟨by kernel_rfl, fun W h => (by first | kernel_rfl | go_simp)⟩) hS ?_
      simp only [Act.put, List.setIfInBounds_toArray, List.set_cons_zero, List.set_cons_succ]
      refine wpAnyH_take (i := 2) (oi := { dst := some 127, op := Op.fieldAddr 58 (Operand.tmp 126) 1, type := 0, pos := "base.go:406", after := #[{ on := 1, ground := Ground.data }], guard := none }) (v := .pointer (some ⟨b, 1, none⟩)) rfl (by kernel_rfl) (by kernel_rfl) (by kernel_rfl) (fun _ _ _ h => h) (Or.inl ⟨by kernel_rfl, fun W h => (by first | kernel_rfl | go_simp)⟩) hS ?_
      simp only [Act.put, List.setIfInBounds_toArray, List.set_cons_zero, List.set_cons_succ]
      refine wpAnyH_take (i := 3) (oi := { dst := some 128, op := Op.load 56 (Operand.tmp 127), type := 56, pos := "base.go:406", after := #[{ on := 2, ground := Ground.data }], guard := none }) (v := .slice (some ⟨g2, 0, none⟩) S.next cp2) rfl (by kernel_rfl) (by kernel_rfl) (by kernel_rfl) (fun _ _ _ h => h) (Or.inl ⟨by kernel_rfl, fun W h => run_ld_sl (.tmp 127) (by kernel_rfl) (by kernel_rfl) W h.1⟩) hS ?_
      simp only [Act.put, List.setIfInBounds_toArray, List.set_cons_zero, List.set_cons_succ]
      refine wpAnyH_take (i := 4) (oi := { dst := some 129, op := Op.move (Operand.tmp 7), type := 3, pos := "base.go:406", after := #[], guard := none }) (v := .int .i64 (n : Nat)) rfl (by kernel_rfl) (by kernel_rfl) (by kernel_rfl) (fun _ _ _ h => h) (Or.inl ⟨by kernel_rfl, fun W h => (by first | kernel_rfl | go_simp)⟩) hS ?_
      simp only [Act.put, List.setIfInBounds_toArray, List.set_cons_zero, List.set_cons_succ]
      refine wpAnyH_take (i := 5) (oi := { dst := some 130, op := Op.fieldAddr 49 (Operand.tmp 3) 3, type := 0, pos := "base.go:406", after := #[], guard := none }) (v := .pointer (some ⟨w.heap.size, 3, none⟩)) rfl (by kernel_rfl) (by kernel_rfl) (by kernel_rfl) (fun _ _ _ h => h) (Or.inl ⟨by kernel_rfl, fun W h => (by first | kernel_rfl | go_simp)⟩) hS ?_
      simp only [Act.put, List.setIfInBounds_toArray, List.set_cons_zero, List.set_cons_succ]
      refine wpAnyH_take (i := 6) (oi := { dst := some 131, op := Op.load 3 (Operand.tmp 130), type := 3, pos := "base.go:406", after := #[{ on := 5, ground := Ground.data }], guard := none }) (v := .int .i64 1) rfl (by kernel_rfl) (by kernel_rfl) (by kernel_rfl) (fun _ _ _ h => h) (Or.inl ⟨by kernel_rfl, fun W h => run_ld_int (.tmp 130) (by kernel_rfl) (by kernel_rfl) W h.2.1⟩) hS ?_
      simp only [Act.put, List.setIfInBounds_toArray, List.set_cons_zero, List.set_cons_succ]
      refine wpAnyH_take (i := 7) (oi := { dst := some 132, op := Op.move (Operand.tmp 0), type := 54, pos := "base.go:406", after := #[], guard := none }) (v := .pointer (some ⟨b, 0, none⟩)) rfl (by kernel_rfl) (by kernel_rfl) (by kernel_rfl) (fun _ _ _ h => h) (Or.inl ⟨by kernel_rfl, fun W h => (by first | kernel_rfl | go_simp)⟩) hS ?_
      simp only [Act.put, List.setIfInBounds_toArray, List.set_cons_zero, List.set_cons_succ]
      refine wpAnyH_take (i := 8) (oi := { dst := some 133, op := Op.nilCheck (Operand.tmp 132), type := 0, pos := "base.go:406", after := #[{ on := 7, ground := Ground.data }], guard := none }) (v := .pointer (some ⟨b, 0, none⟩)) rfl (by kernel_rfl) (by kernel_rfl) (by kernel_rfl) (fun _ _ _ h => h) (Or.inl ⟨by kernel_rfl, fun W h => (by first | kernel_rfl | go_simp)⟩) hS ?_
      simp only [Act.put, List.setIfInBounds_toArray, List.set_cons_zero, List.set_cons_succ]
      refine wpAnyH_take (i := 9) (oi := { dst := some 134, op := Op.fieldAddr 58 (Operand.tmp 133) 1, type := 0, pos := "base.go:406", after := #[{ on := 8, ground := Ground.data }], guard := none }) (v := .pointer (some ⟨b, 1, none⟩)) rfl (by kernel_rfl) (by kernel_rfl) (by kernel_rfl) (fun _ _ _ h => h) (Or.inl ⟨by kernel_rfl, fun W h => (by first | kernel_rfl | go_simp)⟩) hS ?_
      simp only [Act.put, List.setIfInBounds_toArray, List.set_cons_zero, List.set_cons_succ]
      refine wpAnyH_take (i := 10) (oi := { dst := some 135, op := Op.load 56 (Operand.tmp 134), type := 56, pos := "base.go:406", after := #[{ on := 9, ground := Ground.data }], guard := none }) (v := .slice (some ⟨g2, 0, none⟩) S.next cp2) rfl (by kernel_rfl) (by kernel_rfl) (by kernel_rfl) (fun _ _ _ h => h) (Or.inl ⟨by kernel_rfl, fun W h => run_ld_sl (.tmp 134) (by kernel_rfl) (by kernel_rfl) W h.1⟩) hS ?_
      simp only [Act.put, List.setIfInBounds_toArray, List.set_cons_zero, List.set_cons_succ]
      refine wpAnyH_take (i := 11) (oi := { dst := some 136, op := Op.move (Operand.tmp 7), type := 3, pos := "base.go:406", after := #[{ on := 19, ground := Ground.gcOnly Departure.lateStores }], guard := none }) (v := .int .i64 (n : Nat)) rfl (by kernel_rfl) (by kernel_rfl) (by kernel_rfl) (fun _ _ _ h => h) (Or.inl ⟨by kernel_rfl, fun W h => (by first | kernel_rfl | go_simp)⟩) hS ?_
      simp only [Act.put, List.setIfInBounds_toArray, List.set_cons_zero, List.set_cons_succ]
      refine wpAnyH_take (i := 12) (oi := { dst := some 137, op := Op.fieldAddr 49 (Operand.tmp 3) 3, type := 0, pos := "base.go:406", after := #[{ on := 19, ground := Ground.gcOnly Departure.lateStores }], guard := none }) (v := .pointer (some ⟨w.heap.size, 3, none⟩)) rfl (by kernel_rfl) (by kernel_rfl) (by kernel_rfl) (fun _ _ _ h => h) (Or.inl ⟨by kernel_rfl, fun W h => (by first | kernel_rfl | go_simp)⟩) hS ?_
      simp only [Act.put, List.setIfInBounds_toArray, List.set_cons_zero, List.set_cons_succ]
      refine wpAnyH_take (i := 13) (oi := { dst := some 138, op := Op.load 3 (Operand.tmp 137), type := 3, pos := "base.go:406", after := #[{ on := 12, ground := Ground.data }, { on := 19, ground := Ground.gcOnly Departure.lateStores }], guard := none }) (v := .int .i64 1) rfl (by kernel_rfl) (by kernel_rfl) (by kernel_rfl) (fun _ _ _ h => h) (Or.inl ⟨by kernel_rfl, fun W h => run_ld_int (.tmp 137) (by kernel_rfl) (by kernel_rfl) W h.2.1⟩) hS ?_
      simp only [Act.put, List.setIfInBounds_toArray, List.set_cons_zero, List.set_cons_succ]
      refine wpAnyH_take (i := 14) (oi := { dst := some 139, op := Op.fieldAddr 49 (Operand.tmp 3) 6, type := 0, pos := "base.go:406", after := #[{ on := 19, ground := Ground.gcOnly Departure.lateStores }], guard := none }) (v := .pointer (some ⟨w.heap.size, 6, none⟩)) rfl (by kernel_rfl) (by kernel_rfl) (by kernel_rfl) (fun _ _ _ h => h) (Or.inl ⟨by kernel_rfl, fun W h => (by first | kernel_rfl | go_simp)⟩) hS ?_
      simp only [Act.put, List.setIfInBounds_toArray, List.set_cons_zero, List.set_cons_succ]
      refine wpAnyH_take (i := 15) (oi := { dst := some 140, op := Op.load 9 (Operand.tmp 139), type := 9, pos := "base.go:406", after := #[{ on := 14, ground := Ground.data }, { on := 19, ground := Ground.gcOnly Departure.lateStores }], guard := none }) (v := .string text) rfl (by kernel_rfl) (by kernel_rfl) (by kernel_rfl) (fun _ _ _ h => h) (Or.inl ⟨by kernel_rfl, fun W h => run_ld_str (.tmp 139) (by kernel_rfl) (by kernel_rfl) W h.2.2⟩) hS ?_
      simp only [Act.put, List.setIfInBounds_toArray, List.set_cons_zero, List.set_cons_succ]
      refine wpAnyH_take (i := 16) (oi := { dst := some 141, op := Op.indexAddr 56 (Operand.tmp 128) (Operand.tmp 129), type := 0, pos := "base.go:406", after := #[{ on := 3, ground := Ground.data }, { on := 4, ground := Ground.data }], guard := none }) (v := .pointer (some ⟨g2, n * 4, none⟩)) rfl (by kernel_rfl) (by kernel_rfl) (by kernel_rfl) (fun _ _ _ h => h) (Or.inl ⟨by kernel_rfl, fun W h => run_idx_file (c := cp2) (.tmp 128) (.tmp 129) (by kernel_rfl) (by kernel_rfl) (by kernel_rfl) hnlt W⟩) hS ?_
      simp only [Act.put, List.setIfInBounds_toArray, List.set_cons_zero, List.set_cons_succ]
      refine wpAnyH_take (i := 17) (oi := { dst := some 142, op := Op.fieldAddr 105 (Operand.tmp 141) 0, type := 0, pos := "base.go:406", after := #[{ on := 16, ground := Ground.data }], guard := none }) (v := .pointer (some ⟨g2, n * 4, none⟩)) rfl (by kernel_rfl) (by kernel_rfl) (by kernel_rfl) (fun _ _ _ h => h) (Or.inl ⟨by kernel_rfl, fun W h => (by first | kernel_rfl | go_simp)⟩) hS ?_
      simp only [Act.put, List.setIfInBounds_toArray, List.set_cons_zero, List.set_cons_succ]
      refine wpAnyH_take (i := 18) (oi := { dst := some 143, op := Op.indexAddr 102 (Operand.tmp 142) (Operand.tmp 131), type := 0, pos := "base.go:406", after := #[{ on := 17, ground := Ground.data }, { on := 6, ground := Ground.data }, { on := 0, ground := Ground.phase }, { on := 1, ground := Ground.phase }, { on := 2, ground := Ground.phase }, { on := 3, ground := Ground.phase }, { on := 4, ground := Ground.phase }, { on := 5, ground := Ground.phase }, { on := 6, ground := Ground.phase }, { on := 7, ground := Ground.textOnly Departure.lateStores }, { on := 8, ground := Ground.textOnly Departure.lateStoresUnsure }, { on := 9, ground := Ground.textOnly Departure.lateStoresUnsure }, { on := 10, ground := Ground.phase }, { on := 11, ground := Ground.textOnly Departure.lateStores }, { on := 12, ground := Ground.textOnly Departure.lateStores }, { on := 13, ground := Ground.textOnly Departure.lateStores }, { on := 14, ground := Ground.textOnly Departure.lateStores }, { on := 15, ground := Ground.textOnly Departure.lateStores }], guard := none }) (v := .pointer (some ⟨g2, n * 4 + 1, none⟩)) rfl (by kernel_rfl) (by kernel_rfl) (by kernel_rfl) (fun _ _ _ h => h) (Or.inl ⟨by kernel_rfl, fun W h => (by first | kernel_rfl | go_simp)⟩) hS ?_
      simp only [Act.put, List.setIfInBounds_toArray, List.set_cons_zero, List.set_cons_succ]
      refine wpAnyH_take (i := 20) (oi := { dst := some 144, op := Op.indexAddr 56 (Operand.tmp 135) (Operand.tmp 136), type := 0, pos := "base.go:406", after := #[{ on := 10, ground := Ground.data }, { on := 11, ground := Ground.data }], guard := none }) (v := .pointer (some ⟨g2, n * 4, none⟩)) rfl (by kernel_rfl) (by kernel_rfl) (by kernel_rfl) (fun _ _ _ h => h) (Or.inl ⟨by kernel_rfl, fun W h => run_idx_file (c := cp2) (.tmp 135) (.tmp 136) (by kernel_rfl) (by kernel_rfl) (by kernel_rfl) hnlt W⟩) hS ?_
      simp only [Act.put, List.setIfInBounds_toArray, List.set_cons_zero, List.set_cons_succ]
      refine wpAnyH_take (i := 21) (oi := { dst := some 145, op := Op.fieldAddr 105 (Operand.tmp 144) 1, type := 0, pos := "base.go:406", after := #[{ on := 20, ground := Ground.data }], guard := none }) (v := .pointer (some ⟨g2, n * 4 + 2, none⟩)) rfl (by kernel_rfl) (by kernel_rfl) (by kernel_rfl) (fun _ _ _ h => h) (Or.inl ⟨by kernel_rfl, fun W h => (by first | kernel_rfl | go_simp)⟩) hS ?_
      simp only [Act.put, List.setIfInBounds_toArray, List.set_cons_zero, List.set_cons_succ]
      refine wpAnyH_ready (rs := [19]) (by kernel_rfl) (by simp) ?_
      refine AllReadyH.cons (o := { dst := none, op := Op.store 4 (Operand.tmp 143) (Operand.const (Value.bool true)), type := 0, pos := "base.go:406", after := #[{ on := 18, ground := Ground.data }, { on := 0, ground := Ground.phase }, { on := 1, ground := Ground.phase }, { on := 2, ground := Ground.phase }, { on := 3, ground := Ground.phase }, { on := 4, ground := Ground.phase }, { on := 5, ground := Ground.phase }, { on := 6, ground := Ground.phase }, { on := 7, ground := Ground.textOnly Departure.lateStores }, { on := 8, ground := Ground.textOnly Departure.lateStoresUnsure }, { on := 9, ground := Ground.textOnly Departure.lateStoresUnsure }, { on := 10, ground := Ground.phase }, { on := 11, ground := Ground.textOnly Departure.lateStores }, { on := 12, ground := Ground.textOnly Departure.lateStores }, { on := 13, ground := Ground.textOnly Departure.lateStores }, { on := 14, ground := Ground.textOnly Departure.lateStores }, { on := 15, ground := Ground.textOnly Departure.lateStores }], guard := none }) rfl (fun K hK => ?_) AllReadyH.nil
      rw [if_pos (by kernel_rfl)]
      refine wp_st_bool (v := true) (.tmp 143) (.const (.bool true)) (by kernel_rfl) rfl (by kernel_rfl) (by kernel_rfl) f1 z1 ?_
      refine hK.out _ _ (hS.far hbg hxg) (fun hS2 => ?_)
      clear hK K
      refine wpAnyH_take (i := 22) (oi := { dst := some 146, op := Op.indexAddr 103 (Operand.tmp 145) (Operand.tmp 138), type := 0, pos := "base.go:406", after := #[{ on := 21, ground := Ground.data }, { on := 13, ground := Ground.data }, { on := 0, ground := Ground.phase }, { on := 1, ground := Ground.phase }, { on := 2, ground := Ground.phase }, { on := 3, ground := Ground.phase }, { on := 4, ground := Ground.phase }, { on := 5, ground := Ground.phase }, { on := 6, ground := Ground.phase }, { on := 7, ground := Ground.phase }, { on := 8, ground := Ground.phase }, { on := 9, ground := Ground.phase }, { on := 10, ground := Ground.phase }, { on := 11, ground := Ground.phase }, { on := 12, ground := Ground.phase }, { on := 13, ground := Ground.phase }, { on := 14, ground := Ground.phase }, { on := 15, ground := Ground.phase }, { on := 16, ground := Ground.phase }, { on := 17, ground := Ground.phase }, { on := 18, ground := Ground.phase }, { on := 19, ground := Ground.phase }], guard := none }) (v := .pointer (some ⟨g2, n * 4 + 2 + 1, none⟩)) rfl (by kernel_rfl) (by kernel_rfl) (by kernel_rfl) (fun _ _ _ h => h) (Or.inl ⟨by kernel_rfl, fun W h => (by first | kernel_rfl | go_simp)⟩) hS2 ?_
      simp only [Act.put, List.setIfInBounds_toArray, List.set_cons_zero, List.set_cons_succ]
      refine wpAnyH_ready (rs := [23]) (by kernel_rfl) (by simp) ?_
      refine AllReadyH.cons (o := { dst := none, op := Op.store 9 (Operand.tmp 146) (Operand.tmp 140), type := 0, pos := "base.go:406", after := #[{ on := 22, ground := Ground.data }, { on := 15, ground := Ground.data }, { on := 19, ground := Ground.chain }, { on := 0, ground := Ground.phase }, { on := 1, ground := Ground.phase }, { on := 2, ground := Ground.phase }, { on := 3, ground := Ground.phase }, { on := 4, ground := Ground.phase }, { on := 5, ground := Ground.phase }, { on := 6, ground := Ground.phase }, { on := 7, ground := Ground.phase }, { on := 8, ground := Ground.phase }, { on := 9, ground := Ground.phase }, { on := 10, ground := Ground.phase }, { on := 11, ground := Ground.phase }, { on := 12, ground := Ground.phase }, { on := 13, ground := Ground.phase }, { on := 14, ground := Ground.phase }, { on := 15, ground := Ground.phase }, { on := 16, ground := Ground.phase }, { on := 17, ground := Ground.phase }, { on := 18, ground := Ground.phase }, { on := 19, ground := Ground.phase }], guard := none }) rfl (fun K hK => ?_) AllReadyH.nil
      rw [if_pos (by kernel_rfl)]
      refine wp_st_str (v := text) (.tmp 146) (.tmp 140) (by kernel_rfl) rfl (by kernel_rfl) (by kernel_rfl) f2 z2 ?_
      refine hK.out _ _ (hS2.far hbg hxg) (fun hS3 => ?_)
      clear hK K
      refine wpAnyH_done (by kernel_rfl) ?_ _
      have k0 : ((W.drew.setCell ⟨g2, n * 4 + 1, none⟩ (.bool true)).setCell ⟨g2, n * 4 + 2 + 1, none⟩ (.string text)).cell? ⟨w.heap.size, 0, none⟩ = some (.int .i64 5) := by
        rw [World.cell?_setCell_far _ _ _ _ (Ne.symm hxg), World.cell?_setCell_far _ _ _ _ (Ne.symm hxg)]; exact c0
      have DONE := hide (IHeld.of ((unhide BB).drew) (unhide FIN))
      clear hS hS2 hS3 FIN
      generalize ((W.drew.setCell ⟨g2, n * 4 + 1, none⟩ (.bool true)).setCell ⟨g2, n * 4 + 2 + 1, none⟩ (.string text)) = WE at k0 DONE ⊢
      clear f1 f2 z1 z2 hPS tv fv t2 c0 c3 c6
      go_wp2_with fail
      go_ret
      exact ⟨rfl, unhide DONE⟩
end
end Idl
end Go.Proofs.Ytmhbphmdfnlmkaa
