/-
  The walk of (*eiderdownref.Ideal).Do: a step that makes. (Written by genjo.py.)
-/
import Derived.Test.YtmhbphmdfnlmkaaJn
import Derived.Lib.AppendZerosOnto
namespace Go.Proofs.Ytmhbphmdfnlmkaa
open Go.RowKit
namespace Idl
def RawTo (b : Nat) (vt vf : Value) (W0 W' : World) (l' : List Tg) (n' : Nat) (S' : St) (vt' vf' : Value) : Prop :=
  IRaw W' b l' n' S' vt' vf' ∧ Chg (iown b vt vf) W0 W' ∧ ∀ k, iown b vt' vf' k → iown b vt vf k ∨ W0.heap.size ≤ k
theorem RawTo.trans {b n1 n2 : Nat} {vt vf v1 f1 v2 f2 : Value} {W0 W1 W2 : World} {l1 l2 : List Tg} {S1 S2 : St} (h : RawTo b vt vf W0 W1 l1 n1 S1 v1 f1) (k : RawTo b v1 f1 W1 W2 l2 n2 S2 v2 f2) : RawTo b vt vf W0 W2 l2 n2 S2 v2 f2 := by
  refine ⟨k.1, h.2.1.trans k.2.1 h.2.2, fun i hi => ?_⟩
  rcases k.2.2 i hi with z | z
  · exact h.2.2 i z
  · exact .inr (Nat.le_trans h.2.1.size z)
theorem RawTo.held {b m : Nat} {vt vf v1 f1 : Value} {w W0 W1 : World} {l1 : List Tg} {S1 : St} (h : RawTo b vt vf W0 W1 l1 S1.next S1 v1 f1) (hb : Below w.heap.size w W0) (hI : Inv S1) (hT : Tags S1 l1) (hm : l1.length ≤ m) : IHeld b vt vf w W1 S1 m :=
  IHeld.of hb ⟨l1, v1, f1, h.1.rep hI hT, h.2.1, h.2.2, hm⟩
theorem make_raw {W0 W2 : World} {b n : Nat} {S : St} {l : List Tg} {vt vf v' : Value} {ob : Obj} (h : IRaw W0 b l n S vt vf) {d : Int} {s : ByteArray} {k : Nat}
    (ho : W2.ownsRow 0 101 3 v' (l.length + 1) (cellsT l ++ [.int .i64 d, .string s, .int .i64 (k : Nat)])) (hg : (W0.alloc ob).grownBy W2 vt.ownBlock)
    (ha : v'.ownBlock = vt.ownBlock ∨ v'.ownBlock = some (W0.alloc ob).heap.size) : RawTo b vt vf W0 (W2.setCell ⟨b, 0, none⟩ v') (l ++ [⟨d, s, k⟩]) n S v' vf := by
  have hb := (Below.refl W0.heap.size W0).alloc (Nat.le_refl _) ob
  have h1 := h.below hb
  have e := h1.setT (l' := l ++ [⟨d, s, k⟩]) hg (.inr rfl) (by rw [cellsT_add, List.length_append]; exact ho) (by
    rcases ha with z | z
    · exact .inl z
    · exact .inr fun k hk => by rw [z] at hk; cases hk; exact Nat.le_refl _)
  refine ⟨e.1, (Chg.of_below hb).trans e.2.1 (fun i hi => .inl hi), fun i hi => ?_⟩
  rcases e.2.2 i hi with z | z
  · exact .inl z
  · exact .inr (Nat.le_trans hb.size z)
theorem raw_frozen {W0 W2 : World} {b n : Nat} {S : St} {l : List Tg} {vt vf : Value} {ob : Obj} (h : IRaw W0 b l n S vt vf) (hg : (W0.alloc ob).grownBy W2 vt.ownBlock) : W2.frozen? ⟨b, 0, none⟩ = false := by
  refine frozen_of_row W2 b 0 #[vt, vf] 58 ?_
  rw [hg.block b (Nat.lt_of_lt_of_le h.blt (by simp)) (fun e => h.offT e.symm), heap_alloc_old _ _ h.blt]
  exact h.root
theorem run_ld_slT {o : Oper} {ρ : Operand → Value} (x : Operand) (ho : o.op = .load 55 x) {g o0 : Nat} (hx : ρ x = .pointer (some ⟨g, o0, none⟩)) {a : Option Addr} {n c : Nat} (w : World) (h : w.cell? ⟨g, o0, none⟩ = some (.slice a n c)) : (execOp ρ o).run Try.prog w = .ok (.value (.slice a n c)) w := by
  unfold execOp
  rw [ho]
  go_simp
theorem wp_st_slT {o : Oper} {a : Act} {K : Act → World → Prop} {Q : Exit → Act → World → Prop} {W : World} (x y : Operand) (ho : o.op = .store 55 x y) (hd : o.dst = none) {g o0 : Nat} {v : Option Addr} {n c : Nat} (hx : a.eval x = .pointer (some ⟨g, o0, none⟩)) (hy : a.eval y = .slice v n c) {u : Value} (hc : W.cell? ⟨g, o0, none⟩ = some u) (hf : W.frozen? ⟨g, o0, none⟩ = false)
    (h : K a (W.setCell ⟨g, o0, none⟩ (.slice v n c))) : o.wp Try.prog a W K Q := by
  unfold Oper.wp execOp
  simp only [ho, hx, hy]
  go_simp
  exact h
theorem one_tag (d : Int) (s : ByteArray) (k : Nat) : ∀ u ∈ [Value.int .i64 d, .string s, .int .i64 ((k : Nat) : Int)], u.oneCell' = true := fun u hu => by
  simp only [List.mem_cons, List.not_mem_nil, or_false] at hu
  rcases hu with rfl | rfl | rfl <;> rfl
theorem make_rawF {W0 W2 : World} {b : Nat} {S : St} {l : List Tg} {vt vf v' : Value} {ob : Obj} (h : IRaw W0 b l S.next S vt vf)
    (ho : W2.ownsRow 0 105 4 v' (S.next + 1) (cellsF S S.next ++ [.bool false, .bool false, .string ⟨#[]⟩, .string ⟨#[]⟩])) (hg : (W0.alloc ob).grownBy W2 vf.ownBlock)
    (ha : v'.ownBlock = vf.ownBlock ∨ v'.ownBlock = some (W0.alloc ob).heap.size) {d : Nat} {s : ByteArray} : RawTo b vt vf W0 (W2.setCell ⟨b, 1, none⟩ v') l (S.fresh.add d s S.next).next (S.fresh.add d s S.next) vt v' := by
  have hb := (Below.refl W0.heap.size W0).alloc (Nat.le_refl _) ob
  have h1 := h.below hb
  have e := h1.setF (S' := S.fresh.add d s S.next) (n' := S.next + 1) hg (by
    rw [show cellsF (S.fresh.add d s S.next) (S.next + 1) = cellsF S.fresh (S.next + 1) from rfl, cellsF_fresh]; exact ho) (by
    rcases ha with z | z
    · exact .inl z
    · exact .inr fun k hk => by rw [z] at hk; cases hk; exact Nat.le_refl _)
  refine ⟨e.1, (Chg.of_below hb).trans e.2.1 (fun i hi => .inl hi), fun i hi => ?_⟩
  rcases e.2.2 i hi with z | z
  · exact .inl z
  · exact .inr (Nat.le_trans hb.size z)
section
variable {w : World} {b : Nat} {S : St} {l : List Tg} {vt vf : Value}
set_option maxHeartbeats 4000000 in
set_option maxRecDepth 100000 in
theorem rDo_make (h : IRep w b S l vt vf) (h1 : l.length ≤ 1000000) (h2 : S.next ≤ 1000000) (dir toDir p : Int) (name to text : ByteArray) (hn : name.size ≤ maxLen) (ht : to.size ≤ maxLen) (hx : text.size ≤ maxLen) (hc : code S ⟨1, dir, toDir, p, name, to, text⟩ = 0) :
    Calls Try.prog 28 #[.pointer (some ⟨b, 0, none⟩), .agg (stpA ⟨1, dir, toDir, p, name, to, text⟩)] w fun e w' => e = .returned (.int .i64 0) ∧ IHeld b vt vf w w' (step S ⟨1, dir, toDir, p, name, to, text⟩) (l.length + 1) := by
  obtain ⟨i0, zt, hi0, hz0, hz1, hz2, hz3⟩ := tag_info
  obtain ⟨i1, zf, hj0, hj1, hj2, hj3, hj4⟩ := file_info
  have bel0 : Below w.heap.size w (w.alloc (.cells (stpA ⟨1, dir, toDir, p, name, to, text⟩) 49)) := (Below.refl _ w).alloc (Nat.le_refl _) _
  have C1 := hide (stepFault_any ⟨1, dir, toDir, p, name, to, text⟩ hn ht hx (w.alloc (.cells (stpA ⟨1, dir, toDir, p, name, to, text⟩) 49)))
  have BEL := hide bel0
  have HC := hide fun W bW => stp_kept w ⟨1, dir, toDir, p, name, to, text⟩ W bW
  have HR := hide h
  have hk : chk ⟨1, dir, toDir, p, name, to, text⟩ = 0 := by
    cases e : decide (chk ⟨1, dir, toDir, p, name, to, text⟩ = 0)
    · rw [code_chk (by simpa using e)] at hc; exact hc
    · simpa using e
  rw [hk] at C1
  have g0 := goes hc
  have hnew := g0.mak (by simp)
  have hd : isD dir = true := g0.din
  have hst : step S ⟨1, dir, toDir, p, name, to, text⟩ = S.fresh.add dir.toNat name S.next := by
    rcases step_cases hc with ⟨k, e⟩ | ⟨k, _⟩ | ⟨k, _⟩ | ⟨k, _⟩ | ⟨k, _⟩ | ⟨k, _⟩
    all_goals first | exact e | (exfalso; revert k; decide) | (simp at k)
  have HI := hide (inv_step h.inv ⟨1, dir, toDir, p, name, to, text⟩)
  have HTG := hide (h.tags.make h.inv (x := ⟨1, dir, toDir, p, name, to, text⟩) hd hnew)
  rw [hst] at HI ⊢
  have hlk : lookS S dir name = none := by rw [lookS_in hd]; exact hnew
  rcases atI_lookS h.tags dir name with ⟨a1, _⟩ | ⟨i, hi, _, a1, a2⟩
  · have HA := hide a1
    have HXT := hide (show vt.ownBlock ≠ some w.heap.size from fun e => by have := (h.rowT.lt _ e).2; omega)
    have HXF := hide (show vf.ownBlock ≠ some w.heap.size from fun e => by have := (h.rowF.lt _ e).2; omega)
    obtain ⟨ta, tc, rfl, _⟩ := own_form h.rowT
    obtain ⟨fa, fc, rfl, _⟩ := own_form h.rowF
    clear hc hk g0 hst a1 hlk bel0 hnew hd h
    go_enter Try.func28, Try.ntmps28
    go_wp2_with fail
    refine (unhide C1).mono ?_
    rintro e w1 ⟨rfl, bel⟩
    have B1 : Below w.heap.size w w1 := (unhide BEL).trans (bel.mono (by simp))
    have c1 : w1.cell? ⟨w.heap.size, 1, none⟩ = some (.int .i64 dir) := unhide HC w1 bel 1 _ rfl
    have c4 : w1.cell? ⟨w.heap.size, 4, none⟩ = some (.string name) := unhide HC w1 bel 4 _ rfl
    obtain ⟨ta2, fa2, tc2, fc2, e1, e2, R1⟩ := ((unhide HR).below B1).rd h1 h2
    have C2 := hide (rAt_any dir name w1 R1)
    rw [unhide HA] at C2
    have BL := hide bel
    clear R1 bel HA e1 e2 ta2 fa2 tc2 fc2
    go_wp2_with fail
    refine (unhide C2).mono ?_
    rintro e w2 ⟨rfl, q, rfl⟩
    have B2 : Below w.heap.size w (w1.drewN q) := belowN B1
    have b2 : Below (w.alloc (.cells (stpA ⟨1, dir, toDir, p, name, to, text⟩) 49)).heap.size (w.alloc (.cells (stpA ⟨1, dir, toDir, p, name, to, text⟩) 49)) (w1.drewN q) := belowN (unhide BL)
    clear B1 BL c1 c4 C2
    generalize w1.drewN q = W at B2 b2 ⊢
    have HW := hide ((unhide HR).below B2)
    have c0 : W.cell? ⟨w.heap.size, 0, none⟩ = some (.int .i64 1) := unhide HC W b2 0 _ rfl
    obtain ⟨X, hX⟩ : ∃ X : Stp, X = ⟨1, dir, toDir, p, name, to, text⟩ := ⟨_, rfl⟩
    have hTS : TS b w.heap.size (.slice ta l.length tc) (.slice fa S.next fc) ⟨1, dir, toDir, p, name, to, text⟩ W.drew :=
      ⟨by rw [World.cell?_of_block (w' := W.drew) (w := W) rfl, cell_of_row W b 0 _ _ _ (unhide HW).root]; rfl, by rw [World.cell?_of_block (w' := W.drew) (w := W) rfl, cell_of_row W b 1 _ _ _ (unhide HW).root]; rfl, fun j u hj => by rw [World.cell?_of_block (w' := W.drew) (w := W) rfl]; exact unhide HC W b2 j u hj⟩
    have HX0 := hide (show w.heap.size < W.drew.heap.size from Nat.lt_of_lt_of_le (by simp) b2.size)
    have HW0 := hide ((unhide HW).raw.below (Below.refl _ _).drew)
    have BB := hide (B2.drew)
    clear B2 b2 hX HW
    go_wp2_with fail
    try (go_quiet (fail); go_wp2_with fail)
    refine wp_region_F (S := TS b w.heap.size (.slice ta l.length tc) (.slice fa S.next fc) ⟨1, dir, toDir, p, name, to, text⟩) 19 (by kernel_rfl) hTS (fun hS => ?_)
    refine wpAnyF_take (i := 0) (oi := { dst := some 25, op := Op.move (Operand.tmp 0), type := 54, pos := "base.go:386", after := #[], guard := none }) (v := .pointer (some ⟨b, 0, none⟩)) rfl (by kernel_rfl) (by kernel_rfl) (by kernel_rfl) (by kernel_rfl) (fun _ _ _ h => h) (Or.inl ⟨by kernel_rfl, fun W h => (by first | kernel_rfl | go_simp)⟩) hS ?_
    simp only [Act.put, List.setIfInBounds_toArray, List.set_cons_zero, List.set_cons_succ]
    refine wpAnyF_take (i := 1) (oi := { dst := some 26, op := Op.move (Operand.tmp 0), type := 54, pos := "base.go:386", after := #[], guard := none }) (v := .pointer (some ⟨b, 0, none⟩)) rfl (by kernel_rfl) (by kernel_rfl) (by kernel_rfl) (by kernel_rfl) (fun _ _ _ h => h) (Or.inl ⟨by kernel_rfl, fun W h => (by first | kernel_rfl | go_simp)⟩) hS ?_
    simp only [Act.put, List.setIfInBounds_toArray, List.set_cons_zero, List.set_cons_succ]
    refine wpAnyF_take (i := 2) (oi := { dst := some 27, op := Op.nilCheck (Operand.tmp 26), type := 0, pos := "base.go:386", after := #[{ on := 1, ground := Ground.data }], guard := none }) (v := .pointer (some ⟨b, 0, none⟩)) rfl (by kernel_rfl) (by kernel_rfl) (by kernel_rfl) (by kernel_rfl) (fun _ _ _ h => h) (Or.inl ⟨by kernel_rfl, fun W h => (by first | kernel_rfl | go_simp)⟩) hS ?_
    simp only [Act.put, List.setIfInBounds_toArray, List.set_cons_zero, List.set_cons_succ]
    refine wpAnyF_take (i := 3) (oi := { dst := some 28, op := Op.fieldAddr 58 (Operand.tmp 27) 0, type := 0, pos := "base.go:386", after := #[{ on := 2, ground := Ground.data }], guard := none }) (v := .pointer (some ⟨b, 0, none⟩)) rfl (by kernel_rfl) (by kernel_rfl) (by kernel_rfl) (by kernel_rfl) (fun _ _ _ h => h) (Or.inl ⟨by kernel_rfl, fun W h => (by first | kernel_rfl | go_simp)⟩) hS ?_
    simp only [Act.put, List.setIfInBounds_toArray, List.set_cons_zero, List.set_cons_succ]
    refine wpAnyF_take (i := 4) (oi := { dst := some 29, op := Op.load 55 (Operand.tmp 28), type := 55, pos := "base.go:386", after := #[{ on := 3, ground := Ground.data }], guard := none }) (v := .slice ta l.length tc) rfl (by kernel_rfl) (by kernel_rfl) (by kernel_rfl) (by kernel_rfl) (fun _ _ _ h => h) (Or.inl ⟨by kernel_rfl, fun W h => run_ld_slT (.tmp 28) (by kernel_rfl) (by kernel_rfl) W h.1⟩) hS ?_
    simp only [Act.put, List.setIfInBounds_toArray, List.set_cons_zero, List.set_cons_succ]
    refine wpAnyF_take (i := 5) (oi := { dst := some 30, op := Op.fieldAddr 49 (Operand.tmp 3) 1, type := 0, pos := "base.go:386", after := #[], guard := none }) (v := .pointer (some ⟨w.heap.size, 1, none⟩)) rfl (by kernel_rfl) (by kernel_rfl) (by kernel_rfl) (by kernel_rfl) (fun _ _ _ h => h) (Or.inl ⟨by kernel_rfl, fun W h => (by first | kernel_rfl | go_simp)⟩) hS ?_
    simp only [Act.put, List.setIfInBounds_toArray, List.set_cons_zero, List.set_cons_succ]
    refine wpAnyF_take (i := 6) (oi := { dst := some 31, op := Op.load 3 (Operand.tmp 30), type := 3, pos := "base.go:386", after := #[{ on := 5, ground := Ground.data }], guard := none }) (v := .int .i64 dir) rfl (by kernel_rfl) (by kernel_rfl) (by kernel_rfl) (by kernel_rfl) (fun _ _ _ h => h) (Or.inl ⟨by kernel_rfl, fun W h => run_ld_int (.tmp 30) (by kernel_rfl) (by kernel_rfl) W (h.2.2 1 _ rfl)⟩) hS ?_
    simp only [Act.put, List.setIfInBounds_toArray, List.set_cons_zero, List.set_cons_succ]
    refine wpAnyF_take (i := 7) (oi := { dst := some 32, op := Op.fieldAddr 49 (Operand.tmp 3) 4, type := 0, pos := "base.go:386", after := #[], guard := none }) (v := .pointer (some ⟨w.heap.size, 4, none⟩)) rfl (by kernel_rfl) (by kernel_rfl) (by kernel_rfl) (by kernel_rfl) (fun _ _ _ h => h) (Or.inl ⟨by kernel_rfl, fun W h => (by first | kernel_rfl | go_simp)⟩) hS ?_
    simp only [Act.put, List.setIfInBounds_toArray, List.set_cons_zero, List.set_cons_succ]
    refine wpAnyF_take (i := 8) (oi := { dst := some 33, op := Op.load 9 (Operand.tmp 32), type := 9, pos := "base.go:386", after := #[{ on := 7, ground := Ground.data }], guard := none }) (v := .string name) rfl (by kernel_rfl) (by kernel_rfl) (by kernel_rfl) (by kernel_rfl) (fun _ _ _ h => h) (Or.inl ⟨by kernel_rfl, fun W h => run_ld_str (.tmp 32) (by kernel_rfl) (by kernel_rfl) W (h.2.2 4 _ rfl)⟩) hS ?_
    simp only [Act.put, List.setIfInBounds_toArray, List.set_cons_zero, List.set_cons_succ]
    refine wpAnyF_take (i := 9) (oi := { dst := some 34, op := Op.move (Operand.tmp 0), type := 54, pos := "base.go:386", after := #[], guard := none }) (v := .pointer (some ⟨b, 0, none⟩)) rfl (by kernel_rfl) (by kernel_rfl) (by kernel_rfl) (by kernel_rfl) (fun _ _ _ h => h) (Or.inl ⟨by kernel_rfl, fun W h => (by first | kernel_rfl | go_simp)⟩) hS ?_
    simp only [Act.put, List.setIfInBounds_toArray, List.set_cons_zero, List.set_cons_succ]
    refine wpAnyF_take (i := 10) (oi := { dst := some 35, op := Op.nilCheck (Operand.tmp 34), type := 0, pos := "base.go:386", after := #[{ on := 9, ground := Ground.data }], guard := none }) (v := .pointer (some ⟨b, 0, none⟩)) rfl (by kernel_rfl) (by kernel_rfl) (by kernel_rfl) (by kernel_rfl) (fun _ _ _ h => h) (Or.inl ⟨by kernel_rfl, fun W h => (by first | kernel_rfl | go_simp)⟩) hS ?_
    simp only [Act.put, List.setIfInBounds_toArray, List.set_cons_zero, List.set_cons_succ]
    refine wpAnyF_take (i := 11) (oi := { dst := some 36, op := Op.fieldAddr 58 (Operand.tmp 35) 1, type := 0, pos := "base.go:386", after := #[{ on := 10, ground := Ground.data }], guard := none }) (v := .pointer (some ⟨b, 1, none⟩)) rfl (by kernel_rfl) (by kernel_rfl) (by kernel_rfl) (by kernel_rfl) (fun _ _ _ h => h) (Or.inl ⟨by kernel_rfl, fun W h => (by first | kernel_rfl | go_simp)⟩) hS ?_
    simp only [Act.put, List.setIfInBounds_toArray, List.set_cons_zero, List.set_cons_succ]
    refine wpAnyF_take (i := 12) (oi := { dst := some 37, op := Op.load 56 (Operand.tmp 36), type := 56, pos := "base.go:386", after := #[{ on := 11, ground := Ground.data }], guard := none }) (v := .slice fa S.next fc) rfl (by kernel_rfl) (by kernel_rfl) (by kernel_rfl) (by kernel_rfl) (fun _ _ _ h => h) (Or.inl ⟨by kernel_rfl, fun W h => run_ld_sl (.tmp 36) (by kernel_rfl) (by kernel_rfl) W h.2.1⟩) hS ?_
    simp only [Act.put, List.setIfInBounds_toArray, List.set_cons_zero, List.set_cons_succ]
    refine wpAnyF_take (i := 13) (oi := { dst := some 38, op := Op.call { callee := Callee.builtin Builtin.len, args := #[Operand.tmp 37], argTypes := #[56] }, type := 3, pos := "base.go:386", after := #[{ on := 12, ground := Ground.data }], guard := none }) (v := .int .i64 ((S.next : Nat) : Int)) rfl (by kernel_rfl) (by kernel_rfl) (by kernel_rfl) (by kernel_rfl) (fun _ _ _ h => h) (Or.inl ⟨by kernel_rfl, fun W h => (by first | kernel_rfl | go_simp)⟩) hS ?_
    simp only [Act.put, List.setIfInBounds_toArray, List.set_cons_zero, List.set_cons_succ]
    refine wpAnyF_take (i := 14) (oi := { dst := some 39, op := Op.build 101 #[(0, Operand.tmp 31), (1, Operand.tmp 33), (2, Operand.tmp 38)], type := 101, pos := "base.go:386", after := #[{ on := 6, ground := Ground.data }, { on := 8, ground := Ground.data }, { on := 13, ground := Ground.data }], guard := none }) (v := .agg #[.int .i64 dir, .string name, .int .i64 ((S.next : Nat) : Int)]) rfl (by kernel_rfl) (by kernel_rfl) (by kernel_rfl) (by kernel_rfl) (fun _ _ _ h => h) (Or.inl ⟨by kernel_rfl, fun W h => (by first | kernel_rfl | go_simp)⟩) hS ?_
    simp only [Act.put, List.setIfInBounds_toArray, List.set_cons_zero, List.set_cons_succ]
    generalize World.drew _ = W0 at hS HW0 HX0 BB ⊢
    refine wpAnyF_one (i := 15) (o := { dst := some 40, op := Op.buildSlice 55 1 #[(0, Operand.tmp 39)], type := 55, pos := "base.go:386", after := #[{ on := 14, ground := Ground.data }], guard := none }) (by kernel_rfl) rfl (by kernel_rfl) (fun K hK => ?_)
    go_simp
    have hS1 := hS.keep (W' := W0.alloc (.cells #[.int .i64 dir, .string name, .int .i64 ((S.next : Nat) : Int)] 101)) (heap_alloc_old _ _ (unhide HW0).blt) (heap_alloc_old _ _ (unhide HX0))
    refine hK.out _ _ (fun _ => hS1) ?_
    clear hK K
    try simp only [Act.put, List.setIfInBounds_toArray, List.set_cons_zero, List.set_cons_succ]
    refine wpAnyF_one (i := 16) (o := { dst := some 41, op := Op.call { callee := Callee.builtin Builtin.append, args := #[Operand.tmp 29, Operand.tmp 40], argTypes := #[55, 55] }, type := 55, pos := "base.go:386", after := #[{ on := 4, ground := Ground.data }, { on := 15, ground := Ground.data }], guard := none }) (by kernel_rfl) rfl (by kernel_rfl) (fun K hK => ?_)
    refine wp_append_part (.tmp 29) (.tmp 40) (by kernel_rfl) Try.underlying55 hi0 hz0 hz1 hz2 hz3 (by omega) (by kernel_rfl) (World.ownsRow.alloc (unhide HW0).rowT _) (by kernel_rfl) (.inr ⟨⟨W0.heap.size, 0, none⟩, 1, rfl, rfl, row_new W0 [.int .i64 dir, .string name, .int .i64 ((S.next : Nat) : Int)] 101⟩) (one_tag dir name S.next) (by unfold maxLen; omega) (by omega) (by simp) ?_
    intro v' W2 ho hg ha
    obtain ⟨a', c', rfl, _⟩ := own_form ho
    have hS2 := hS1.keep (hg.block b (Nat.lt_of_lt_of_le (unhide HW0).blt (by simp)) (fun e => (unhide HW0).offT e.symm)) (hg.block w.heap.size (Nat.lt_of_lt_of_le (unhide HX0) (by simp)) (fun e => unhide HXT e.symm))
    have RAW := hide (make_raw (unhide HW0) ho hg ha)
    have FRZ := hide (raw_frozen (unhide HW0) hg)
    refine hK.out _ _ (fun _ => hS2) ?_
    clear hK K ho hg ha
    try simp only [Act.put, List.setIfInBounds_toArray, List.set_cons_zero, List.set_cons_succ]
    refine wpAnyF_one (i := 17) (o := { dst := some 42, op := Op.nilCheck (Operand.tmp 25), type := 0, pos := "base.go:386", after := #[{ on := 0, ground := Ground.data }, { on := 0, ground := Ground.phase }, { on := 1, ground := Ground.phase }, { on := 2, ground := Ground.phase }, { on := 3, ground := Ground.phase }, { on := 4, ground := Ground.phase }, { on := 5, ground := Ground.phase }, { on := 6, ground := Ground.phase }, { on := 7, ground := Ground.phase }, { on := 8, ground := Ground.phase }, { on := 9, ground := Ground.phase }, { on := 10, ground := Ground.phase }, { on := 11, ground := Ground.phase }, { on := 12, ground := Ground.phase }, { on := 13, ground := Ground.phase }, { on := 14, ground := Ground.phase }, { on := 15, ground := Ground.phase }, { on := 16, ground := Ground.phase }], guard := none }) (by kernel_rfl) rfl (by kernel_rfl) (fun K hK => ?_)
    go_simp
    refine hK.out _ _ (fun _ => hS2) ?_
    clear hK K
    try simp only [Act.put, List.setIfInBounds_toArray, List.set_cons_zero, List.set_cons_succ]
    refine wpAnyF_one (i := 18) (o := { dst := some 43, op := Op.fieldAddr 58 (Operand.tmp 42) 0, type := 0, pos := "base.go:386", after := #[{ on := 17, ground := Ground.data }, { on := 0, ground := Ground.phase }, { on := 1, ground := Ground.phase }, { on := 2, ground := Ground.phase }, { on := 3, ground := Ground.phase }, { on := 4, ground := Ground.phase }, { on := 5, ground := Ground.phase }, { on := 6, ground := Ground.phase }, { on := 7, ground := Ground.phase }, { on := 8, ground := Ground.phase }, { on := 9, ground := Ground.phase }, { on := 10, ground := Ground.phase }, { on := 11, ground := Ground.phase }, { on := 12, ground := Ground.phase }, { on := 13, ground := Ground.phase }, { on := 14, ground := Ground.phase }, { on := 15, ground := Ground.phase }, { on := 16, ground := Ground.phase }], guard := none }) (by kernel_rfl) rfl (by kernel_rfl) (fun K hK => ?_)
    go_simp
    refine hK.out _ _ (fun _ => hS2) ?_
    clear hK K
    try simp only [Act.put, List.setIfInBounds_toArray, List.set_cons_zero, List.set_cons_succ]
    refine wpAnyF_one (i := 19) (o := { dst := none, op := Op.store 55 (Operand.tmp 43) (Operand.tmp 41), type := 0, pos := "base.go:386", after := #[{ on := 18, ground := Ground.data }, { on := 16, ground := Ground.data }, { on := 16, ground := Ground.chain }, { on := 0, ground := Ground.phase }, { on := 1, ground := Ground.phase }, { on := 2, ground := Ground.phase }, { on := 3, ground := Ground.phase }, { on := 4, ground := Ground.phase }, { on := 5, ground := Ground.phase }, { on := 6, ground := Ground.phase }, { on := 7, ground := Ground.phase }, { on := 8, ground := Ground.phase }, { on := 9, ground := Ground.phase }, { on := 10, ground := Ground.phase }, { on := 11, ground := Ground.phase }, { on := 12, ground := Ground.phase }, { on := 13, ground := Ground.phase }, { on := 14, ground := Ground.phase }, { on := 15, ground := Ground.phase }, { on := 16, ground := Ground.phase }], guard := none }) (by kernel_rfl) rfl (by kernel_rfl) (fun K hK => ?_)
    refine wp_st_slT (v := a') (n := l.length + 1) (c := c') (.tmp 43) (.tmp 41) (by kernel_rfl) rfl (by kernel_rfl) (by kernel_rfl) hS2.1 (unhide FRZ) ?_
    refine hK.out _ _ (fun h => absurd rfl h) ?_
    clear hK K
    refine wpAnyF_done (by kernel_rfl) ?_ _
    obtain ⟨WB, hWB⟩ : ∃ WB, WB = W2.setCell ⟨b, 0, none⟩ (.slice a' (l.length + 1) c') := ⟨_, rfl⟩
    rw [← hWB] at RAW ⊢
    clear hWB hS hS1 hS2 FRZ hTS
    have fv : WB.cell? ⟨b, 1, none⟩ = some (.slice fa S.next fc) := by rw [cell_of_row WB b 1 _ _ _ (unhide RAW).1.root]; rfl
    have blt := (unhide RAW).1.blt
    obtain ⟨v2, W5, hrun, ho2, hg2, ha2⟩ := run_append_part (P := Try.prog) (W := WB.alloc (.cells #[.bool false, .bool false, .string ⟨#[]⟩, .string ⟨#[]⟩] 105)) (t := 56) 56 Try.underlying56 hj0 hj1 hj2 hj3 hj4 (by omega) (World.ownsRow.alloc (unhide RAW).1.rowF _) (x := .slice (some ⟨WB.heap.size, 0, none⟩) 1 1) (m := 1) (news := [.bool false, .bool false, .string ⟨#[]⟩, .string ⟨#[]⟩]) (.inr ⟨_, _, rfl, rfl, row_new WB [.bool false, .bool false, .string ⟨#[]⟩, .string ⟨#[]⟩] 105⟩) (fun u hu => by
      simp only [List.mem_cons, List.not_mem_nil, or_false] at hu
      rcases hu with rfl | rfl | rfl | rfl <;> rfl) (by unfold maxLen; omega) (by omega) (by simp)
    obtain ⟨a5, c5, rfl, _⟩ := own_form ho2
    have DONE := hide (((unhide RAW).trans (make_rawF (unhide RAW).1 ho2 hg2 ha2)).held (m := l.length + 1) (S1 := S.fresh.add dir.toNat name S.next) (unhide BB) (unhide HI) (unhide HTG) (by simp))
    have fv5 : W5.cell? ⟨b, 1, none⟩ = some (.slice fa S.next fc) := by
      rw [World.cell?_of_block (hg2.block b (Nat.lt_of_lt_of_le blt (by simp)) (fun e => (unhide RAW).1.offF e.symm)), World.cell?_of_block (heap_alloc_old _ _ blt)]; exact fv
    have fz5 : W5.frozen? ⟨b, 1, none⟩ = false := by
      refine frozen_of_row W5 b 1 #[.slice a' (l.length + 1) c', .slice fa S.next fc] 58 ?_
      rw [hg2.block b (Nat.lt_of_lt_of_le blt (by simp)) (fun e => (unhide RAW).1.offF e.symm), heap_alloc_old _ _ blt]
      exact (unhide RAW).1.root
    clear ho2 hg2 ha2
    go_wp2_with (at_builtin; refine Lib.wpList_append_run _ rfl _ _ _ _ rfl _ _ rfl rfl _ _ hrun ?_)
    go_ret
    exact ⟨rfl, unhide DONE⟩
  · rw [hlk] at a2; cases a2
end
end Idl
end Go.Proofs.Ytmhbphmdfnlmkaa
