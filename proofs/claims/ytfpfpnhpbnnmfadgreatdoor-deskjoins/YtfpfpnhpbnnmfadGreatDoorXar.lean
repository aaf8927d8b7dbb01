/-
  A region whose last operation stores where another one of it has loaded: the condition on the world is asked as long as that one has not come up.
-/
import Derived.Deep.RegionHeld
import Derived.Test.YtfpfpnhpbnnmfadGreatDoorXaq
namespace Go.Proofs.YtfpfpnhpbnnmfadGreatDoor
section
variable {P : Program} {ops : Array Oper} {Q : Exit → Act → World → Prop} {md : Region.Mode} {S : World → Prop} {f : Nat}
def wpAnyF (P : Program) (md : Region.Mode) (ops : Array Oper) (Q : Exit → Act → World → Prop) (S : World → Prop) (f : Nat) : Nat → Array Bool → Act → World → Prop
  | 0, listed, a, w => Region.ready md ops listed = [] ∧ Q .normal a w
  | fuel + 1, listed, a, w => (Region.ready md ops listed = [] → Q .normal a w) ∧
    ∀ i ∈ Region.ready md ops listed, wpOp P ops Q i (fun a' w' => ((listed.setIfInBounds i true).getD f true = false → S w') ∧ wpAnyF P md ops Q S f fuel (listed.setIfInBounds i true) a' w') a w
theorem wpAny_of_F : ∀ (fuel : Nat) (listed : Array Bool) (a : Act) (w : World), wpAnyF P md ops Q S f fuel listed a w → wpAny P md ops Q fuel listed a w
  | 0, _, _, _, h => h
  | fuel + 1, _, _, _, h => ⟨h.1, fun i hi => wpOp_mono (fun a' w' h' => wpAny_of_F fuel _ a' w' h'.2) (h.2 i hi)⟩
/-- the last one waits for it -/
def waits (md : Region.Mode) (ops : Array Oper) (f i : Nat) : Bool := match ops[f]? with | some o => o.after.any fun e => Region.binds md e && e.on == i | none => false
theorem waits_ready {i : Nat} {listed : Array Bool} (h : waits md ops f i = true) (hi : listed.getD i true = false) : f ∉ Region.ready md ops listed := fun hf => by
  obtain ⟨_, o, ho, hall⟩ := mem_ready.1 hf
  unfold waits at h
  rw [ho] at h
  simp only [Array.any_eq_true, Bool.and_eq_true, beq_iff_eq] at h
  obtain ⟨j, hj, hb, e⟩ := h
  have := hall _ (Array.getElem_mem hj) hb
  rw [e] at this
  rcases Nat.lt_or_ge i listed.size with h' | h'
  · simp [h'] at hi this; rw [hi] at this; cases this
  · simp [Array.getElem?_eq_none h'] at this
/-- what yields its value in every world that meets S, and is waited for by the last one -/
theorem wpAnyF_first {i : Nat} {oi : Oper} {v : Value} (hi : ops[i]? = some oi) (hsel : ∀ (j : Nat) (o : Oper) cs b, ops[j]? = some o → o.op ≠ .select cs b)
    (hQ : ∀ c a w, Q (.panic c) (a.put oi.dst v) w → Q (.panic c) a w) (hw : waits md ops f i = true) :
    ∀ (fuel : Nat) (listed : Array Bool) (a : Act) (w : World),
      (∀ j oj, ops[j]? = some oj → j ≠ i → listed.getD j true = false → (∀ e ∈ oj.after, Region.binds md e = true → e.on ≠ i) → oi.apart ops oj = true) →
      i ∈ Region.ready md ops listed → listed.getD f true = false → YieldsIf P ops S oi v a → S w →
      wpAnyF P md ops Q S f fuel (listed.setIfInBounds i true) (a.put oi.dst v) w → wpAnyF P md ops Q S f (fuel + 1) listed a w := by
  intro fuel
  induction fuel with
  | zero =>
    intro listed a w _ hr _ hy hS H
    refine ⟨fun h => (by rw [h] at hr; cases hr), fun j hj => ?_⟩
    by_cases hji : j = i
    · subst hji; exact hy.wpOp hi hS ⟨fun _ => hS, H⟩
    · have := ready_mono hj hji
      rw [H.1] at this
      cases this
  | succ fuel ih =>
    intro listed a w hfree hr hfl hy hS H
    refine ⟨fun h => (by rw [h] at hr; cases hr), fun j hj => ?_⟩
    by_cases hji : j = i
    · subst hji; exact hy.wpOp hi hS ⟨fun _ => hS, H⟩
    · have h1 := H.2 j (ready_mono hj hji)
      have hfr : f ∉ Region.ready md ops listed := waits_ready hw (mem_ready.1 hr).1
      have hjf : j ≠ f := fun e => hfr (by rw [← e]; exact hj)
      have hif : i ≠ f := fun e => hfr (by rw [← e]; exact hr)
      obtain ⟨hjun, oj, hoj, hall⟩ := mem_ready.1 hj
      have hnot : ∀ e ∈ oj.after, Region.binds md e = true → e.on ≠ i := fun e he hb heq => by
        have h1 := hall e he hb
        have h0 := (mem_ready.1 hr).1
        rw [heq] at h1
        rcases Nat.lt_or_ge i listed.size with h' | h'
        · simp [h'] at h0 h1; rw [h0] at h1; cases h1
        · simp [Array.getElem?_eq_none h'] at h1
      have h2 := wpOp_putIf hoj (hfree j oj hoj hji hjun hnot) (fun cs b => hsel i oi cs b hi) (fun cs b => hsel j oj cs b hoj) hQ hy h1
      have hfree' : ∀ k ok, ops[k]? = some ok → k ≠ i → (listed.setIfInBounds j true).getD k true = false →
          (∀ e ∈ ok.after, Region.binds md e = true → e.on ≠ i) → oi.apart ops ok = true := fun k ok hk hki hun hno => by
        refine hfree k ok hk hki ?_ hno
        by_cases hjk : j = k
        · subst hjk; exact hjun
        · rw [getD_set_ne true hjk] at hun; exact hun
      have hfl' : (listed.setIfInBounds j true).getD f true = false := by rw [getD_set_ne true hjf]; exact hfl
      have hfl2 : ((listed.setIfInBounds i true).setIfInBounds j true).getD f true = false := by rw [getD_set_ne true hjf, getD_set_ne true hif]; exact hfl
      refine wpOp_mono (fun a' w' h3 => ⟨fun _ => h3.2.1 hfl2, ih (listed.setIfInBounds j true) a' w' hfree' (ready_mono hr (Ne.symm hji)) hfl' h3.1 (h3.2.1 hfl2) ?_⟩) h2
      rw [Array.setIfInBounds_comm _ _ hji]
      exact h3.2.2
/-- what yields its value in every world -/
theorem wpAnyF_free1 {i : Nat} {oi : Oper} {v : Value} (hi : ops[i]? = some oi) (hsel : ∀ (j : Nat) (o : Oper) cs b, ops[j]? = some o → o.op ≠ .select cs b)
    (hQ : ∀ c a w, Q (.panic c) (a.put oi.dst v) w → Q (.panic c) a w) (hif : i ≠ f) :
    ∀ (fuel : Nat) (listed : Array Bool) (a : Act) (w : World),
      (∀ j oj, ops[j]? = some oj → j ≠ i → listed.getD j true = false → (∀ e ∈ oj.after, Region.binds md e = true → e.on ≠ i) → oi.apart ops oj = true) →
      i ∈ Region.ready md ops listed → YieldsIf P ops (fun _ => True) oi v a → (listed.getD f true = false → S w) →
      wpAnyF P md ops Q S f fuel (listed.setIfInBounds i true) (a.put oi.dst v) w → wpAnyF P md ops Q S f (fuel + 1) listed a w := by
  intro fuel
  induction fuel with
  | zero =>
    intro listed a w _ hr hy hS H
    refine ⟨fun h => (by rw [h] at hr; cases hr), fun j hj => ?_⟩
    by_cases hji : j = i
    · subst hji; exact hy.wpOp hi trivial ⟨fun h => hS (by rw [getD_set_ne true hif] at h; exact h), H⟩
    · have := ready_mono hj hji
      rw [H.1] at this
      cases this
  | succ fuel ih =>
    intro listed a w hfree hr hy hS H
    refine ⟨fun h => (by rw [h] at hr; cases hr), fun j hj => ?_⟩
    by_cases hji : j = i
    · subst hji; exact hy.wpOp hi trivial ⟨fun h => hS (by rw [getD_set_ne true hif] at h; exact h), H⟩
    · have h1 := H.2 j (ready_mono hj hji)
      obtain ⟨hjun, oj, hoj, hall⟩ := mem_ready.1 hj
      have hnot : ∀ e ∈ oj.after, Region.binds md e = true → e.on ≠ i := fun e he hb heq => by
        have h1 := hall e he hb
        have h0 := (mem_ready.1 hr).1
        rw [heq] at h1
        rcases Nat.lt_or_ge i listed.size with h' | h'
        · simp [h'] at h0 h1; rw [h0] at h1; cases h1
        · simp [Array.getElem?_eq_none h'] at h1
      have h2 := wpOp_putIf hoj (hfree j oj hoj hji hjun hnot) (fun cs b => hsel i oi cs b hi) (fun cs b => hsel j oj cs b hoj) hQ hy h1
      have hfree' : ∀ k ok, ops[k]? = some ok → k ≠ i → (listed.setIfInBounds j true).getD k true = false →
          (∀ e ∈ ok.after, Region.binds md e = true → e.on ≠ i) → oi.apart ops ok = true := fun k ok hk hki hun hno => by
        refine hfree k ok hk hki ?_ hno
        by_cases hjk : j = k
        · subst hjk; exact hjun
        · rw [getD_set_ne true hjk] at hun; exact hun
      have hcon : (listed.setIfInBounds j true).getD f true = false → ((listed.setIfInBounds i true).setIfInBounds j true).getD f true = false := fun h => by
        rw [Array.setIfInBounds_comm _ _ (Ne.symm hji), getD_set_ne true hif]; exact h
      refine wpOp_mono (fun a' w' h3 => ⟨fun h => h3.2.1 (hcon h), ih (listed.setIfInBounds j true) a' w' hfree' (ready_mono hr (Ne.symm hji)) h3.1 (fun h => h3.2.1 (hcon h)) ?_⟩) h2
      rw [Array.setIfInBounds_comm _ _ hji]
      exact h3.2.2
theorem wpAnyF_take {i : Nat} {oi : Oper} {v : Value} {fuel : Nat} {listed : Array Bool} {a : Act} {w : World} (hi : ops[i]? = some oi)
    (hs : Region.noSelect ops = true) (hf : Region.free md ops listed i = true) (hr : (Region.ready md ops listed).contains i = true) (hw : (waits md ops f i && !listed.getD f true) = true)
    (hQ : ∀ c a w, Q (.panic c) (a.put oi.dst v) w → Q (.panic c) a w) (hy : YieldsIf P ops S oi v a) (hS : S w)
    (h : wpAnyF P md ops Q S f fuel (listed.setIfInBounds i true) (a.put oi.dst v) w) : wpAnyF P md ops Q S f (fuel + 1) listed a w := by
  rw [Bool.and_eq_true, Bool.not_eq_true'] at hw
  exact wpAnyF_first hi (Region.noSelect_spec hs) hQ hw.1 fuel listed a w (Region.free_spec hi hf) (by simpa using hr) hw.2 hy hS h
theorem wpAnyF_free {i : Nat} {oi : Oper} {v : Value} {fuel : Nat} {listed : Array Bool} {a : Act} {w : World} (hi : ops[i]? = some oi)
    (hs : Region.noSelect ops = true) (hf : Region.free md ops listed i = true) (hr : (Region.ready md ops listed).contains i = true) (hw : (i == f) = false)
    (hQ : ∀ c a w, Q (.panic c) (a.put oi.dst v) w → Q (.panic c) a w) (hy : YieldsIf P ops (fun _ => True) oi v a) (hS : S w)
    (h : wpAnyF P md ops Q S f fuel (listed.setIfInBounds i true) (a.put oi.dst v) w) : wpAnyF P md ops Q S f (fuel + 1) listed a w :=
  wpAnyF_free1 hi (Region.noSelect_spec hs) hQ (by simpa using hw) fuel listed a w (Region.free_spec hi hf) (by simpa using hr) hy (fun _ => hS) h
/-- one alone may come up -/
theorem wpAnyF_one {i : Nat} {o : Oper} {fuel : Nat} {listed : Array Bool} {a : Act} {w : World} (hr : Region.ready md ops listed = [i]) (ho : ops[i]? = some o) (hwant : Region.wanted o (yielded ops a.tmps) = true)
    (h : ∀ K' : Act → World → Prop, Shut (∀ a w, ((listed.setIfInBounds i true).getD f true = false → S w) → wpAnyF P md ops Q S f fuel (listed.setIfInBounds i true) a w → K' a w) → Oper.wp P o a w K' Q) : wpAnyF P md ops Q S f (fuel + 1) listed a w := by
  refine ⟨fun h0 => (by rw [hr] at h0; cases h0), fun j hj => ?_⟩
  rw [hr, List.mem_singleton] at hj
  subst hj
  exact wpOp_step ho (fun K' hK => by rw [if_pos hwant]; exact h K' (fun a w hS hW => hK a w ⟨hS, hW⟩))
/-- the last one -/
theorem wpAnyF_last {o : Oper} {fuel : Nat} {listed : Array Bool} {a : Act} {w : World} (hr : Region.ready md ops listed = [f]) (ho : ops[f]? = some o) (hwant : Region.wanted o (yielded ops a.tmps) = true) (hz : (listed.setIfInBounds f true).getD f true = true)
    (h : ∀ K' : Act → World → Prop, Shut (∀ a w, wpAnyF P md ops Q S f fuel (listed.setIfInBounds f true) a w → K' a w) → Oper.wp P o a w K' Q) : wpAnyF P md ops Q S f (fuel + 1) listed a w :=
  wpAnyF_one hr ho hwant (fun K' hK => h K' (fun a w hW => hK.out a w (fun z => by rw [hz] at z; cases z) hW))
theorem wpAnyF_done {listed : Array Bool} {a : Act} {w : World} (hr : Region.ready md ops listed = []) (h : Q .normal a w) : ∀ fuel, wpAnyF P md ops Q S f fuel listed a w
  | 0 => ⟨hr, h⟩
  | _ + 1 => ⟨fun _ => h, by rw [hr]; simp⟩
theorem wp_region_F {id : Nat} {a : Act} {w : World} (f : Nat) (hm : P.follows .mixedOrders = true) (hS : S w.drew)
    (h : S w.drew → wpAnyF P .any ops Q S f ops.size (Array.replicate ops.size false) a w.drew) : (Code.region id ops true).wp P Q a w :=
  wp_region_any hm (wpAny_of_F _ _ _ _ (h hS))
end
end Go.Proofs.YtfpfpnhpbnnmfadGreatDoor
namespace Go.Proofs.YtfpfpnhpbnnmfadGreatDoor
open Go.RowKit
open Idl (Stp chk stpA)
namespace Op1
theorem ld_ptr {o : Oper} {ρ : Operand → Value} (x : Operand) (ho : o.op = .load 111 x) {g o0 : Nat} (hx : ρ x = .pointer (some ⟨g, o0, none⟩)) {p : Option Addr} (w : World) (h : w.cell? ⟨g, o0, none⟩ = some (.pointer p)) : (execOp ρ o).run Tryz.prog w = .ok (.value (.pointer p)) w := by
  unfold execOp
  rw [ho]
  go_simp
theorem ld_int {o : Oper} {ρ : Operand → Value} (x : Operand) (ho : o.op = .load 3 x) {g o0 : Nat} (hx : ρ x = .pointer (some ⟨g, o0, none⟩)) {v : Int} (w : World) (h : w.cell? ⟨g, o0, none⟩ = some (.int .i64 v)) : (execOp ρ o).run Tryz.prog w = .ok (.value (.int .i64 v)) w := by
  unfold execOp
  rw [ho]
  go_simp
theorem ld_str {o : Oper} {ρ : Operand → Value} (x : Operand) (ho : o.op = .load 9 x) {g o0 : Nat} (hx : ρ x = .pointer (some ⟨g, o0, none⟩)) {v : ByteArray} (w : World) (h : w.cell? ⟨g, o0, none⟩ = some (.string v)) : (execOp ρ o).run Tryz.prog w = .ok (.value (.string v)) w := by
  unfold execOp
  rw [ho]
  go_simp
theorem ix_ino {o : Oper} {ρ : Operand → Value} (x y : Operand) (ho : o.op = .indexAddr 69 x y) {g j : Nat} (hx : ρ x = .pointer (some ⟨g, 0, none⟩)) (hy : ρ y = .int .i64 ((j : Nat) : Int)) (hj : j < 8) (w : World) : (execOp ρ o).run Tryz.prog w = .ok (.value (.pointer (some ⟨g, j * 5, none⟩))) w := by
  have jz : (j : Int) < 8 := by omega
  unfold execOp
  rw [ho]
  go_simp
theorem ix_part {o : Oper} {ρ : Operand → Value} (x y : Operand) (ho : o.op = .indexAddr 66 x y) {g o0 j : Nat} (hx : ρ x = .pointer (some ⟨g, o0, none⟩)) (hy : ρ y = .int .i64 ((j : Nat) : Int)) (hj : j < 2) (w : World) : (execOp ρ o).run Tryz.prog w = .ok (.value (.pointer (some ⟨g, o0 + j, none⟩))) w := by
  have jz : (j : Int) < 2 := by omega
  unfold execOp
  rw [ho]
  go_simp
theorem ix_dir {o : Oper} {ρ : Operand → Value} (x y : Operand) (ho : o.op = .indexAddr 73 x y) {g o0 j : Nat} (hx : ρ x = .pointer (some ⟨g, o0, none⟩)) (hy : ρ y = .int .i64 ((j : Nat) : Int)) (hj : j < 3) (w : World) : (execOp ρ o).run Tryz.prog w = .ok (.value (.pointer (some ⟨g, o0 + j * 12, none⟩))) w := by
  have jz : (j : Int) < 3 := by omega
  unfold execOp
  rw [ho]
  go_simp
theorem ix_slot {o : Oper} {ρ : Operand → Value} (x y : Operand) (ho : o.op = .indexAddr 72 x y) {g o0 j : Nat} (hx : ρ x = .pointer (some ⟨g, o0, none⟩)) (hy : ρ y = .int .i64 ((j : Nat) : Int)) (hj : j < 4) (w : World) : (execOp ρ o).run Tryz.prog w = .ok (.value (.pointer (some ⟨g, o0 + j * 3, none⟩))) w := by
  have jz : (j : Int) < 4 := by omega
  unfold execOp
  rw [ho]
  go_simp
theorem ix_data {o : Oper} {ρ : Operand → Value} (x y : Operand) (ho : o.op = .indexAddr 76 x y) {g o0 j : Nat} (hx : ρ x = .pointer (some ⟨g, o0, none⟩)) (hy : ρ y = .int .i64 ((j : Nat) : Int)) (hj : j < 9) (w : World) : (execOp ρ o).run Tryz.prog w = .ok (.value (.pointer (some ⟨g, o0 + j * 2, none⟩))) w := by
  have jz : (j : Int) < 9 := by omega
  unfold execOp
  rw [ho]
  go_simp
theorem lss0 {o : Oper} {ρ : Operand → Value} (x : Operand) (ho : o.op = .binOp .lss 3 x (.const (.int .i64 0)) 3) {v : Int} (hx : ρ x = .int .i64 v) (hy : ρ (.const (.int .i64 0)) = .int .i64 0) (w : World) : (execOp ρ o).run Tryz.prog w = .ok (.value (.bool (decide (v < 0)))) w := by
  unfold execOp
  rw [ho]
  go_simp
theorem sub1 {o : Oper} {ρ : Operand → Value} (x : Operand) (ho : o.op = .binOp .sub 3 x (.const (.int .i64 1)) 3) {v : Int} (hx : ρ x = .int .i64 v) (hy : ρ (.const (.int .i64 1)) = .int .i64 1) (hv : -9223372036854775808 ≤ v - 1 ∧ v - 1 ≤ 9223372036854775807) (w : World) : (execOp ρ o).run Tryz.prog w = .ok (.value (.int .i64 (v - 1))) w := by
  have hw : IntKind.i64.wrap (v - 1) = v - 1 := IntWalk.i64_in _ hv
  unfold execOp
  rw [ho]
  go_simp
/-- a store of one cell -/
theorem st_int {o : Oper} {a : Act} {K : Act → World → Prop} {Q : Exit → Act → World → Prop} {W : World} (x y : Operand) (ho : o.op = .store 3 x y) (hd : o.dst = none) {g o0 : Nat} {v : Int} (hx : a.eval x = .pointer (some ⟨g, o0, none⟩)) (hy : a.eval y = .int .i64 v) {u : Value} (hc : W.cell? ⟨g, o0, none⟩ = some u) (hf : W.frozen? ⟨g, o0, none⟩ = false)
    (h : K a (W.setCell ⟨g, o0, none⟩ (.int .i64 v))) : o.wp Tryz.prog a W K Q := by
  unfold Oper.wp execOp
  simp only [ho, hx, hy]
  go_simp
  exact h
theorem st_bool {o : Oper} {a : Act} {K : Act → World → Prop} {Q : Exit → Act → World → Prop} {W : World} (x y : Operand) (ho : o.op = .store 4 x y) (hd : o.dst = none) {g o0 : Nat} {v : Bool} (hx : a.eval x = .pointer (some ⟨g, o0, none⟩)) (hy : a.eval y = .bool v) {u : Value} (hc : W.cell? ⟨g, o0, none⟩ = some u) (hf : W.frozen? ⟨g, o0, none⟩ = false)
    (h : K a (W.setCell ⟨g, o0, none⟩ (.bool v))) : o.wp Tryz.prog a W K Q := by
  unfold Oper.wp execOp
  simp only [ho, hx, hy]
  go_simp
  exact h
/-- a store of a part of a row -/
theorem st_part {P : Program} {o : Oper} {a : Act} {K : Act → World → Prop} {Q : Exit → Act → World → Prop} {W : World} (ty : TypeId) (x y : Operand) (ho : o.op = .store ty x y) (hd : o.dst = none) {g o0 : Nat} {cells : Array Value} (hx : a.eval x = .pointer (some ⟨g, o0, none⟩)) (hy : a.eval y = .agg cells)
    {t : TypeId} {old : Array Value} (hg : W.heap[g]? = some (.cells old t (0, 0))) (hi : (P.info? ty).map (·.size) = some cells.size) (hold : o0 + cells.size ≤ old.size) (h1 : cells.all (·.oneCell') = true)
    (h : K a (W.setRow g (splice old o0 cells))) : o.wp P a W K Q := by
  unfold Oper.wp execOp
  simp only [ho, hx, hy, Instr.storeAt, Instr.sureAddr, Sem.run_bind, Sem.run_pure, Result.andThen_ok, run_storeVar_part W g o0 t ty old cells hg hi hold h1]
  show Oper.upon P o a K Q _
  unfold Oper.upon
  first
    | exact .inl (by rw [hd]; exact h)
    | (simp only [hd]; exact .inl h)
    | (rw [hd]; exact h)
end Op1
end Go.Proofs.YtfpfpnhpbnnmfadGreatDoor
