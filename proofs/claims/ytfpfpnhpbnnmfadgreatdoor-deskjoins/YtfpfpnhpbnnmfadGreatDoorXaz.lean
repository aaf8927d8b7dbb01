/-
  The walk of (*soft.Files).Sure. (Written by gends.py.)
-/
import Derived.Test.YtfpfpnhpbnnmfadGreatDoorXay
namespace Go.Proofs.YtfpfpnhpbnnmfadGreatDoor
open Go.RowKit
open Idl (Stp chk stpA)
theorem fld0 (ds : Array Value) (w : World) : (Instr.field 78 (.agg ds) 1).run Tryz.prog w = .ok (.agg (ds.extract 40 (40 + 36))) w := by kernel_rfl
theorem ixd0 (ds : Array Value) (j : Nat) (hj : j < 3) (w : World) : (Instr.index 73 (.agg ds) (.int .i64 (j : Int))).run Tryz.prog w = .ok (.agg (ds.extract (j * 12) (j * 12 + 12))) w :=
  match j, hj with
  | 0, _ => by kernel_rfl
  | 1, _ => by kernel_rfl
  | 2, _ => by kernel_rfl
theorem ixs0 (ds : Array Value) (j : Nat) (hj : j < 4) (w : World) : (Instr.index 72 (.agg ds) (.int .i64 (j : Int))).run Tryz.prog w = .ok (.agg (ds.extract (j * 3) (j * 3 + 3))) w :=
  match j, hj with
  | 0, _ => by kernel_rfl
  | 1, _ => by kernel_rfl
  | 2, _ => by kernel_rfl
  | 3, _ => by kernel_rfl
namespace Op1
theorem fld_dir {o : Oper} {ρ : Operand → Value} (x : Operand) (ho : o.op = .field 78 x 1) {ds : Array Value} (hx : ρ x = .agg ds) (w : World) : (execOp ρ o).run Tryz.prog w = .ok (.value (.agg (ds.extract 40 (40 + 36)))) w := by
  have q := fld0 ds w
  unfold execOp
  rw [ho]
  simp only [hx, Sem.run_bind, q, Result.andThen_ok, Sem.run_pure]
theorem iv_dir {o : Oper} {ρ : Operand → Value} (x y : Operand) (ho : o.op = .index 73 x y) {ds : Array Value} {j : Nat} (hx : ρ x = .agg ds) (hy : ρ y = .int .i64 (j : Int)) (hj : j < 3) (w : World) : (execOp ρ o).run Tryz.prog w = .ok (.value (.agg (ds.extract (j * 12) (j * 12 + 12)))) w := by
  have q := ixd0 ds j hj w
  unfold execOp
  rw [ho]
  simp only [hx, hy, Sem.run_bind, q, Result.andThen_ok, Sem.run_pure]
theorem iv_slot {o : Oper} {ρ : Operand → Value} (x y : Operand) (ho : o.op = .index 72 x y) {ds : Array Value} {j : Nat} (hx : ρ x = .agg ds) (hy : ρ y = .int .i64 (j : Int)) (hj : j < 4) (w : World) : (execOp ρ o).run Tryz.prog w = .ok (.value (.agg (ds.extract (j * 3) (j * 3 + 3)))) w := by
  have q := ixs0 ds j hj w
  unfold execOp
  rw [ho]
  simp only [hx, hy, Sem.run_bind, q, Result.andThen_ok, Sem.run_pure]
theorem geq0 {o : Oper} {ρ : Operand → Value} (x : Operand) (ho : o.op = .binOp .geq 3 x (.const (.int .i64 0)) 3) {v : Int} (hx : ρ x = .int .i64 v) (hy : ρ (.const (.int .i64 0)) = .int .i64 0) (w : World) : (execOp ρ o).run Tryz.prog w = .ok (.value (.bool (decide (0 ≤ v)))) w := by
  unfold execOp
  rw [ho]
  go_simp
theorem ld_ent {o : Oper} {ρ : Operand → Value} (x : Operand) (ho : o.op = .load 71 x) {g o0 : Nat} (hx : ρ x = .pointer (some ⟨g, o0, none⟩)) {s : ByteArray} {a b : Int} (w : World) (c0 : w.cell? ⟨g, o0, none⟩ = some (.string s)) (c1 : w.cell? ⟨g, o0 + 1, none⟩ = some (.int .i64 a)) (c2 : w.cell? ⟨g, o0 + 2, none⟩ = some (.int .i64 b)) : (execOp ρ o).run Tryz.prog w = .ok (.value (.agg #[.string s, .int .i64 a, .int .i64 b])) w := by
  unfold execOp
  rw [ho]
  go_simp
theorem eq_ent {o : Oper} {ρ : Operand → Value} (x y : Operand) (ho : o.op = .binOp .eql 71 x y 71) {na : ByteArray} {ia sa : Int} {nb : ByteArray} {ib sb : Int} (hx : ρ x = .agg #[.string na, .int .i64 ia, .int .i64 sa]) (hy : ρ y = .agg #[.string nb, .int .i64 ib, .int .i64 sb]) (w : World) : (execOp ρ o).run Tryz.prog w = .ok (.value (.bool (na.toList == nb.toList && ia == ib && sa == sb))) w :=
  run_exec_eql 71 71 x y ho _ _ hx hy _ (by kernel_rfl) (fun w => eqEnt na ia sa nb ib sb w) w
end Op1
theorem ent_cells {ds : Array Value} {k : Img} (h : IsImg ds k) {d s : Nat} (hd : d < 3) (hs : s < 4) : ((ds.extract 40 (40 + 36)).extract (d * 12) (d * 12 + 12)).extract (s * 3) (s * 3 + 3) = #[.string (k.name d s), .int .i64 (k.ino d s), .int .i64 (k.est d s)] := by
  have hz := h.size
  have h0 := h.name d s hd hs
  have h1 := h.ino d s hd hs
  have h2 := h.est d s hd hs
  refine Array.ext_getElem? fun i => ?_
  rw [Array.getElem?_extract, Array.getElem?_extract, Array.getElem?_extract]
  simp only [Array.size_extract, hz]
  by_cases hi : i < 3
  · rw [if_pos (by omega), if_pos (by omega), if_pos (by omega)]
    have : i = 0 ∨ i = 1 ∨ i = 2 := by omega
    rcases this with rfl | rfl | rfl
    · rw [show 40 + (d * 12 + (s * 3 + 0)) = 40 + d * 12 + s * 3 by omega, h0]; rfl
    · rw [show 40 + (d * 12 + (s * 3 + 1)) = 40 + d * 12 + s * 3 + 1 by omega, h1]; rfl
    · rw [show 40 + (d * 12 + (s * 3 + 2)) = 40 + d * 12 + s * 3 + 2 by omega, h2]; rfl
  · rw [if_neg (by omega)]
    simp; omega
def Img.ssure (m k : Img) (d : Int) (s : ByteArray) : Bool := decide (0 ≤ m.findAt d s.toList) && Img.sameEnt m k d.toNat (m.findAt d s.toList).toNat
section
variable {w : World} {bf bc : Nat} {cs ds : Array Value} {m k : Img} {last : Int}
set_option maxHeartbeats 2000000 in
set_option maxRecDepth 100000 in
theorem sSure_any (h : Fl w bf bc cs ds m k last) (d : Int) (s : ByteArray) :
    Calls Tryz.prog 58 #[.pointer (some ⟨bf, 0, none⟩), .int .i64 d, .string s] w fun e w' => e = .returned (.bool (Img.ssure m k d s)) ∧ Below w.heap.size w w' := by
  have C1 := hide (At.find_any bc m d s w h.hasNow)
  have HFL := hide h
  have p0 := h.ptr
  have l0 := h.flt
  have l1 := h.clt
  have BD := hide ((Below.refl w.heap.size w).drew)
  have SD := hide (show PS2 bf bc m w.drew from ⟨(h.below (unhide BD)).ptr, (h.below (unhide BD)).hasNow⟩)
  by_cases hf : m.findAt d s.toList < 0
  · have e1 : Img.ssure m k d s = false := by unfold Img.ssure; rw [show decide (0 ≤ m.findAt d s.toList) = false by simp; omega]; rfl
    rw [e1]
    have u1 : decide (0 ≤ m.findAt d s.toList) = false := by simp; omega
    have U1 := hide u1
    generalize m.findAt d s.toList = v at C1 U1
    clear hf h e1 u1
    go_enter Tryz.func58, Tryz.ntmps58
    go_wp2_with fail
    refine (unhide C1).mono ?_
    rintro e wq ⟨rfl, e9⟩
    rw [e9]
    clear e9 wq p0 l0 l1
    go_wp2_with fail
    refine wp_region_held_drew (S := PS2 bf bc m) (by kernel_rfl) (unhide SD) (fun hS => ?_)
    refine wpAnyH_take (i := 0) (oi := { dst := some 17, op := Op.move (Operand.tmp 7), type := 3, pos := "soft.go:99", after := #[], guard := none }) (v := .int .i64 v) rfl (by kernel_rfl) (by kernel_rfl) (by kernel_rfl) (fun _ _ _ h => h) (Or.inl ⟨by kernel_rfl, fun W h => (by first | kernel_rfl | go_simp)⟩) hS ?_
    try simp only [Act.put, List.setIfInBounds_toArray, List.set_cons_zero, List.set_cons_succ]
    refine wpAnyH_take (i := 1) (oi := { dst := some 18, op := Op.binOp BinOp.geq 3 (Operand.tmp 17) (Operand.const (Value.int IntKind.i64 0)) 3, type := 4, pos := "soft.go:99", after := #[{ on := 0, ground := Ground.data }], guard := none }) (v := .bool false) rfl (by kernel_rfl) (by kernel_rfl) (by kernel_rfl) (fun _ _ _ h => h) (Or.inl ⟨by kernel_rfl, fun W h => (by rw [← unhide U1]; exact Op1.geq0 (.tmp 17) (by kernel_rfl) (by kernel_rfl) (by kernel_rfl) W)⟩) hS ?_
    try simp only [Act.put, List.setIfInBounds_toArray, List.set_cons_zero, List.set_cons_succ]
    refine wpAnyH_take (i := 2) (oi := { dst := some 19, op := Op.move (Operand.tmp 18), type := 4, pos := "soft.go:99", after := #[{ on := 1, ground := Ground.data }], guard := none }) (v := .bool false) rfl (by kernel_rfl) (by kernel_rfl) (by kernel_rfl) (fun _ _ _ h => h) (Or.inl ⟨by kernel_rfl, fun W h => (by first | kernel_rfl | go_simp)⟩) hS ?_
    try simp only [Act.put, List.setIfInBounds_toArray, List.set_cons_zero, List.set_cons_succ]
    refine wpAnyH_take (i := 3) (oi := { dst := some 20, op := Op.move (Operand.tmp 0), type := 60, pos := "soft.go:99", after := #[{ on := 2, ground := Ground.guard }], guard := some (2, true) }) (v := undef) rfl (by kernel_rfl) (by kernel_rfl) (by kernel_rfl) (fun _ _ _ h => h) (Or.inr ⟨by kernel_rfl, rfl⟩) hS ?_
    try simp only [Act.put, List.setIfInBounds_toArray, List.set_cons_zero, List.set_cons_succ]
    refine wpAnyH_take (i := 4) (oi := { dst := some 21, op := Op.nilCheck (Operand.tmp 20), type := 0, pos := "soft.go:99", after := #[{ on := 3, ground := Ground.data }, { on := 2, ground := Ground.guard }], guard := some (2, true) }) (v := undef) rfl (by kernel_rfl) (by kernel_rfl) (by kernel_rfl) (fun _ _ _ h => h) (Or.inr ⟨by kernel_rfl, rfl⟩) hS ?_
    try simp only [Act.put, List.setIfInBounds_toArray, List.set_cons_zero, List.set_cons_succ]
    refine wpAnyH_take (i := 5) (oi := { dst := some 22, op := Op.fieldAddr 114 (Operand.tmp 21) 0, type := 0, pos := "soft.go:99", after := #[{ on := 4, ground := Ground.data }, { on := 2, ground := Ground.guard }], guard := some (2, true) }) (v := undef) rfl (by kernel_rfl) (by kernel_rfl) (by kernel_rfl) (fun _ _ _ h => h) (Or.inr ⟨by kernel_rfl, rfl⟩) hS ?_
    try simp only [Act.put, List.setIfInBounds_toArray, List.set_cons_zero, List.set_cons_succ]
    refine wpAnyH_take (i := 6) (oi := { dst := some 23, op := Op.load 111 (Operand.tmp 22), type := 111, pos := "soft.go:99", after := #[{ on := 5, ground := Ground.data }, { on := 2, ground := Ground.guard }], guard := some (2, true) }) (v := undef) rfl (by kernel_rfl) (by kernel_rfl) (by kernel_rfl) (fun _ _ _ h => h) (Or.inr ⟨by kernel_rfl, rfl⟩) hS ?_
    try simp only [Act.put, List.setIfInBounds_toArray, List.set_cons_zero, List.set_cons_succ]
    refine wpAnyH_take (i := 7) (oi := { dst := some 24, op := Op.move (Operand.tmp 1), type := 3, pos := "soft.go:99", after := #[{ on := 2, ground := Ground.guard }], guard := some (2, true) }) (v := undef) rfl (by kernel_rfl) (by kernel_rfl) (by kernel_rfl) (fun _ _ _ h => h) (Or.inr ⟨by kernel_rfl, rfl⟩) hS ?_
    try simp only [Act.put, List.setIfInBounds_toArray, List.set_cons_zero, List.set_cons_succ]
    refine wpAnyH_take (i := 8) (oi := { dst := some 25, op := Op.move (Operand.tmp 7), type := 3, pos := "soft.go:99", after := #[{ on := 2, ground := Ground.guard }], guard := some (2, true) }) (v := undef) rfl (by kernel_rfl) (by kernel_rfl) (by kernel_rfl) (fun _ _ _ h => h) (Or.inr ⟨by kernel_rfl, rfl⟩) hS ?_
    try simp only [Act.put, List.setIfInBounds_toArray, List.set_cons_zero, List.set_cons_succ]
    refine wpAnyH_take (i := 9) (oi := { dst := some 26, op := Op.nilCheck (Operand.tmp 23), type := 0, pos := "soft.go:99", after := #[{ on := 6, ground := Ground.data }, { on := 2, ground := Ground.guard }], guard := some (2, true) }) (v := undef) rfl (by kernel_rfl) (by kernel_rfl) (by kernel_rfl) (fun _ _ _ h => h) (Or.inr ⟨by kernel_rfl, rfl⟩) hS ?_
    try simp only [Act.put, List.setIfInBounds_toArray, List.set_cons_zero, List.set_cons_succ]
    refine wpAnyH_take (i := 10) (oi := { dst := some 27, op := Op.fieldAddr 141 (Operand.tmp 26) 0, type := 0, pos := "soft.go:99", after := #[{ on := 9, ground := Ground.data }, { on := 2, ground := Ground.guard }], guard := some (2, true) }) (v := undef) rfl (by kernel_rfl) (by kernel_rfl) (by kernel_rfl) (fun _ _ _ h => h) (Or.inr ⟨by kernel_rfl, rfl⟩) hS ?_
    try simp only [Act.put, List.setIfInBounds_toArray, List.set_cons_zero, List.set_cons_succ]
    refine wpAnyH_take (i := 11) (oi := { dst := some 28, op := Op.fieldAddr 78 (Operand.tmp 27) 1, type := 0, pos := "soft.go:99", after := #[{ on := 10, ground := Ground.data }, { on := 2, ground := Ground.guard }], guard := some (2, true) }) (v := undef) rfl (by kernel_rfl) (by kernel_rfl) (by kernel_rfl) (fun _ _ _ h => h) (Or.inr ⟨by kernel_rfl, rfl⟩) hS ?_
    try simp only [Act.put, List.setIfInBounds_toArray, List.set_cons_zero, List.set_cons_succ]
    refine wpAnyH_take (i := 12) (oi := { dst := some 29, op := Op.indexAddr 73 (Operand.tmp 28) (Operand.tmp 24), type := 0, pos := "soft.go:99", after := #[{ on := 11, ground := Ground.data }, { on := 7, ground := Ground.data }, { on := 2, ground := Ground.guard }], guard := some (2, true) }) (v := undef) rfl (by kernel_rfl) (by kernel_rfl) (by kernel_rfl) (fun _ _ _ h => h) (Or.inr ⟨by kernel_rfl, rfl⟩) hS ?_
    try simp only [Act.put, List.setIfInBounds_toArray, List.set_cons_zero, List.set_cons_succ]
    refine wpAnyH_take (i := 13) (oi := { dst := some 30, op := Op.indexAddr 72 (Operand.tmp 29) (Operand.tmp 25), type := 0, pos := "soft.go:99", after := #[{ on := 12, ground := Ground.data }, { on := 8, ground := Ground.data }, { on := 2, ground := Ground.guard }], guard := some (2, true) }) (v := undef) rfl (by kernel_rfl) (by kernel_rfl) (by kernel_rfl) (fun _ _ _ h => h) (Or.inr ⟨by kernel_rfl, rfl⟩) hS ?_
    try simp only [Act.put, List.setIfInBounds_toArray, List.set_cons_zero, List.set_cons_succ]
    refine wpAnyH_take (i := 14) (oi := { dst := some 31, op := Op.load 71 (Operand.tmp 30), type := 71, pos := "soft.go:99", after := #[{ on := 13, ground := Ground.data }, { on := 2, ground := Ground.guard }], guard := some (2, true) }) (v := undef) rfl (by kernel_rfl) (by kernel_rfl) (by kernel_rfl) (fun _ _ _ h => h) (Or.inr ⟨by kernel_rfl, rfl⟩) hS ?_
    try simp only [Act.put, List.setIfInBounds_toArray, List.set_cons_zero, List.set_cons_succ]
    refine wpAnyH_take (i := 15) (oi := { dst := some 32, op := Op.move (Operand.tmp 0), type := 60, pos := "soft.go:99", after := #[{ on := 2, ground := Ground.guard }], guard := some (2, true) }) (v := undef) rfl (by kernel_rfl) (by kernel_rfl) (by kernel_rfl) (fun _ _ _ h => h) (Or.inr ⟨by kernel_rfl, rfl⟩) hS ?_
    try simp only [Act.put, List.setIfInBounds_toArray, List.set_cons_zero, List.set_cons_succ]
    refine wpAnyH_take (i := 16) (oi := { dst := some 33, op := Op.nilCheck (Operand.tmp 32), type := 0, pos := "soft.go:99", after := #[{ on := 15, ground := Ground.data }, { on := 2, ground := Ground.guard }], guard := some (2, true) }) (v := undef) rfl (by kernel_rfl) (by kernel_rfl) (by kernel_rfl) (fun _ _ _ h => h) (Or.inr ⟨by kernel_rfl, rfl⟩) hS ?_
    try simp only [Act.put, List.setIfInBounds_toArray, List.set_cons_zero, List.set_cons_succ]
    refine wpAnyH_take (i := 17) (oi := { dst := some 34, op := Op.fieldAddr 114 (Operand.tmp 33) 0, type := 0, pos := "soft.go:99", after := #[{ on := 16, ground := Ground.data }, { on := 2, ground := Ground.guard }], guard := some (2, true) }) (v := undef) rfl (by kernel_rfl) (by kernel_rfl) (by kernel_rfl) (fun _ _ _ h => h) (Or.inr ⟨by kernel_rfl, rfl⟩) hS ?_
    try simp only [Act.put, List.setIfInBounds_toArray, List.set_cons_zero, List.set_cons_succ]
    refine wpAnyH_take (i := 18) (oi := { dst := some 35, op := Op.load 111 (Operand.tmp 34), type := 111, pos := "soft.go:99", after := #[{ on := 17, ground := Ground.data }, { on := 2, ground := Ground.guard }], guard := some (2, true) }) (v := undef) rfl (by kernel_rfl) (by kernel_rfl) (by kernel_rfl) (fun _ _ _ h => h) (Or.inr ⟨by kernel_rfl, rfl⟩) hS ?_
    try simp only [Act.put, List.setIfInBounds_toArray, List.set_cons_zero, List.set_cons_succ]
    refine wpAnyH_take (i := 19) (oi := { dst := some 36, op := Op.call { callee := Callee.value (Operand.func 59), args := #[Operand.tmp 35], argTypes := #[111] }, type := 78, pos := "soft.go:99", after := #[{ on := 18, ground := Ground.data }, { on := 2, ground := Ground.chain }, { on := 2, ground := Ground.guard }], guard := some (2, true) }) (v := undef) rfl (by kernel_rfl) (by kernel_rfl) (by kernel_rfl) (fun _ _ _ h => h) (Or.inr ⟨by kernel_rfl, rfl⟩) hS ?_
    try simp only [Act.put, List.setIfInBounds_toArray, List.set_cons_zero, List.set_cons_succ]
    refine wpAnyH_take (i := 20) (oi := { dst := some 37, op := Op.field 78 (Operand.tmp 36) 1, type := 73, pos := "soft.go:99", after := #[{ on := 19, ground := Ground.data }, { on := 2, ground := Ground.guard }], guard := some (2, true) }) (v := undef) rfl (by kernel_rfl) (by kernel_rfl) (by kernel_rfl) (fun _ _ _ h => h) (Or.inr ⟨by kernel_rfl, rfl⟩) hS ?_
    try simp only [Act.put, List.setIfInBounds_toArray, List.set_cons_zero, List.set_cons_succ]
    refine wpAnyH_take (i := 21) (oi := { dst := some 38, op := Op.move (Operand.tmp 1), type := 3, pos := "soft.go:99", after := #[{ on := 2, ground := Ground.guard }], guard := some (2, true) }) (v := undef) rfl (by kernel_rfl) (by kernel_rfl) (by kernel_rfl) (fun _ _ _ h => h) (Or.inr ⟨by kernel_rfl, rfl⟩) hS ?_
    try simp only [Act.put, List.setIfInBounds_toArray, List.set_cons_zero, List.set_cons_succ]
    refine wpAnyH_take (i := 22) (oi := { dst := some 39, op := Op.index 73 (Operand.tmp 37) (Operand.tmp 38), type := 72, pos := "soft.go:99", after := #[{ on := 20, ground := Ground.data }, { on := 21, ground := Ground.data }, { on := 2, ground := Ground.guard }], guard := some (2, true) }) (v := undef) rfl (by kernel_rfl) (by kernel_rfl) (by kernel_rfl) (fun _ _ _ h => h) (Or.inr ⟨by kernel_rfl, rfl⟩) hS ?_
    try simp only [Act.put, List.setIfInBounds_toArray, List.set_cons_zero, List.set_cons_succ]
    refine wpAnyH_take (i := 23) (oi := { dst := some 40, op := Op.move (Operand.tmp 7), type := 3, pos := "soft.go:99", after := #[{ on := 2, ground := Ground.guard }], guard := some (2, true) }) (v := undef) rfl (by kernel_rfl) (by kernel_rfl) (by kernel_rfl) (fun _ _ _ h => h) (Or.inr ⟨by kernel_rfl, rfl⟩) hS ?_
    try simp only [Act.put, List.setIfInBounds_toArray, List.set_cons_zero, List.set_cons_succ]
    refine wpAnyH_take (i := 24) (oi := { dst := some 41, op := Op.index 72 (Operand.tmp 39) (Operand.tmp 40), type := 71, pos := "soft.go:99", after := #[{ on := 22, ground := Ground.data }, { on := 23, ground := Ground.data }, { on := 2, ground := Ground.guard }], guard := some (2, true) }) (v := undef) rfl (by kernel_rfl) (by kernel_rfl) (by kernel_rfl) (fun _ _ _ h => h) (Or.inr ⟨by kernel_rfl, rfl⟩) hS ?_
    try simp only [Act.put, List.setIfInBounds_toArray, List.set_cons_zero, List.set_cons_succ]
    refine wpAnyH_take (i := 25) (oi := { dst := some 42, op := Op.binOp BinOp.eql 71 (Operand.tmp 31) (Operand.tmp 41) 71, type := 4, pos := "soft.go:99", after := #[{ on := 14, ground := Ground.data }, { on := 24, ground := Ground.data }, { on := 2, ground := Ground.guard }], guard := some (2, true) }) (v := undef) rfl (by kernel_rfl) (by kernel_rfl) (by kernel_rfl) (fun _ _ _ h => h) (Or.inr ⟨by kernel_rfl, rfl⟩) hS ?_
    try simp only [Act.put, List.setIfInBounds_toArray, List.set_cons_zero, List.set_cons_succ]
    refine wpAnyH_take (i := 26) (oi := { dst := some 43, op := Op.pick (Operand.tmp 19) (Operand.tmp 42) (Operand.const (Value.bool false)), type := 4, pos := "soft.go:99", after := #[{ on := 2, ground := Ground.data }, { on := 25, ground := Ground.data }], guard := none }) (v := .bool false) rfl (by kernel_rfl) (by kernel_rfl) (by kernel_rfl) (fun _ _ _ h => h) (Or.inl ⟨by kernel_rfl, fun W h => (by first | kernel_rfl | go_simp)⟩) hS ?_
    try simp only [Act.put, List.setIfInBounds_toArray, List.set_cons_zero, List.set_cons_succ]
    refine wpAnyH_take (i := 27) (oi := { dst := some 6, op := Op.assign (Operand.tmp 43), type := 4, pos := "soft.go:99", after := #[{ on := 26, ground := Ground.data }, { on := 19, ground := Ground.chain }, { on := 0, ground := Ground.phase }, { on := 1, ground := Ground.phase }, { on := 2, ground := Ground.phase }, { on := 3, ground := Ground.phase }, { on := 4, ground := Ground.phase }, { on := 5, ground := Ground.phase }, { on := 6, ground := Ground.phase }, { on := 7, ground := Ground.phase }, { on := 8, ground := Ground.phase }, { on := 9, ground := Ground.phase }, { on := 10, ground := Ground.phase }, { on := 11, ground := Ground.phase }, { on := 12, ground := Ground.phase }, { on := 13, ground := Ground.phase }, { on := 14, ground := Ground.phase }, { on := 15, ground := Ground.phase }, { on := 16, ground := Ground.phase }, { on := 17, ground := Ground.phase }, { on := 18, ground := Ground.phase }, { on := 19, ground := Ground.phase }, { on := 20, ground := Ground.phase }, { on := 21, ground := Ground.phase }, { on := 22, ground := Ground.phase }, { on := 23, ground := Ground.phase }, { on := 24, ground := Ground.phase }, { on := 25, ground := Ground.phase }, { on := 26, ground := Ground.phase }], guard := none }) (v := .bool false) rfl (by kernel_rfl) (by kernel_rfl) (by kernel_rfl) (fun _ _ _ h => h) (Or.inl ⟨by kernel_rfl, fun W h => (by first | kernel_rfl | go_simp)⟩) hS ?_
    try simp only [Act.put, List.setIfInBounds_toArray, List.set_cons_zero, List.set_cons_succ]
    refine wpAnyH_done (by kernel_rfl) ?_ _
    clear hS
    go_wp2_with fail
    go_ret
    exact ⟨rfl, unhide BD⟩
  · obtain ⟨⟨d0, d3⟩, _, j, hj, e1, _, _⟩ := Img.findAt_some (Int.not_lt.1 hf)
    obtain ⟨dd, rfl⟩ := Int.eq_ofNat_of_zero_le d0
    have hd : dd < 3 := by omega
    have e2 : Img.ssure m k (dd : Int) s = ((m.name dd j).toList == (k.name dd j).toList && m.ino dd j == k.ino dd j && m.est dd j == k.est dd j) := by unfold Img.ssure; rw [e1, Int.toNat_natCast, Int.toNat_natCast, show decide (0 ≤ (j : Int)) = true by simp]; rfl
    rw [e2]
    rw [e1] at C1
    have HK := hide (ent_cells h.disk hd hj)
    have C2 := hide fun W (bW : Below w.heap.size w W) => disk_any bc cs ds m k h.now h.disk W (h.below bW).row
    have U1 := hide (show decide (0 ≤ (j : Int)) = true by simp)
    clear hf h e1 e2 d0 d3
    go_enter Tryz.func58, Tryz.ntmps58
    go_wp2_with fail
    refine (unhide C1).mono ?_
    rintro e wq ⟨rfl, e9⟩
    rw [e9]
    clear e9 wq p0 l0 l1
    go_wp2_with fail
    refine wp_region_held_drew (S := PS2 bf bc m) (by kernel_rfl) (unhide SD) (fun hS => ?_)
    refine wpAnyH_take (i := 0) (oi := { dst := some 17, op := Op.move (Operand.tmp 7), type := 3, pos := "soft.go:99", after := #[], guard := none }) (v := .int .i64 (j : Int)) rfl (by kernel_rfl) (by kernel_rfl) (by kernel_rfl) (fun _ _ _ h => h) (Or.inl ⟨by kernel_rfl, fun W h => (by first | kernel_rfl | go_simp)⟩) hS ?_
    try simp only [Act.put, List.setIfInBounds_toArray, List.set_cons_zero, List.set_cons_succ]
    refine wpAnyH_take (i := 1) (oi := { dst := some 18, op := Op.binOp BinOp.geq 3 (Operand.tmp 17) (Operand.const (Value.int IntKind.i64 0)) 3, type := 4, pos := "soft.go:99", after := #[{ on := 0, ground := Ground.data }], guard := none }) (v := .bool true) rfl (by kernel_rfl) (by kernel_rfl) (by kernel_rfl) (fun _ _ _ h => h) (Or.inl ⟨by kernel_rfl, fun W h => (by rw [← unhide U1]; exact Op1.geq0 (.tmp 17) (by kernel_rfl) (by kernel_rfl) (by kernel_rfl) W)⟩) hS ?_
    try simp only [Act.put, List.setIfInBounds_toArray, List.set_cons_zero, List.set_cons_succ]
    refine wpAnyH_take (i := 2) (oi := { dst := some 19, op := Op.move (Operand.tmp 18), type := 4, pos := "soft.go:99", after := #[{ on := 1, ground := Ground.data }], guard := none }) (v := .bool true) rfl (by kernel_rfl) (by kernel_rfl) (by kernel_rfl) (fun _ _ _ h => h) (Or.inl ⟨by kernel_rfl, fun W h => (by first | kernel_rfl | go_simp)⟩) hS ?_
    try simp only [Act.put, List.setIfInBounds_toArray, List.set_cons_zero, List.set_cons_succ]
    refine wpAnyH_take (i := 3) (oi := { dst := some 20, op := Op.move (Operand.tmp 0), type := 60, pos := "soft.go:99", after := #[{ on := 2, ground := Ground.guard }], guard := some (2, true) }) (v := .pointer (some ⟨bf, 0, none⟩)) rfl (by kernel_rfl) (by kernel_rfl) (by kernel_rfl) (fun _ _ _ h => h) (Or.inl ⟨by kernel_rfl, fun W h => (by first | kernel_rfl | go_simp)⟩) hS ?_
    try simp only [Act.put, List.setIfInBounds_toArray, List.set_cons_zero, List.set_cons_succ]
    refine wpAnyH_take (i := 4) (oi := { dst := some 21, op := Op.nilCheck (Operand.tmp 20), type := 0, pos := "soft.go:99", after := #[{ on := 3, ground := Ground.data }, { on := 2, ground := Ground.guard }], guard := some (2, true) }) (v := .pointer (some ⟨bf, 0, none⟩)) rfl (by kernel_rfl) (by kernel_rfl) (by kernel_rfl) (fun _ _ _ h => h) (Or.inl ⟨by kernel_rfl, fun W h => (by first | kernel_rfl | go_simp)⟩) hS ?_
    try simp only [Act.put, List.setIfInBounds_toArray, List.set_cons_zero, List.set_cons_succ]
    refine wpAnyH_take (i := 5) (oi := { dst := some 22, op := Op.fieldAddr 114 (Operand.tmp 21) 0, type := 0, pos := "soft.go:99", after := #[{ on := 4, ground := Ground.data }, { on := 2, ground := Ground.guard }], guard := some (2, true) }) (v := .pointer (some ⟨bf, 0, none⟩)) rfl (by kernel_rfl) (by kernel_rfl) (by kernel_rfl) (fun _ _ _ h => h) (Or.inl ⟨by kernel_rfl, fun W h => (by first | kernel_rfl | go_simp)⟩) hS ?_
    try simp only [Act.put, List.setIfInBounds_toArray, List.set_cons_zero, List.set_cons_succ]
    refine wpAnyH_take (i := 6) (oi := { dst := some 23, op := Op.load 111 (Operand.tmp 22), type := 111, pos := "soft.go:99", after := #[{ on := 5, ground := Ground.data }, { on := 2, ground := Ground.guard }], guard := some (2, true) }) (v := .pointer (some ⟨bc, 0, none⟩)) rfl (by kernel_rfl) (by kernel_rfl) (by kernel_rfl) (fun _ _ _ h => h) (Or.inl ⟨by kernel_rfl, fun W h => Op1.ld_ptr (.tmp 22) (by kernel_rfl) (by kernel_rfl) W (h.1)⟩) hS ?_
    try simp only [Act.put, List.setIfInBounds_toArray, List.set_cons_zero, List.set_cons_succ]
    refine wpAnyH_take (i := 7) (oi := { dst := some 24, op := Op.move (Operand.tmp 1), type := 3, pos := "soft.go:99", after := #[{ on := 2, ground := Ground.guard }], guard := some (2, true) }) (v := .int .i64 (dd : Int)) rfl (by kernel_rfl) (by kernel_rfl) (by kernel_rfl) (fun _ _ _ h => h) (Or.inl ⟨by kernel_rfl, fun W h => (by first | kernel_rfl | go_simp)⟩) hS ?_
    try simp only [Act.put, List.setIfInBounds_toArray, List.set_cons_zero, List.set_cons_succ]
    refine wpAnyH_take (i := 8) (oi := { dst := some 25, op := Op.move (Operand.tmp 7), type := 3, pos := "soft.go:99", after := #[{ on := 2, ground := Ground.guard }], guard := some (2, true) }) (v := .int .i64 (j : Int)) rfl (by kernel_rfl) (by kernel_rfl) (by kernel_rfl) (fun _ _ _ h => h) (Or.inl ⟨by kernel_rfl, fun W h => (by first | kernel_rfl | go_simp)⟩) hS ?_
    try simp only [Act.put, List.setIfInBounds_toArray, List.set_cons_zero, List.set_cons_succ]
    refine wpAnyH_take (i := 9) (oi := { dst := some 26, op := Op.nilCheck (Operand.tmp 23), type := 0, pos := "soft.go:99", after := #[{ on := 6, ground := Ground.data }, { on := 2, ground := Ground.guard }], guard := some (2, true) }) (v := .pointer (some ⟨bc, 0, none⟩)) rfl (by kernel_rfl) (by kernel_rfl) (by kernel_rfl) (fun _ _ _ h => h) (Or.inl ⟨by kernel_rfl, fun W h => (by first | kernel_rfl | go_simp)⟩) hS ?_
    try simp only [Act.put, List.setIfInBounds_toArray, List.set_cons_zero, List.set_cons_succ]
    refine wpAnyH_take (i := 10) (oi := { dst := some 27, op := Op.fieldAddr 141 (Operand.tmp 26) 0, type := 0, pos := "soft.go:99", after := #[{ on := 9, ground := Ground.data }, { on := 2, ground := Ground.guard }], guard := some (2, true) }) (v := .pointer (some ⟨bc, 0, none⟩)) rfl (by kernel_rfl) (by kernel_rfl) (by kernel_rfl) (fun _ _ _ h => h) (Or.inl ⟨by kernel_rfl, fun W h => (by first | kernel_rfl | go_simp)⟩) hS ?_
    try simp only [Act.put, List.setIfInBounds_toArray, List.set_cons_zero, List.set_cons_succ]
    refine wpAnyH_take (i := 11) (oi := { dst := some 28, op := Op.fieldAddr 78 (Operand.tmp 27) 1, type := 0, pos := "soft.go:99", after := #[{ on := 10, ground := Ground.data }, { on := 2, ground := Ground.guard }], guard := some (2, true) }) (v := .pointer (some ⟨bc, 40, none⟩)) rfl (by kernel_rfl) (by kernel_rfl) (by kernel_rfl) (fun _ _ _ h => h) (Or.inl ⟨by kernel_rfl, fun W h => (by first | kernel_rfl | go_simp)⟩) hS ?_
    try simp only [Act.put, List.setIfInBounds_toArray, List.set_cons_zero, List.set_cons_succ]
    refine wpAnyH_take (i := 12) (oi := { dst := some 29, op := Op.indexAddr 73 (Operand.tmp 28) (Operand.tmp 24), type := 0, pos := "soft.go:99", after := #[{ on := 11, ground := Ground.data }, { on := 7, ground := Ground.data }, { on := 2, ground := Ground.guard }], guard := some (2, true) }) (v := .pointer (some ⟨bc, 40 + dd * 12, none⟩)) rfl (by kernel_rfl) (by kernel_rfl) (by kernel_rfl) (fun _ _ _ h => h) (Or.inl ⟨by kernel_rfl, fun W h => Op1.ix_dir (.tmp 28) (.tmp 24) (by kernel_rfl) (by kernel_rfl) (by kernel_rfl) (hd) W⟩) hS ?_
    try simp only [Act.put, List.setIfInBounds_toArray, List.set_cons_zero, List.set_cons_succ]
    refine wpAnyH_take (i := 13) (oi := { dst := some 30, op := Op.indexAddr 72 (Operand.tmp 29) (Operand.tmp 25), type := 0, pos := "soft.go:99", after := #[{ on := 12, ground := Ground.data }, { on := 8, ground := Ground.data }, { on := 2, ground := Ground.guard }], guard := some (2, true) }) (v := .pointer (some ⟨bc, 40 + dd * 12 + j * 3, none⟩)) rfl (by kernel_rfl) (by kernel_rfl) (by kernel_rfl) (fun _ _ _ h => h) (Or.inl ⟨by kernel_rfl, fun W h => Op1.ix_slot (.tmp 29) (.tmp 25) (by kernel_rfl) (by kernel_rfl) (by kernel_rfl) (hj) W⟩) hS ?_
    try simp only [Act.put, List.setIfInBounds_toArray, List.set_cons_zero, List.set_cons_succ]
    refine wpAnyH_take (i := 14) (oi := { dst := some 31, op := Op.load 71 (Operand.tmp 30), type := 71, pos := "soft.go:99", after := #[{ on := 13, ground := Ground.data }, { on := 2, ground := Ground.guard }], guard := some (2, true) }) (v := .agg #[.string (m.name dd j), .int .i64 (m.ino dd j), .int .i64 (m.est dd j)]) rfl (by kernel_rfl) (by kernel_rfl) (by kernel_rfl) (fun _ _ _ h => h) (Or.inl ⟨by kernel_rfl, fun W h => Op1.ld_ent (.tmp 30) (by kernel_rfl) (by kernel_rfl) W (by have := h.2.name dd j hd hj; simp only [Nat.zero_add] at this; exact this) (by have := h.2.ino dd j hd hj; simp only [Nat.zero_add] at this; exact this) (by have := h.2.est dd j hd hj; simp only [Nat.zero_add] at this; exact this)⟩) hS ?_
    try simp only [Act.put, List.setIfInBounds_toArray, List.set_cons_zero, List.set_cons_succ]
    refine wpAnyH_take (i := 15) (oi := { dst := some 32, op := Op.move (Operand.tmp 0), type := 60, pos := "soft.go:99", after := #[{ on := 2, ground := Ground.guard }], guard := some (2, true) }) (v := .pointer (some ⟨bf, 0, none⟩)) rfl (by kernel_rfl) (by kernel_rfl) (by kernel_rfl) (fun _ _ _ h => h) (Or.inl ⟨by kernel_rfl, fun W h => (by first | kernel_rfl | go_simp)⟩) hS ?_
    try simp only [Act.put, List.setIfInBounds_toArray, List.set_cons_zero, List.set_cons_succ]
    refine wpAnyH_take (i := 16) (oi := { dst := some 33, op := Op.nilCheck (Operand.tmp 32), type := 0, pos := "soft.go:99", after := #[{ on := 15, ground := Ground.data }, { on := 2, ground := Ground.guard }], guard := some (2, true) }) (v := .pointer (some ⟨bf, 0, none⟩)) rfl (by kernel_rfl) (by kernel_rfl) (by kernel_rfl) (fun _ _ _ h => h) (Or.inl ⟨by kernel_rfl, fun W h => (by first | kernel_rfl | go_simp)⟩) hS ?_
    try simp only [Act.put, List.setIfInBounds_toArray, List.set_cons_zero, List.set_cons_succ]
    refine wpAnyH_take (i := 17) (oi := { dst := some 34, op := Op.fieldAddr 114 (Operand.tmp 33) 0, type := 0, pos := "soft.go:99", after := #[{ on := 16, ground := Ground.data }, { on := 2, ground := Ground.guard }], guard := some (2, true) }) (v := .pointer (some ⟨bf, 0, none⟩)) rfl (by kernel_rfl) (by kernel_rfl) (by kernel_rfl) (fun _ _ _ h => h) (Or.inl ⟨by kernel_rfl, fun W h => (by first | kernel_rfl | go_simp)⟩) hS ?_
    try simp only [Act.put, List.setIfInBounds_toArray, List.set_cons_zero, List.set_cons_succ]
    refine wpAnyH_take (i := 18) (oi := { dst := some 35, op := Op.load 111 (Operand.tmp 34), type := 111, pos := "soft.go:99", after := #[{ on := 17, ground := Ground.data }, { on := 2, ground := Ground.guard }], guard := some (2, true) }) (v := .pointer (some ⟨bc, 0, none⟩)) rfl (by kernel_rfl) (by kernel_rfl) (by kernel_rfl) (fun _ _ _ h => h) (Or.inl ⟨by kernel_rfl, fun W h => Op1.ld_ptr (.tmp 34) (by kernel_rfl) (by kernel_rfl) W (h.1)⟩) hS ?_
    try simp only [Act.put, List.setIfInBounds_toArray, List.set_cons_zero, List.set_cons_succ]
    refine wpAnyH_take (i := 21) (oi := { dst := some 38, op := Op.move (Operand.tmp 1), type := 3, pos := "soft.go:99", after := #[{ on := 2, ground := Ground.guard }], guard := some (2, true) }) (v := .int .i64 (dd : Int)) rfl (by kernel_rfl) (by kernel_rfl) (by kernel_rfl) (fun _ _ _ h => h) (Or.inl ⟨by kernel_rfl, fun W h => (by first | kernel_rfl | go_simp)⟩) hS ?_
    try simp only [Act.put, List.setIfInBounds_toArray, List.set_cons_zero, List.set_cons_succ]
    refine wpAnyH_take (i := 23) (oi := { dst := some 40, op := Op.move (Operand.tmp 7), type := 3, pos := "soft.go:99", after := #[{ on := 2, ground := Ground.guard }], guard := some (2, true) }) (v := .int .i64 (j : Int)) rfl (by kernel_rfl) (by kernel_rfl) (by kernel_rfl) (fun _ _ _ h => h) (Or.inl ⟨by kernel_rfl, fun W h => (by first | kernel_rfl | go_simp)⟩) hS ?_
    try simp only [Act.put, List.setIfInBounds_toArray, List.set_cons_zero, List.set_cons_succ]
    generalize World.drew _ = W0 at hS BD ⊢
    refine wpAnyH_ready (rs := [19]) (by kernel_rfl) (by simp) ?_
    refine AllReadyH.cons (o := { dst := some 36, op := Op.call { callee := Callee.value (Operand.func 59), args := #[Operand.tmp 35], argTypes := #[111] }, type := 78, pos := "soft.go:99", after := #[{ on := 18, ground := Ground.data }, { on := 2, ground := Ground.chain }, { on := 2, ground := Ground.guard }], guard := some (2, true) }) rfl (fun K hK => ?_) AllReadyH.nil
    rw [if_pos (by kernel_rfl)]
    go_simp
    refine (unhide C2 W0 (unhide BD)).mono ?_
    rintro e w2 ⟨rfl, b2⟩
    have B2 := hide ((unhide BD).trans (b2.mono (unhide BD).size))
    clear b2
    go_wp2_with fail
    refine hK.out _ _ (⟨((unhide HFL).below (unhide B2)).ptr, ((unhide HFL).below (unhide B2)).hasNow⟩) (fun hS1 => ?_)
    clear hK K
    try simp only [Act.put, List.setIfInBounds_toArray, List.set_cons_zero, List.set_cons_succ]
    refine wpAnyH_take (i := 20) (oi := { dst := some 37, op := Op.field 78 (Operand.tmp 36) 1, type := 73, pos := "soft.go:99", after := #[{ on := 19, ground := Ground.data }, { on := 2, ground := Ground.guard }], guard := some (2, true) }) (v := .agg (ds.extract 40 (40 + 36))) rfl (by kernel_rfl) (by kernel_rfl) (by kernel_rfl) (fun _ _ _ h => h) (Or.inl ⟨by kernel_rfl, fun W h => Op1.fld_dir (.tmp 36) (by kernel_rfl) (by kernel_rfl) W⟩) hS1 ?_
    try simp only [Act.put, List.setIfInBounds_toArray, List.set_cons_zero, List.set_cons_succ]
    refine wpAnyH_take (i := 22) (oi := { dst := some 39, op := Op.index 73 (Operand.tmp 37) (Operand.tmp 38), type := 72, pos := "soft.go:99", after := #[{ on := 20, ground := Ground.data }, { on := 21, ground := Ground.data }, { on := 2, ground := Ground.guard }], guard := some (2, true) }) (v := .agg ((ds.extract 40 (40 + 36)).extract (dd * 12) (dd * 12 + 12))) rfl (by kernel_rfl) (by kernel_rfl) (by kernel_rfl) (fun _ _ _ h => h) (Or.inl ⟨by kernel_rfl, fun W h => Op1.iv_dir (.tmp 37) (.tmp 38) (by kernel_rfl) (by kernel_rfl) (by kernel_rfl) hd W⟩) hS1 ?_
    try simp only [Act.put, List.setIfInBounds_toArray, List.set_cons_zero, List.set_cons_succ]
    refine wpAnyH_take (i := 24) (oi := { dst := some 41, op := Op.index 72 (Operand.tmp 39) (Operand.tmp 40), type := 71, pos := "soft.go:99", after := #[{ on := 22, ground := Ground.data }, { on := 23, ground := Ground.data }, { on := 2, ground := Ground.guard }], guard := some (2, true) }) (v := .agg #[.string (k.name dd j), .int .i64 (k.ino dd j), .int .i64 (k.est dd j)]) rfl (by kernel_rfl) (by kernel_rfl) (by kernel_rfl) (fun _ _ _ h => h) (Or.inl ⟨by kernel_rfl, fun W h => (by rw [← unhide HK]; exact Op1.iv_slot (.tmp 39) (.tmp 40) (by kernel_rfl) (by kernel_rfl) (by kernel_rfl) hj W)⟩) hS1 ?_
    try simp only [Act.put, List.setIfInBounds_toArray, List.set_cons_zero, List.set_cons_succ]
    refine wpAnyH_take (i := 25) (oi := { dst := some 42, op := Op.binOp BinOp.eql 71 (Operand.tmp 31) (Operand.tmp 41) 71, type := 4, pos := "soft.go:99", after := #[{ on := 14, ground := Ground.data }, { on := 24, ground := Ground.data }, { on := 2, ground := Ground.guard }], guard := some (2, true) }) (v := .bool ((m.name dd j).toList == (k.name dd j).toList && m.ino dd j == k.ino dd j && m.est dd j == k.est dd j)) rfl (by kernel_rfl) (by kernel_rfl) (by kernel_rfl) (fun _ _ _ h => h) (Or.inl ⟨by kernel_rfl, fun W h => Op1.eq_ent (.tmp 31) (.tmp 41) (by kernel_rfl) (by kernel_rfl) (by kernel_rfl) W⟩) hS1 ?_
    try simp only [Act.put, List.setIfInBounds_toArray, List.set_cons_zero, List.set_cons_succ]
    refine wpAnyH_take (i := 26) (oi := { dst := some 43, op := Op.pick (Operand.tmp 19) (Operand.tmp 42) (Operand.const (Value.bool false)), type := 4, pos := "soft.go:99", after := #[{ on := 2, ground := Ground.data }, { on := 25, ground := Ground.data }], guard := none }) (v := .bool ((m.name dd j).toList == (k.name dd j).toList && m.ino dd j == k.ino dd j && m.est dd j == k.est dd j)) rfl (by kernel_rfl) (by kernel_rfl) (by kernel_rfl) (fun _ _ _ h => h) (Or.inl ⟨by kernel_rfl, fun W h => (by first | kernel_rfl | go_simp)⟩) hS1 ?_
    try simp only [Act.put, List.setIfInBounds_toArray, List.set_cons_zero, List.set_cons_succ]
    refine wpAnyH_take (i := 27) (oi := { dst := some 6, op := Op.assign (Operand.tmp 43), type := 4, pos := "soft.go:99", after := #[{ on := 26, ground := Ground.data }, { on := 19, ground := Ground.chain }, { on := 0, ground := Ground.phase }, { on := 1, ground := Ground.phase }, { on := 2, ground := Ground.phase }, { on := 3, ground := Ground.phase }, { on := 4, ground := Ground.phase }, { on := 5, ground := Ground.phase }, { on := 6, ground := Ground.phase }, { on := 7, ground := Ground.phase }, { on := 8, ground := Ground.phase }, { on := 9, ground := Ground.phase }, { on := 10, ground := Ground.phase }, { on := 11, ground := Ground.phase }, { on := 12, ground := Ground.phase }, { on := 13, ground := Ground.phase }, { on := 14, ground := Ground.phase }, { on := 15, ground := Ground.phase }, { on := 16, ground := Ground.phase }, { on := 17, ground := Ground.phase }, { on := 18, ground := Ground.phase }, { on := 19, ground := Ground.phase }, { on := 20, ground := Ground.phase }, { on := 21, ground := Ground.phase }, { on := 22, ground := Ground.phase }, { on := 23, ground := Ground.phase }, { on := 24, ground := Ground.phase }, { on := 25, ground := Ground.phase }, { on := 26, ground := Ground.phase }], guard := none }) (v := .bool ((m.name dd j).toList == (k.name dd j).toList && m.ino dd j == k.ino dd j && m.est dd j == k.est dd j)) rfl (by kernel_rfl) (by kernel_rfl) (by kernel_rfl) (fun _ _ _ h => h) (Or.inl ⟨by kernel_rfl, fun W h => (by first | kernel_rfl | go_simp)⟩) hS1 ?_
    try simp only [Act.put, List.setIfInBounds_toArray, List.set_cons_zero, List.set_cons_succ]
    refine wpAnyH_done (by kernel_rfl) ?_ _
    clear hS hS1
    go_wp2_with fail
    go_ret
    exact ⟨rfl, unhide B2⟩
end
end Go.Proofs.YtfpfpnhpbnnmfadGreatDoor
