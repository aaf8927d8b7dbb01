/-
  The walk of eiderdownlaw.IdealDoes. (Written by genju.py.)
-/
import Derived.Test.YtmhbphmdfnlmkaaJt
namespace Go.Proofs.Ytmhbphmdfnlmkaa
open Go.RowKit
namespace Idl
theorem run_ld_stp {o : Oper} {ρ : Operand → Value} (x : Operand) (y : Stp) (ho : o.op = .load 49 x) {g o0 : Nat} (hx : ρ x = .pointer (some ⟨g, o0, none⟩)) (W : World) (h : ∀ (j : Nat) (u : Value), (stpA y)[j]? = some u → W.cell? ⟨g, o0 + j, none⟩ = some u) : (execOp ρ o).run Try.prog W = .ok (.value (.agg (stpA y))) W := by
  have c0 := h 0 _ rfl
  have c1 := h 1 _ rfl
  have c2 := h 2 _ rfl
  have c3 := h 3 _ rfl
  have c4 := h 4 _ rfl
  have c5 := h 5 _ rfl
  have c6 := h 6 _ rfl
  rw [Nat.add_zero] at c0
  clear h
  unfold execOp
  rw [ho]
  go_simp
  try rfl
theorem run_idx_stp {o : Oper} {ρ : Operand → Value} (x y : Operand) (ho : o.op = .indexAddr 47 x y) {g o0 n c j : Nat} (hx : ρ x = .slice (some ⟨g, o0, none⟩) n c) (hy : ρ y = .int .i64 ((j : Nat) : Int)) (hj : j < n) (w : World) : (execOp ρ o).run Try.prog w = .ok (.value (.pointer (some ⟨g, o0 + j * 7, none⟩))) w := by
  have jz : (j : Int) < (n : Int) := by omega
  unfold execOp
  rw [ho]
  go_simp
theorem run_neq_i {o : Oper} {ρ : Operand → Value} (x y : Operand) (ho : o.op = .binOp .neq 3 x y 3) (v : Int) (hx : ρ x = .int .i64 v) (hy : ρ y = .int .i64 v) (w : World) : (execOp ρ o).run Try.prog w = .ok (.value (.bool false)) w := by
  unfold execOp
  rw [ho]
  go_simp
theorem run_eql_i {o : Oper} {ρ : Operand → Value} (x y : Operand) (ho : o.op = .binOp .eql 3 x y 3) (v : Int) (hx : ρ x = .int .i64 v) (hy : ρ y = .int .i64 v) (w : World) : (execOp ρ o).run Try.prog w = .ok (.value (.bool true)) w := by
  unfold execOp
  rw [ho]
  go_simp
theorem run_eql_b {o : Oper} {ρ : Operand → Value} (x y : Operand) (ho : o.op = .binOp .eql 4 x y 4) (v : Bool) (hx : ρ x = .bool v) (hy : ρ y = .bool v) (w : World) : (execOp ρ o).run Try.prog w = .ok (.value (.bool true)) w := by
  have hq : (v == v) = true := by simp
  unfold execOp
  rw [ho]
  go_simp
theorem run_eql_s {o : Oper} {ρ : Operand → Value} (x y : Operand) (ho : o.op = .binOp .eql 9 x y 9) (v : ByteArray) (hx : ρ x = .string v) (hy : ρ y = .string v) (w : World) : (execOp ρ o).run Try.prog w = .ok (.value (.bool true)) w := by
  have hq : (v.toList == v.toList) = true := by simp
  unfold execOp
  rw [ho]
  go_simp
theorem Steps.at_ {w : World} {v : Value} {L : List Stp} (h : Steps w v L) (i : Nat) (hi : i < L.length) : ∃ g o c, v = .slice (some ⟨g, o, none⟩) L.length c ∧ g < w.heap.size ∧ ∀ W, Below w.heap.size w W →
    ∀ (j : Nat) (u : Value), (stpA L[i])[j]? = some u → W.cell? ⟨g, o + i * 7 + j, none⟩ = some u := by
  rcases h.form with ⟨h2, _⟩ | ⟨g, o, c, h1, h2, h3⟩
  · rw [h2] at hi; cases hi
  · exact ⟨g, o, c, h1, h2, fun W hb j u hu => by rw [hb.cell (p := ⟨g, o + i * 7 + j, none⟩) h2]; exact h3 i hi j u hu⟩
theorem names_few' {S : St} {n : Nat} (h : Few S n) (d : Int) : (names S d).length ≤ n := by
  unfold names
  split
  · rw [List.length_map]; exact h _
  · exact Nat.zero_le _
set_option maxHeartbeats 8000000 in
set_option maxRecDepth 100000 in
theorem idealDoes_any {w : World} {v : Value} {L : List Stp} (hs : Steps w v L) (x : Stp) (hx : x.ok) :
    Calls Try.prog 6 #[v, .agg (stpA x)] w fun e w' => e = .returned (.bool true) ∧ Below w.heap.size w w' := by
  have b0 : Below w.heap.size w (w.alloc (.cells (stpA x) 49)) := (Below.refl _ w).alloc (Nat.le_refl _) _
  have hbg := begun_any (w.alloc (.cells (stpA x) 49))
  have HG := hide fun W (bW : Below w.heap.size w W) => greatSteps_any (hs.below bW)
  have HX := hide fun W => greatStep_any x hx W
  have HC := hide fun W bW => stp_kept w x W bW
  have HB0 := hide b0
  have HSt := hide fun i hi => hs.at_ i hi
  have HOk := hide hs.ok
  have HXo := hide hx
  have hlen := hs.len
  unfold maxLen at hlen
  have hgl : greats L = false → L.length ≤ 200 := fun h => by
    simp only [greats, Bool.or_eq_false_iff, decide_eq_false_iff_not] at h
    omega
  have HGL := hide hgl
  obtain ⟨a, c, rfl⟩ : ∃ a c, v = .slice a L.length c := by
    rcases hs.form with ⟨e, a, c, rfl⟩ | ⟨g, o, c, rfl, _⟩
    · exact ⟨a, c, by rw [e]; rfl⟩
    · exact ⟨_, c, rfl⟩
  clear hs hx b0 hgl
  go_enter Try.func6, Try.ntmps6
  go_wp2_with fail
  refine hbg.mono ?_
  rintro e w1 ⟨rfl, b1⟩
  have B1 := hide ((unhide HB0).trans (b1.mono (by simp)))
  have A1 := hide b1
  have hg := unhide HG w1 (unhide B1)
  clear b1 hbg
  cases hgr : greats L <;> rw [hgr] at hg
  case true =>
    clear hgr
    go_wp2_with fail
    refine hg.mono ?_
    rintro e w2 ⟨rfl, b2⟩
    have B2 := hide ((unhide B1).trans (b2.mono (unhide B1).size))
    clear b2 hg
    go_wp2
    go_ret
    exact ⟨rfl, unhide B2⟩
  have h200 := unhide HGL hgr
  clear hgr
  go_wp2_with fail
  refine hg.mono ?_
  rintro e w2 ⟨rfl, b2⟩
  have B2 := hide ((unhide B1).trans (b2.mono (unhide B1).size))
  have A2 := hide ((unhide A1).trans (b2.mono (unhide A1).size))
  have q0 := unhide HC w2 (unhide A2) 0 _ rfl
  have q1 := unhide HC w2 (unhide A2) 1 _ rfl
  have q2 := unhide HC w2 (unhide A2) 2 _ rfl
  have q3 := unhide HC w2 (unhide A2) 3 _ rfl
  have q4 := unhide HC w2 (unhide A2) 4 _ rfl
  have q5 := unhide HC w2 (unhide A2) 5 _ rfl
  have q6 := unhide HC w2 (unhide A2) 6 _ rfl
  have hgx := unhide HX w2
  clear b2 hg
  cases hgr : great x <;> rw [hgr] at hgx
  case true =>
    clear hgr
    go_wp2_with fail
    refine hgx.mono ?_
    rintro e w3 ⟨rfl, b3⟩
    have B3 := hide ((unhide B2).trans (b3.mono (unhide B2).size))
    clear b3 hgx
    go_wp2
    go_ret
    exact ⟨rfl, unhide B3⟩
  clear hgr
  go_wp2_with fail
  refine hgx.mono ?_
  rintro e w3 ⟨rfl, b3⟩
  have A3 := hide ((unhide A2).trans (b3.mono (unhide A2).size))
  clear b3 hgx q0 q1 q2 q3 q4 q5 q6
  go_wp2_with fail
  refine (New_any _).mono ?_
  rintro e w4 ⟨rfl, e9⟩
  rw [e9]
  clear e9 w4
  have HL := hide (Bo.start (w := w) (x := x) (unhide A3))
  go_wp2_with fail
  try rw [show (w3.alloc (Obj.cells #[Value.slice none 0 0, Value.slice none 0 0, Value.slice none 0 0] 89)).heap.size = w3.heap.size + 1 from by simp]
  generalize (w3.alloc (Obj.cells #[Value.slice none 0 0, Value.slice none 0 0, Value.slice none 0 0] 89)).alloc (Obj.cells #[Value.slice none 0 0, Value.slice none 0 0] 58) = w6 at HL ⊢
  go_loopw [7] (fun i wr => ∃ k : Nat, k ≤ L.length ∧ i = .int .i64 k ∧ Hid (∃ S, Few S k ∧ Bo w w3.heap.size (w3.heap.size + 1) x S S k wr)) (fun i _ => L.length - (intOf i).toNat)
  case atStart => exact ⟨0, Nat.zero_le _, rfl, hide ⟨St.empty, few0, unhide HL⟩⟩
  case round =>
    clear HL
    obtain ⟨k, hk, rfl, HE⟩ := hrel
    obtain ⟨S, hF, hB⟩ := unhide HE
    have HB := hide hB
    have HF := hide hF
    clear HE hB hF
    generalize w3.heap.size = bw at HB ⊢
    by_cases hlt : k < L.length
    · have tn : decide ((k : Int) < (L.length : Int)) = true := by simp; omega
      have kz : (k : Int) < (L.length : Int) := by omega
      obtain ⟨g, o, c', e1, hg, hcell⟩ := unhide HSt k hlt
      simp only [Value.slice.injEq] at e1
      obtain ⟨rfl, _, rfl⟩ := e1
      have HYK := hide ((unhide HOk) L[k] (List.getElem_mem hlt))
      have HCE := hide hcell
      clear hcell
      generalize L[k] = y at HYK HCE
      go_wp2_with fail
      have Bd := hide ((unhide HB).grow (Below.refl _ _).drew)
      refine wp_region_held_drew (S := fun W => ∀ (j : Nat) (u : Value), (stpA y)[j]? = some u → W.cell? ⟨g, o + k * 7 + j, none⟩ = some u) (by kernel_rfl) (unhide HCE _ (unhide Bd).bel) (fun hS => ?_)
      refine wpAnyH_take (i := 0) (oi := { dst := some 32, op := Op.move (Operand.tmp 0), type := 47, pos := "law02.go:45", after := #[], guard := none }) (v := .slice (some ⟨g, o, none⟩) L.length c) rfl (by kernel_rfl) (by kernel_rfl) (by kernel_rfl) (fun _ _ _ h => h) (Or.inl ⟨by kernel_rfl, fun W h => (by first | kernel_rfl | go_simp)⟩) hS ?_
      try simp only [Act.put, List.setIfInBounds_toArray, List.set_cons_zero, List.set_cons_succ]
      refine wpAnyH_take (i := 1) (oi := { dst := some 33, op := Op.move (Operand.tmp 7), type := 3, pos := "law02.go:45", after := #[], guard := none }) (v := .int .i64 ((k : Nat) : Int)) rfl (by kernel_rfl) (by kernel_rfl) (by kernel_rfl) (fun _ _ _ h => h) (Or.inl ⟨by kernel_rfl, fun W h => (by first | kernel_rfl | go_simp)⟩) hS ?_
      try simp only [Act.put, List.setIfInBounds_toArray, List.set_cons_zero, List.set_cons_succ]
      refine wpAnyH_take (i := 2) (oi := { dst := some 34, op := Op.indexAddr 47 (Operand.tmp 32) (Operand.tmp 33), type := 0, pos := "law02.go:45", after := #[{ on := 0, ground := Ground.data }, { on := 1, ground := Ground.data }], guard := none }) (v := .pointer (some ⟨g, o + k * 7, none⟩)) rfl (by kernel_rfl) (by kernel_rfl) (by kernel_rfl) (fun _ _ _ h => h) (Or.inl ⟨by kernel_rfl, fun W h => run_idx_stp (c := c) (.tmp 32) (.tmp 33) (by kernel_rfl) (by kernel_rfl) (by kernel_rfl) hlt W⟩) hS ?_
      try simp only [Act.put, List.setIfInBounds_toArray, List.set_cons_zero, List.set_cons_succ]
      refine wpAnyH_take (i := 3) (oi := { dst := some 35, op := Op.load 49 (Operand.tmp 34), type := 49, pos := "law02.go:45", after := #[{ on := 2, ground := Ground.data }], guard := none }) (v := .agg (stpA y)) rfl (by kernel_rfl) (by kernel_rfl) (by kernel_rfl) (fun _ _ _ h => h) (Or.inl ⟨by kernel_rfl, fun W h => run_ld_stp (.tmp 34) y (by kernel_rfl) (by kernel_rfl) W h⟩) hS ?_
      try simp only [Act.put, List.setIfInBounds_toArray, List.set_cons_zero, List.set_cons_succ]
      refine wpAnyH_take (i := 5) (oi := { dst := some 37, op := Op.move (Operand.tmp 0), type := 47, pos := "law02.go:45", after := #[], guard := none }) (v := .slice (some ⟨g, o, none⟩) L.length c) rfl (by kernel_rfl) (by kernel_rfl) (by kernel_rfl) (fun _ _ _ h => h) (Or.inl ⟨by kernel_rfl, fun W h => (by first | kernel_rfl | go_simp)⟩) hS ?_
      try simp only [Act.put, List.setIfInBounds_toArray, List.set_cons_zero, List.set_cons_succ]
      refine wpAnyH_take (i := 6) (oi := { dst := some 38, op := Op.move (Operand.tmp 7), type := 3, pos := "law02.go:45", after := #[], guard := none }) (v := .int .i64 ((k : Nat) : Int)) rfl (by kernel_rfl) (by kernel_rfl) (by kernel_rfl) (fun _ _ _ h => h) (Or.inl ⟨by kernel_rfl, fun W h => (by first | kernel_rfl | go_simp)⟩) hS ?_
      try simp only [Act.put, List.setIfInBounds_toArray, List.set_cons_zero, List.set_cons_succ]
      refine wpAnyH_take (i := 7) (oi := { dst := some 39, op := Op.indexAddr 47 (Operand.tmp 37) (Operand.tmp 38), type := 0, pos := "law02.go:45", after := #[{ on := 5, ground := Ground.data }, { on := 6, ground := Ground.data }], guard := none }) (v := .pointer (some ⟨g, o + k * 7, none⟩)) rfl (by kernel_rfl) (by kernel_rfl) (by kernel_rfl) (fun _ _ _ h => h) (Or.inl ⟨by kernel_rfl, fun W h => run_idx_stp (c := c) (.tmp 37) (.tmp 38) (by kernel_rfl) (by kernel_rfl) (by kernel_rfl) hlt W⟩) hS ?_
      try simp only [Act.put, List.setIfInBounds_toArray, List.set_cons_zero, List.set_cons_succ]
      refine wpAnyH_take (i := 8) (oi := { dst := some 40, op := Op.load 49 (Operand.tmp 39), type := 49, pos := "law02.go:45", after := #[{ on := 7, ground := Ground.data }], guard := none }) (v := .agg (stpA y)) rfl (by kernel_rfl) (by kernel_rfl) (by kernel_rfl) (fun _ _ _ h => h) (Or.inl ⟨by kernel_rfl, fun W h => run_ld_stp (.tmp 39) y (by kernel_rfl) (by kernel_rfl) W h⟩) hS ?_
      try simp only [Act.put, List.setIfInBounds_toArray, List.set_cons_zero, List.set_cons_succ]
      refine wpAnyH_ready (rs := [4]) (by kernel_rfl) (by simp) ?_
      refine AllReadyH.cons (o := { dst := some 36, op := Op.call { callee := Callee.value (Operand.func 25), args := #[Operand.tmp 35], argTypes := #[49] }, type := 3, pos := "law02.go:45", after := #[{ on := 3, ground := Ground.data }], guard := none }) rfl (fun K hK => ?_) AllReadyH.nil
      rw [if_pos (by kernel_rfl)]
      go_simp
      refine (Check_any y (unhide HYK).big.1 (unhide HYK).big.2.1 (unhide HYK).big.2.2 _).mono ?_
      rintro e w7 ⟨rfl, b7⟩
      have B9 := hide ((unhide Bd).grow b7)
      clear b7
      go_wp2_with fail
      refine hK.out _ _ (unhide HCE _ (unhide B9).bel) (fun hS1 => ?_)
      clear hK K
      try simp only [Act.put, List.setIfInBounds_toArray, List.set_cons_zero, List.set_cons_succ]
      refine wpAnyH_ready (rs := [9]) (by kernel_rfl) (by simp) ?_
      refine AllReadyH.cons (o := { dst := some 41, op := Op.call { callee := Callee.value (Operand.func 26), args := #[Operand.tmp 40], argTypes := #[49] }, type := 3, pos := "law02.go:45", after := #[{ on := 8, ground := Ground.data }, { on := 4, ground := Ground.chain }], guard := none }) rfl (fun K hK => ?_) AllReadyH.nil
      rw [if_pos (by kernel_rfl)]
      go_simp
      refine (stepFault_any y (unhide HYK).big.1 (unhide HYK).big.2.1 (unhide HYK).big.2.2 _).mono ?_
      rintro e w8 ⟨rfl, b8⟩
      have B10 := hide ((unhide B9).grow b8)
      clear b8
      go_wp2_with fail
      refine hK.out _ _ (unhide HCE _ (unhide B10).bel) (fun hS2 => ?_)
      clear hK K
      try simp only [Act.put, List.setIfInBounds_toArray, List.set_cons_zero, List.set_cons_succ]
      refine wpAnyH_take (i := 10) (oi := { dst := some 42, op := Op.binOp BinOp.neq 3 (Operand.tmp 36) (Operand.tmp 41) 3, type := 4, pos := "law02.go:45", after := #[{ on := 4, ground := Ground.data }, { on := 9, ground := Ground.data }], guard := none }) (v := .bool false) rfl (by kernel_rfl) (by kernel_rfl) (by kernel_rfl) (fun _ _ _ h => h) (Or.inl ⟨by kernel_rfl, fun W h => run_neq_i (.tmp 36) (.tmp 41) (by kernel_rfl) (chk y) (by kernel_rfl) (by kernel_rfl) W⟩) hS2 ?_
      try simp only [Act.put, List.setIfInBounds_toArray, List.set_cons_zero, List.set_cons_succ]
      refine wpAnyH_take (i := 11) (oi := { dst := some 43, op := Op.move (Operand.tmp 42), type := 4, pos := "law02.go:45", after := #[{ on := 10, ground := Ground.data }, { on := 9, ground := Ground.chain }], guard := none }) (v := .bool false) rfl (by kernel_rfl) (by kernel_rfl) (by kernel_rfl) (fun _ _ _ h => h) (Or.inl ⟨by kernel_rfl, fun W h => (by first | kernel_rfl | go_simp)⟩) hS2 ?_
      try simp only [Act.put, List.setIfInBounds_toArray, List.set_cons_zero, List.set_cons_succ]
      refine wpAnyH_take (i := 12) (oi := { dst := some 44, op := Op.move (Operand.tmp 5), type := 52, pos := "law02.go:45", after := #[{ on := 11, ground := Ground.guard }], guard := some (11, false) }) (v := .pointer (some ⟨bw, 0, none⟩)) rfl (by kernel_rfl) (by kernel_rfl) (by kernel_rfl) (fun _ _ _ h => h) (Or.inl ⟨by kernel_rfl, fun W h => (by first | kernel_rfl | go_simp)⟩) hS2 ?_
      try simp only [Act.put, List.setIfInBounds_toArray, List.set_cons_zero, List.set_cons_succ]
      refine wpAnyH_take (i := 13) (oi := { dst := some 45, op := Op.move (Operand.tmp 0), type := 47, pos := "law02.go:45", after := #[{ on := 11, ground := Ground.guard }], guard := some (11, false) }) (v := .slice (some ⟨g, o, none⟩) L.length c) rfl (by kernel_rfl) (by kernel_rfl) (by kernel_rfl) (fun _ _ _ h => h) (Or.inl ⟨by kernel_rfl, fun W h => (by first | kernel_rfl | go_simp)⟩) hS2 ?_
      try simp only [Act.put, List.setIfInBounds_toArray, List.set_cons_zero, List.set_cons_succ]
      refine wpAnyH_take (i := 14) (oi := { dst := some 46, op := Op.move (Operand.tmp 7), type := 3, pos := "law02.go:45", after := #[{ on := 11, ground := Ground.guard }], guard := some (11, false) }) (v := .int .i64 ((k : Nat) : Int)) rfl (by kernel_rfl) (by kernel_rfl) (by kernel_rfl) (fun _ _ _ h => h) (Or.inl ⟨by kernel_rfl, fun W h => (by first | kernel_rfl | go_simp)⟩) hS2 ?_
      try simp only [Act.put, List.setIfInBounds_toArray, List.set_cons_zero, List.set_cons_succ]
      refine wpAnyH_take (i := 15) (oi := { dst := some 47, op := Op.indexAddr 47 (Operand.tmp 45) (Operand.tmp 46), type := 0, pos := "law02.go:45", after := #[{ on := 13, ground := Ground.data }, { on := 14, ground := Ground.data }, { on := 11, ground := Ground.guard }], guard := some (11, false) }) (v := .pointer (some ⟨g, o + k * 7, none⟩)) rfl (by kernel_rfl) (by kernel_rfl) (by kernel_rfl) (fun _ _ _ h => h) (Or.inl ⟨by kernel_rfl, fun W h => run_idx_stp (c := c) (.tmp 45) (.tmp 46) (by kernel_rfl) (by kernel_rfl) (by kernel_rfl) hlt W⟩) hS2 ?_
      try simp only [Act.put, List.setIfInBounds_toArray, List.set_cons_zero, List.set_cons_succ]
      refine wpAnyH_take (i := 16) (oi := { dst := some 48, op := Op.load 49 (Operand.tmp 47), type := 49, pos := "law02.go:45", after := #[{ on := 15, ground := Ground.data }, { on := 11, ground := Ground.guard }], guard := some (11, false) }) (v := .agg (stpA y)) rfl (by kernel_rfl) (by kernel_rfl) (by kernel_rfl) (fun _ _ _ h => h) (Or.inl ⟨by kernel_rfl, fun W h => run_ld_stp (.tmp 47) y (by kernel_rfl) (by kernel_rfl) W h⟩) hS2 ?_
      try simp only [Act.put, List.setIfInBounds_toArray, List.set_cons_zero, List.set_cons_succ]
      refine wpAnyH_take (i := 18) (oi := { dst := some 50, op := Op.move (Operand.tmp 6), type := 54, pos := "law02.go:45", after := #[{ on := 11, ground := Ground.guard }], guard := some (11, false) }) (v := .pointer (some ⟨bw + 1, 0, none⟩)) rfl (by kernel_rfl) (by kernel_rfl) (by kernel_rfl) (fun _ _ _ h => h) (Or.inl ⟨by kernel_rfl, fun W h => (by first | kernel_rfl | go_simp)⟩) hS2 ?_
      try simp only [Act.put, List.setIfInBounds_toArray, List.set_cons_zero, List.set_cons_succ]
      refine wpAnyH_take (i := 19) (oi := { dst := some 51, op := Op.move (Operand.tmp 0), type := 47, pos := "law02.go:45", after := #[{ on := 11, ground := Ground.guard }], guard := some (11, false) }) (v := .slice (some ⟨g, o, none⟩) L.length c) rfl (by kernel_rfl) (by kernel_rfl) (by kernel_rfl) (fun _ _ _ h => h) (Or.inl ⟨by kernel_rfl, fun W h => (by first | kernel_rfl | go_simp)⟩) hS2 ?_
      try simp only [Act.put, List.setIfInBounds_toArray, List.set_cons_zero, List.set_cons_succ]
      refine wpAnyH_take (i := 20) (oi := { dst := some 52, op := Op.move (Operand.tmp 7), type := 3, pos := "law02.go:45", after := #[{ on := 11, ground := Ground.guard }], guard := some (11, false) }) (v := .int .i64 ((k : Nat) : Int)) rfl (by kernel_rfl) (by kernel_rfl) (by kernel_rfl) (fun _ _ _ h => h) (Or.inl ⟨by kernel_rfl, fun W h => (by first | kernel_rfl | go_simp)⟩) hS2 ?_
      try simp only [Act.put, List.setIfInBounds_toArray, List.set_cons_zero, List.set_cons_succ]
      refine wpAnyH_take (i := 21) (oi := { dst := some 53, op := Op.indexAddr 47 (Operand.tmp 51) (Operand.tmp 52), type := 0, pos := "law02.go:45", after := #[{ on := 19, ground := Ground.data }, { on := 20, ground := Ground.data }, { on := 11, ground := Ground.guard }], guard := some (11, false) }) (v := .pointer (some ⟨g, o + k * 7, none⟩)) rfl (by kernel_rfl) (by kernel_rfl) (by kernel_rfl) (fun _ _ _ h => h) (Or.inl ⟨by kernel_rfl, fun W h => run_idx_stp (c := c) (.tmp 51) (.tmp 52) (by kernel_rfl) (by kernel_rfl) (by kernel_rfl) hlt W⟩) hS2 ?_
      try simp only [Act.put, List.setIfInBounds_toArray, List.set_cons_zero, List.set_cons_succ]
      refine wpAnyH_take (i := 22) (oi := { dst := some 54, op := Op.load 49 (Operand.tmp 53), type := 49, pos := "law02.go:45", after := #[{ on := 21, ground := Ground.data }, { on := 11, ground := Ground.guard }], guard := some (11, false) }) (v := .agg (stpA y)) rfl (by kernel_rfl) (by kernel_rfl) (by kernel_rfl) (fun _ _ _ h => h) (Or.inl ⟨by kernel_rfl, fun W h => run_ld_stp (.tmp 53) y (by kernel_rfl) (by kernel_rfl) W h⟩) hS2 ?_
      try simp only [Act.put, List.setIfInBounds_toArray, List.set_cons_zero, List.set_cons_succ]
      refine wpAnyH_ready (rs := [17]) (by kernel_rfl) (by simp) ?_
      refine AllReadyH.cons (o := { dst := some 49, op := Op.call { callee := Callee.value (Operand.func 27), args := #[Operand.tmp 44, Operand.tmp 48], argTypes := #[52, 49] }, type := 3, pos := "law02.go:45", after := #[{ on := 12, ground := Ground.data }, { on := 16, ground := Ground.data }, { on := 11, ground := Ground.chain }, { on := 11, ground := Ground.guard }], guard := some (11, false) }) rfl (fun K hK => ?_) AllReadyH.nil
      rw [if_pos (by kernel_rfl)]
      go_simp
      refine ((unhide B10).step1 ((unhide HF).mono (by omega)) y (unhide HYK)).mono ?_
      rintro e w9 ⟨rfl, h9⟩
      have B11 := hide h9
      clear h9
      go_wp2_with fail
      refine hK.out _ _ (unhide HCE _ (unhide B11).bel) (fun hS3 => ?_)
      clear hK K
      try simp only [Act.put, List.setIfInBounds_toArray, List.set_cons_zero, List.set_cons_succ]
      refine wpAnyH_ready (rs := [23]) (by kernel_rfl) (by simp) ?_
      refine AllReadyH.cons (o := { dst := some 55, op := Op.call { callee := Callee.value (Operand.func 28), args := #[Operand.tmp 50, Operand.tmp 54], argTypes := #[54, 49] }, type := 3, pos := "law02.go:45", after := #[{ on := 18, ground := Ground.data }, { on := 22, ground := Ground.data }, { on := 17, ground := Ground.chain }, { on := 11, ground := Ground.guard }], guard := some (11, false) }) rfl (fun K hK => ?_) AllReadyH.nil
      rw [if_pos (by kernel_rfl)]
      go_simp
      refine ((unhide B11).step2 (by omega) y (unhide HYK)).mono ?_
      rintro e w10 ⟨rfl, h10⟩
      have B12 := hide h10
      clear h10
      go_wp2_with fail
      refine hK.out _ _ (unhide HCE _ (unhide B12).bel) (fun hS4 => ?_)
      clear hK K
      try simp only [Act.put, List.setIfInBounds_toArray, List.set_cons_zero, List.set_cons_succ]
      refine wpAnyH_take (i := 24) (oi := { dst := some 56, op := Op.binOp BinOp.neq 3 (Operand.tmp 49) (Operand.tmp 55) 3, type := 4, pos := "law02.go:45", after := #[{ on := 17, ground := Ground.data }, { on := 23, ground := Ground.data }, { on := 11, ground := Ground.guard }], guard := some (11, false) }) (v := .bool false) rfl (by kernel_rfl) (by kernel_rfl) (by kernel_rfl) (fun _ _ _ h => h) (Or.inl ⟨by kernel_rfl, fun W h => run_neq_i (.tmp 49) (.tmp 55) (by kernel_rfl) (code S y) (by kernel_rfl) (by kernel_rfl) W⟩) hS4 ?_
      try simp only [Act.put, List.setIfInBounds_toArray, List.set_cons_zero, List.set_cons_succ]
      refine wpAnyH_take (i := 25) (oi := { dst := some 57, op := Op.pick (Operand.tmp 43) (Operand.const (Value.bool true)) (Operand.tmp 56), type := 4, pos := "law02.go:45", after := #[{ on := 11, ground := Ground.data }, { on := 24, ground := Ground.data }], guard := none }) (v := .bool false) rfl (by kernel_rfl) (by kernel_rfl) (by kernel_rfl) (fun _ _ _ h => h) (Or.inl ⟨by kernel_rfl, fun W h => (by first | kernel_rfl | go_simp)⟩) hS4 ?_
      try simp only [Act.put, List.setIfInBounds_toArray, List.set_cons_zero, List.set_cons_succ]
      refine wpAnyH_done (by kernel_rfl) ?_ _
      go_wp2_with fail
      go_roundw
      case rel => exact ⟨k + 1, by omega, by go_num, hide ⟨step S y, (unhide HF).step y, unhide B12⟩⟩
      case measure => simp [intOf]; omega
    · have tn : decide ((k : Int) < (L.length : Int)) = false := by simp; omega
      have hk2 : k ≤ 200 := by omega
      clear HSt HOk
      go_wp2_with fail
      go_loopw [8] (fun i wr => ∃ j : Int, -1 ≤ j ∧ j ≤ 4 ∧ i = .int .i64 j ∧ Hid (Bo w bw (bw + 1) x S S k wr)) (fun i _ => (4 - intOf i).toNat)
      case atStart => exact ⟨-1, by omega, by omega, rfl, HB⟩
      case round =>
        clear HB
        obtain ⟨j, hj1, hj2, rfl, HB⟩ := hrel
        by_cases hlj : j ≤ 3
        · have t3 : decide (j ≤ 3) = true := by simpa using hlj
          go_wp2_with fail
          refine ((unhide HB).list1 ((unhide HF).mono (by omega)) j).mono ?_
          rintro e w7 ⟨v1, rfl, ho1, b7⟩
          have B8 := hide ((unhide HB).grow b7)
          have HO1 := hide ho1
          clear ho1 b7
          go_wp2_with fail
          refine ((unhide B8).list2 (by omega) j).mono ?_
          rintro e w8 ⟨v2, rfl, ho2, b8⟩
          have B9 := hide ((unhide B8).grow b8)
          have ST := hide (SameTexts_any (ownsRow_of_block (unhide HO1) (fun q hq => b8.block q ((unhide HO1).lt q hq).2)) ho2 (Nat.le_trans (names_few' (unhide HF) j) (by omega)))
          clear ho2 b8 HO1 B8
          go_wp2_with fail
          refine (unhide ST).mono ?_
          rintro e w9 ⟨rfl, b9⟩
          have B10 := hide ((unhide B9).grow b9)
          clear b9 ST B9
          go_wp2_with fail
          go_roundw
          case rel => exact ⟨j + 1, by omega, by omega, by go_num, B10⟩
          case measure => simp [intOf]; omega
        · have t3 : decide (j ≤ 3) = false := by simpa using hlj
          have q1 := (unhide HB).box 1 _ rfl
          have q3 := (unhide HB).box 3 _ rfl
          have q4 := (unhide HB).box 4 _ rfl
          go_wp2_with fail
          refine ((unhide HB).read1 ((unhide HF).mono (by omega)) x.dir x.name (unhide HXo).big.1 x.p).mono ?_
          rintro e w7 ⟨rfl, b7⟩
          have B8 := hide ((unhide HB).grow b7)
          clear b7 q1 q3 q4
          have q1 := (unhide B8).box 1 _ rfl
          have q3 := (unhide B8).box 3 _ rfl
          have q4 := (unhide B8).box 4 _ rfl
          go_wp2_with fail
          refine ((unhide B8).read2 (by omega) x.dir x.name (unhide HXo).big.1 x.p).mono ?_
          rintro e w8 ⟨er, b8⟩
          unfold readIs at er
          subst er
          have B9 := hide ((unhide B8).grow b8)
          clear b8 q1 q3 q4 B8 HB
          generalize rdT S x.dir x.name x.p = rt
          generalize rdB S x.dir x.name x.p = rb
          generalize code S (cut x.dir x.name x.p) = rc
          go_wp2_with fail
          have Bd := hide ((unhide B9).grow (Below.refl _ _).drew)
          refine wp_region_held_drew (S := fun W => ∀ (j : Nat) (u : Value), (stpA x)[j]? = some u → W.cell? ⟨w.heap.size, j, none⟩ = some u) (by kernel_rfl) (unhide Bd).box (fun hS => ?_)
          refine wpAnyH_take (i := 0) (oi := { dst := some 94, op := Op.load 49 (Operand.tmp 3), type := 49, pos := "law02.go:56", after := #[], guard := none }) (v := .agg (stpA x)) rfl (by kernel_rfl) (by kernel_rfl) (by kernel_rfl) (fun _ _ _ h => h) (Or.inl ⟨by kernel_rfl, fun W h => run_ld_stp (.tmp 3) x (by kernel_rfl) (by kernel_rfl) W (fun j u hj => by rw [Nat.zero_add]; exact h j u hj)⟩) hS ?_
          try simp only [Act.put, List.setIfInBounds_toArray, List.set_cons_zero, List.set_cons_succ]
          refine wpAnyH_take (i := 2) (oi := { dst := some 96, op := Op.load 49 (Operand.tmp 3), type := 49, pos := "law02.go:56", after := #[], guard := none }) (v := .agg (stpA x)) rfl (by kernel_rfl) (by kernel_rfl) (by kernel_rfl) (fun _ _ _ h => h) (Or.inl ⟨by kernel_rfl, fun W h => run_ld_stp (.tmp 3) x (by kernel_rfl) (by kernel_rfl) W (fun j u hj => by rw [Nat.zero_add]; exact h j u hj)⟩) hS ?_
          try simp only [Act.put, List.setIfInBounds_toArray, List.set_cons_zero, List.set_cons_succ]
          refine wpAnyH_ready (rs := [1]) (by kernel_rfl) (by simp) ?_
          refine AllReadyH.cons (o := { dst := some 95, op := Op.call { callee := Callee.value (Operand.func 25), args := #[Operand.tmp 94], argTypes := #[49] }, type := 3, pos := "law02.go:56", after := #[{ on := 0, ground := Ground.data }], guard := none }) rfl (fun K hK => ?_) AllReadyH.nil
          rw [if_pos (by kernel_rfl)]
          go_simp
          refine (Check_any x (unhide HXo).big.1 (unhide HXo).big.2.1 (unhide HXo).big.2.2 _).mono ?_
          rintro e w9 ⟨rfl, b9⟩
          have B10 := hide ((unhide Bd).grow b9)
          clear b9
          go_wp2_with fail
          refine hK.out _ _ ((unhide B10).box) (fun hS1 => ?_)
          clear hK K
          try simp only [Act.put, List.setIfInBounds_toArray, List.set_cons_zero, List.set_cons_succ]
          refine wpAnyH_ready (rs := [3]) (by kernel_rfl) (by simp) ?_
          refine AllReadyH.cons (o := { dst := some 97, op := Op.call { callee := Callee.value (Operand.func 26), args := #[Operand.tmp 96], argTypes := #[49] }, type := 3, pos := "law02.go:56", after := #[{ on := 2, ground := Ground.data }, { on := 1, ground := Ground.chain }], guard := none }) rfl (fun K hK => ?_) AllReadyH.nil
          rw [if_pos (by kernel_rfl)]
          go_simp
          refine (stepFault_any x (unhide HXo).big.1 (unhide HXo).big.2.1 (unhide HXo).big.2.2 _).mono ?_
          rintro e w10 ⟨rfl, b10⟩
          have B11 := hide ((unhide B10).grow b10)
          clear b10
          go_wp2_with fail
          refine hK.out _ _ ((unhide B11).box) (fun hS2 => ?_)
          clear hK K
          try simp only [Act.put, List.setIfInBounds_toArray, List.set_cons_zero, List.set_cons_succ]
          refine wpAnyH_take (i := 4) (oi := { dst := some 98, op := Op.binOp BinOp.eql 3 (Operand.tmp 95) (Operand.tmp 97) 3, type := 4, pos := "law02.go:56", after := #[{ on := 1, ground := Ground.data }, { on := 3, ground := Ground.data }], guard := none }) (v := .bool true) rfl (by kernel_rfl) (by kernel_rfl) (by kernel_rfl) (fun _ _ _ h => h) (Or.inl ⟨by kernel_rfl, fun W h => run_eql_i (.tmp 95) (.tmp 97) (by kernel_rfl) (chk x) (by kernel_rfl) (by kernel_rfl) W⟩) hS2 ?_
          try simp only [Act.put, List.setIfInBounds_toArray, List.set_cons_zero, List.set_cons_succ]
          refine wpAnyH_take (i := 5) (oi := { dst := some 99, op := Op.move (Operand.tmp 98), type := 4, pos := "law02.go:56", after := #[{ on := 4, ground := Ground.data }, { on := 3, ground := Ground.chain }], guard := none }) (v := .bool true) rfl (by kernel_rfl) (by kernel_rfl) (by kernel_rfl) (fun _ _ _ h => h) (Or.inl ⟨by kernel_rfl, fun W h => (by first | kernel_rfl | go_simp)⟩) hS2 ?_
          try simp only [Act.put, List.setIfInBounds_toArray, List.set_cons_zero, List.set_cons_succ]
          refine wpAnyH_take (i := 6) (oi := { dst := some 100, op := Op.move (Operand.tmp 9), type := 9, pos := "law02.go:56", after := #[{ on := 5, ground := Ground.guard }], guard := some (5, true) }) (v := .string rt) rfl (by kernel_rfl) (by kernel_rfl) (by kernel_rfl) (fun _ _ _ h => h) (Or.inl ⟨by kernel_rfl, fun W h => (by first | kernel_rfl | go_simp)⟩) hS2 ?_
          try simp only [Act.put, List.setIfInBounds_toArray, List.set_cons_zero, List.set_cons_succ]
          refine wpAnyH_take (i := 7) (oi := { dst := some 101, op := Op.move (Operand.tmp 12), type := 9, pos := "law02.go:56", after := #[{ on := 5, ground := Ground.guard }], guard := some (5, true) }) (v := .string rt) rfl (by kernel_rfl) (by kernel_rfl) (by kernel_rfl) (fun _ _ _ h => h) (Or.inl ⟨by kernel_rfl, fun W h => (by first | kernel_rfl | go_simp)⟩) hS2 ?_
          try simp only [Act.put, List.setIfInBounds_toArray, List.set_cons_zero, List.set_cons_succ]
          refine wpAnyH_take (i := 8) (oi := { dst := some 102, op := Op.binOp BinOp.eql 9 (Operand.tmp 100) (Operand.tmp 101) 9, type := 4, pos := "law02.go:56", after := #[{ on := 6, ground := Ground.data }, { on := 7, ground := Ground.data }, { on := 5, ground := Ground.guard }], guard := some (5, true) }) (v := .bool true) rfl (by kernel_rfl) (by kernel_rfl) (by kernel_rfl) (fun _ _ _ h => h) (Or.inl ⟨by kernel_rfl, fun W h => run_eql_s (.tmp 100) (.tmp 101) (by kernel_rfl) rt (by kernel_rfl) (by kernel_rfl) W⟩) hS2 ?_
          try simp only [Act.put, List.setIfInBounds_toArray, List.set_cons_zero, List.set_cons_succ]
          refine wpAnyH_take (i := 9) (oi := { dst := some 103, op := Op.pick (Operand.tmp 99) (Operand.tmp 102) (Operand.const (Value.bool false)), type := 4, pos := "law02.go:56", after := #[{ on := 5, ground := Ground.data }, { on := 8, ground := Ground.data }], guard := none }) (v := .bool true) rfl (by kernel_rfl) (by kernel_rfl) (by kernel_rfl) (fun _ _ _ h => h) (Or.inl ⟨by kernel_rfl, fun W h => (by first | kernel_rfl | go_simp)⟩) hS2 ?_
          try simp only [Act.put, List.setIfInBounds_toArray, List.set_cons_zero, List.set_cons_succ]
          refine wpAnyH_take (i := 10) (oi := { dst := some 104, op := Op.move (Operand.tmp 103), type := 4, pos := "law02.go:56", after := #[{ on := 9, ground := Ground.data }, { on := 5, ground := Ground.chain }], guard := none }) (v := .bool true) rfl (by kernel_rfl) (by kernel_rfl) (by kernel_rfl) (fun _ _ _ h => h) (Or.inl ⟨by kernel_rfl, fun W h => (by first | kernel_rfl | go_simp)⟩) hS2 ?_
          try simp only [Act.put, List.setIfInBounds_toArray, List.set_cons_zero, List.set_cons_succ]
          refine wpAnyH_take (i := 11) (oi := { dst := some 105, op := Op.move (Operand.tmp 10), type := 4, pos := "law02.go:56", after := #[{ on := 10, ground := Ground.guard }], guard := some (10, true) }) (v := .bool rb) rfl (by kernel_rfl) (by kernel_rfl) (by kernel_rfl) (fun _ _ _ h => h) (Or.inl ⟨by kernel_rfl, fun W h => (by first | kernel_rfl | go_simp)⟩) hS2 ?_
          try simp only [Act.put, List.setIfInBounds_toArray, List.set_cons_zero, List.set_cons_succ]
          refine wpAnyH_take (i := 12) (oi := { dst := some 106, op := Op.move (Operand.tmp 13), type := 4, pos := "law02.go:56", after := #[{ on := 10, ground := Ground.guard }], guard := some (10, true) }) (v := .bool rb) rfl (by kernel_rfl) (by kernel_rfl) (by kernel_rfl) (fun _ _ _ h => h) (Or.inl ⟨by kernel_rfl, fun W h => (by first | kernel_rfl | go_simp)⟩) hS2 ?_
          try simp only [Act.put, List.setIfInBounds_toArray, List.set_cons_zero, List.set_cons_succ]
          refine wpAnyH_take (i := 13) (oi := { dst := some 107, op := Op.binOp BinOp.eql 4 (Operand.tmp 105) (Operand.tmp 106) 4, type := 4, pos := "law02.go:56", after := #[{ on := 11, ground := Ground.data }, { on := 12, ground := Ground.data }, { on := 10, ground := Ground.guard }], guard := some (10, true) }) (v := .bool true) rfl (by kernel_rfl) (by kernel_rfl) (by kernel_rfl) (fun _ _ _ h => h) (Or.inl ⟨by kernel_rfl, fun W h => run_eql_b (.tmp 105) (.tmp 106) (by kernel_rfl) rb (by kernel_rfl) (by kernel_rfl) W⟩) hS2 ?_
          try simp only [Act.put, List.setIfInBounds_toArray, List.set_cons_zero, List.set_cons_succ]
          refine wpAnyH_take (i := 14) (oi := { dst := some 108, op := Op.pick (Operand.tmp 104) (Operand.tmp 107) (Operand.const (Value.bool false)), type := 4, pos := "law02.go:56", after := #[{ on := 10, ground := Ground.data }, { on := 13, ground := Ground.data }], guard := none }) (v := .bool true) rfl (by kernel_rfl) (by kernel_rfl) (by kernel_rfl) (fun _ _ _ h => h) (Or.inl ⟨by kernel_rfl, fun W h => (by first | kernel_rfl | go_simp)⟩) hS2 ?_
          try simp only [Act.put, List.setIfInBounds_toArray, List.set_cons_zero, List.set_cons_succ]
          refine wpAnyH_take (i := 15) (oi := { dst := some 109, op := Op.move (Operand.tmp 108), type := 4, pos := "law02.go:56", after := #[{ on := 14, ground := Ground.data }, { on := 10, ground := Ground.chain }], guard := none }) (v := .bool true) rfl (by kernel_rfl) (by kernel_rfl) (by kernel_rfl) (fun _ _ _ h => h) (Or.inl ⟨by kernel_rfl, fun W h => (by first | kernel_rfl | go_simp)⟩) hS2 ?_
          try simp only [Act.put, List.setIfInBounds_toArray, List.set_cons_zero, List.set_cons_succ]
          refine wpAnyH_take (i := 16) (oi := { dst := some 110, op := Op.move (Operand.tmp 11), type := 3, pos := "law02.go:56", after := #[{ on := 15, ground := Ground.guard }], guard := some (15, true) }) (v := .int .i64 rc) rfl (by kernel_rfl) (by kernel_rfl) (by kernel_rfl) (fun _ _ _ h => h) (Or.inl ⟨by kernel_rfl, fun W h => (by first | kernel_rfl | go_simp)⟩) hS2 ?_
          try simp only [Act.put, List.setIfInBounds_toArray, List.set_cons_zero, List.set_cons_succ]
          refine wpAnyH_take (i := 17) (oi := { dst := some 111, op := Op.move (Operand.tmp 14), type := 3, pos := "law02.go:56", after := #[{ on := 15, ground := Ground.guard }], guard := some (15, true) }) (v := .int .i64 rc) rfl (by kernel_rfl) (by kernel_rfl) (by kernel_rfl) (fun _ _ _ h => h) (Or.inl ⟨by kernel_rfl, fun W h => (by first | kernel_rfl | go_simp)⟩) hS2 ?_
          try simp only [Act.put, List.setIfInBounds_toArray, List.set_cons_zero, List.set_cons_succ]
          refine wpAnyH_take (i := 18) (oi := { dst := some 112, op := Op.binOp BinOp.eql 3 (Operand.tmp 110) (Operand.tmp 111) 3, type := 4, pos := "law02.go:56", after := #[{ on := 16, ground := Ground.data }, { on := 17, ground := Ground.data }, { on := 15, ground := Ground.guard }], guard := some (15, true) }) (v := .bool true) rfl (by kernel_rfl) (by kernel_rfl) (by kernel_rfl) (fun _ _ _ h => h) (Or.inl ⟨by kernel_rfl, fun W h => run_eql_i (.tmp 110) (.tmp 111) (by kernel_rfl) rc (by kernel_rfl) (by kernel_rfl) W⟩) hS2 ?_
          try simp only [Act.put, List.setIfInBounds_toArray, List.set_cons_zero, List.set_cons_succ]
          refine wpAnyH_take (i := 19) (oi := { dst := some 113, op := Op.pick (Operand.tmp 109) (Operand.tmp 112) (Operand.const (Value.bool false)), type := 4, pos := "law02.go:56", after := #[{ on := 15, ground := Ground.data }, { on := 18, ground := Ground.data }], guard := none }) (v := .bool true) rfl (by kernel_rfl) (by kernel_rfl) (by kernel_rfl) (fun _ _ _ h => h) (Or.inl ⟨by kernel_rfl, fun W h => (by first | kernel_rfl | go_simp)⟩) hS2 ?_
          try simp only [Act.put, List.setIfInBounds_toArray, List.set_cons_zero, List.set_cons_succ]
          refine wpAnyH_take (i := 20) (oi := { dst := some 114, op := Op.move (Operand.tmp 113), type := 4, pos := "law02.go:56", after := #[{ on := 19, ground := Ground.data }, { on := 15, ground := Ground.chain }], guard := none }) (v := .bool true) rfl (by kernel_rfl) (by kernel_rfl) (by kernel_rfl) (fun _ _ _ h => h) (Or.inl ⟨by kernel_rfl, fun W h => (by first | kernel_rfl | go_simp)⟩) hS2 ?_
          try simp only [Act.put, List.setIfInBounds_toArray, List.set_cons_zero, List.set_cons_succ]
          refine wpAnyH_take (i := 21) (oi := { dst := some 115, op := Op.move (Operand.tmp 5), type := 52, pos := "law02.go:56", after := #[{ on := 20, ground := Ground.guard }], guard := some (20, true) }) (v := .pointer (some ⟨bw, 0, none⟩)) rfl (by kernel_rfl) (by kernel_rfl) (by kernel_rfl) (fun _ _ _ h => h) (Or.inl ⟨by kernel_rfl, fun W h => (by first | kernel_rfl | go_simp)⟩) hS2 ?_
          try simp only [Act.put, List.setIfInBounds_toArray, List.set_cons_zero, List.set_cons_succ]
          refine wpAnyH_take (i := 22) (oi := { dst := some 116, op := Op.fieldAddr 49 (Operand.tmp 3) 1, type := 0, pos := "law02.go:56", after := #[{ on := 20, ground := Ground.guard }], guard := some (20, true) }) (v := .pointer (some ⟨w.heap.size, 1, none⟩)) rfl (by kernel_rfl) (by kernel_rfl) (by kernel_rfl) (fun _ _ _ h => h) (Or.inl ⟨by kernel_rfl, fun W h => (by first | kernel_rfl | go_simp)⟩) hS2 ?_
          try simp only [Act.put, List.setIfInBounds_toArray, List.set_cons_zero, List.set_cons_succ]
          refine wpAnyH_take (i := 23) (oi := { dst := some 117, op := Op.load 3 (Operand.tmp 116), type := 3, pos := "law02.go:56", after := #[{ on := 22, ground := Ground.data }, { on := 20, ground := Ground.guard }], guard := some (20, true) }) (v := .int .i64 x.dir) rfl (by kernel_rfl) (by kernel_rfl) (by kernel_rfl) (fun _ _ _ h => h) (Or.inl ⟨by kernel_rfl, fun W h => run_ld_int (.tmp 116) (by kernel_rfl) (by kernel_rfl) W (h 1 _ rfl)⟩) hS2 ?_
          try simp only [Act.put, List.setIfInBounds_toArray, List.set_cons_zero, List.set_cons_succ]
          refine wpAnyH_take (i := 24) (oi := { dst := some 118, op := Op.fieldAddr 49 (Operand.tmp 3) 4, type := 0, pos := "law02.go:56", after := #[{ on := 20, ground := Ground.guard }], guard := some (20, true) }) (v := .pointer (some ⟨w.heap.size, 4, none⟩)) rfl (by kernel_rfl) (by kernel_rfl) (by kernel_rfl) (fun _ _ _ h => h) (Or.inl ⟨by kernel_rfl, fun W h => (by first | kernel_rfl | go_simp)⟩) hS2 ?_
          try simp only [Act.put, List.setIfInBounds_toArray, List.set_cons_zero, List.set_cons_succ]
          refine wpAnyH_take (i := 25) (oi := { dst := some 119, op := Op.load 9 (Operand.tmp 118), type := 9, pos := "law02.go:56", after := #[{ on := 24, ground := Ground.data }, { on := 20, ground := Ground.guard }], guard := some (20, true) }) (v := .string x.name) rfl (by kernel_rfl) (by kernel_rfl) (by kernel_rfl) (fun _ _ _ h => h) (Or.inl ⟨by kernel_rfl, fun W h => run_ld_str (.tmp 118) (by kernel_rfl) (by kernel_rfl) W (h 4 _ rfl)⟩) hS2 ?_
          try simp only [Act.put, List.setIfInBounds_toArray, List.set_cons_zero, List.set_cons_succ]
          refine wpAnyH_take (i := 26) (oi := { dst := some 120, op := Op.fieldAddr 49 (Operand.tmp 3) 2, type := 0, pos := "law02.go:56", after := #[{ on := 20, ground := Ground.guard }], guard := some (20, true) }) (v := .pointer (some ⟨w.heap.size, 2, none⟩)) rfl (by kernel_rfl) (by kernel_rfl) (by kernel_rfl) (fun _ _ _ h => h) (Or.inl ⟨by kernel_rfl, fun W h => (by first | kernel_rfl | go_simp)⟩) hS2 ?_
          try simp only [Act.put, List.setIfInBounds_toArray, List.set_cons_zero, List.set_cons_succ]
          refine wpAnyH_take (i := 27) (oi := { dst := some 121, op := Op.load 3 (Operand.tmp 120), type := 3, pos := "law02.go:56", after := #[{ on := 26, ground := Ground.data }, { on := 20, ground := Ground.guard }], guard := some (20, true) }) (v := .int .i64 x.toDir) rfl (by kernel_rfl) (by kernel_rfl) (by kernel_rfl) (fun _ _ _ h => h) (Or.inl ⟨by kernel_rfl, fun W h => run_ld_int (.tmp 120) (by kernel_rfl) (by kernel_rfl) W (h 2 _ rfl)⟩) hS2 ?_
          try simp only [Act.put, List.setIfInBounds_toArray, List.set_cons_zero, List.set_cons_succ]
          refine wpAnyH_take (i := 28) (oi := { dst := some 122, op := Op.fieldAddr 49 (Operand.tmp 3) 5, type := 0, pos := "law02.go:56", after := #[{ on := 20, ground := Ground.guard }], guard := some (20, true) }) (v := .pointer (some ⟨w.heap.size, 5, none⟩)) rfl (by kernel_rfl) (by kernel_rfl) (by kernel_rfl) (fun _ _ _ h => h) (Or.inl ⟨by kernel_rfl, fun W h => (by first | kernel_rfl | go_simp)⟩) hS2 ?_
          try simp only [Act.put, List.setIfInBounds_toArray, List.set_cons_zero, List.set_cons_succ]
          refine wpAnyH_take (i := 29) (oi := { dst := some 123, op := Op.load 9 (Operand.tmp 122), type := 9, pos := "law02.go:56", after := #[{ on := 28, ground := Ground.data }, { on := 20, ground := Ground.guard }], guard := some (20, true) }) (v := .string x.to) rfl (by kernel_rfl) (by kernel_rfl) (by kernel_rfl) (fun _ _ _ h => h) (Or.inl ⟨by kernel_rfl, fun W h => run_ld_str (.tmp 122) (by kernel_rfl) (by kernel_rfl) W (h 5 _ rfl)⟩) hS2 ?_
          try simp only [Act.put, List.setIfInBounds_toArray, List.set_cons_zero, List.set_cons_succ]
          refine wpAnyH_take (i := 31) (oi := { dst := some 125, op := Op.move (Operand.tmp 6), type := 54, pos := "law02.go:56", after := #[{ on := 20, ground := Ground.guard }], guard := some (20, true) }) (v := .pointer (some ⟨bw + 1, 0, none⟩)) rfl (by kernel_rfl) (by kernel_rfl) (by kernel_rfl) (fun _ _ _ h => h) (Or.inl ⟨by kernel_rfl, fun W h => (by first | kernel_rfl | go_simp)⟩) hS2 ?_
          try simp only [Act.put, List.setIfInBounds_toArray, List.set_cons_zero, List.set_cons_succ]
          refine wpAnyH_take (i := 32) (oi := { dst := some 126, op := Op.fieldAddr 49 (Operand.tmp 3) 1, type := 0, pos := "law02.go:56", after := #[{ on := 20, ground := Ground.guard }], guard := some (20, true) }) (v := .pointer (some ⟨w.heap.size, 1, none⟩)) rfl (by kernel_rfl) (by kernel_rfl) (by kernel_rfl) (fun _ _ _ h => h) (Or.inl ⟨by kernel_rfl, fun W h => (by first | kernel_rfl | go_simp)⟩) hS2 ?_
          try simp only [Act.put, List.setIfInBounds_toArray, List.set_cons_zero, List.set_cons_succ]
          refine wpAnyH_take (i := 33) (oi := { dst := some 127, op := Op.load 3 (Operand.tmp 126), type := 3, pos := "law02.go:56", after := #[{ on := 32, ground := Ground.data }, { on := 20, ground := Ground.guard }], guard := some (20, true) }) (v := .int .i64 x.dir) rfl (by kernel_rfl) (by kernel_rfl) (by kernel_rfl) (fun _ _ _ h => h) (Or.inl ⟨by kernel_rfl, fun W h => run_ld_int (.tmp 126) (by kernel_rfl) (by kernel_rfl) W (h 1 _ rfl)⟩) hS2 ?_
          try simp only [Act.put, List.setIfInBounds_toArray, List.set_cons_zero, List.set_cons_succ]
          refine wpAnyH_take (i := 34) (oi := { dst := some 128, op := Op.fieldAddr 49 (Operand.tmp 3) 4, type := 0, pos := "law02.go:56", after := #[{ on := 20, ground := Ground.guard }], guard := some (20, true) }) (v := .pointer (some ⟨w.heap.size, 4, none⟩)) rfl (by kernel_rfl) (by kernel_rfl) (by kernel_rfl) (fun _ _ _ h => h) (Or.inl ⟨by kernel_rfl, fun W h => (by first | kernel_rfl | go_simp)⟩) hS2 ?_
          try simp only [Act.put, List.setIfInBounds_toArray, List.set_cons_zero, List.set_cons_succ]
          refine wpAnyH_take (i := 35) (oi := { dst := some 129, op := Op.load 9 (Operand.tmp 128), type := 9, pos := "law02.go:56", after := #[{ on := 34, ground := Ground.data }, { on := 20, ground := Ground.guard }], guard := some (20, true) }) (v := .string x.name) rfl (by kernel_rfl) (by kernel_rfl) (by kernel_rfl) (fun _ _ _ h => h) (Or.inl ⟨by kernel_rfl, fun W h => run_ld_str (.tmp 128) (by kernel_rfl) (by kernel_rfl) W (h 4 _ rfl)⟩) hS2 ?_
          try simp only [Act.put, List.setIfInBounds_toArray, List.set_cons_zero, List.set_cons_succ]
          refine wpAnyH_take (i := 36) (oi := { dst := some 130, op := Op.fieldAddr 49 (Operand.tmp 3) 2, type := 0, pos := "law02.go:56", after := #[{ on := 20, ground := Ground.guard }], guard := some (20, true) }) (v := .pointer (some ⟨w.heap.size, 2, none⟩)) rfl (by kernel_rfl) (by kernel_rfl) (by kernel_rfl) (fun _ _ _ h => h) (Or.inl ⟨by kernel_rfl, fun W h => (by first | kernel_rfl | go_simp)⟩) hS2 ?_
          try simp only [Act.put, List.setIfInBounds_toArray, List.set_cons_zero, List.set_cons_succ]
          refine wpAnyH_take (i := 37) (oi := { dst := some 131, op := Op.load 3 (Operand.tmp 130), type := 3, pos := "law02.go:56", after := #[{ on := 36, ground := Ground.data }, { on := 20, ground := Ground.guard }], guard := some (20, true) }) (v := .int .i64 x.toDir) rfl (by kernel_rfl) (by kernel_rfl) (by kernel_rfl) (fun _ _ _ h => h) (Or.inl ⟨by kernel_rfl, fun W h => run_ld_int (.tmp 130) (by kernel_rfl) (by kernel_rfl) W (h 2 _ rfl)⟩) hS2 ?_
          try simp only [Act.put, List.setIfInBounds_toArray, List.set_cons_zero, List.set_cons_succ]
          refine wpAnyH_take (i := 38) (oi := { dst := some 132, op := Op.fieldAddr 49 (Operand.tmp 3) 5, type := 0, pos := "law02.go:56", after := #[{ on := 20, ground := Ground.guard }], guard := some (20, true) }) (v := .pointer (some ⟨w.heap.size, 5, none⟩)) rfl (by kernel_rfl) (by kernel_rfl) (by kernel_rfl) (fun _ _ _ h => h) (Or.inl ⟨by kernel_rfl, fun W h => (by first | kernel_rfl | go_simp)⟩) hS2 ?_
          try simp only [Act.put, List.setIfInBounds_toArray, List.set_cons_zero, List.set_cons_succ]
          refine wpAnyH_take (i := 39) (oi := { dst := some 133, op := Op.load 9 (Operand.tmp 132), type := 9, pos := "law02.go:56", after := #[{ on := 38, ground := Ground.data }, { on := 20, ground := Ground.guard }], guard := some (20, true) }) (v := .string x.to) rfl (by kernel_rfl) (by kernel_rfl) (by kernel_rfl) (fun _ _ _ h => h) (Or.inl ⟨by kernel_rfl, fun W h => run_ld_str (.tmp 132) (by kernel_rfl) (by kernel_rfl) W (h 5 _ rfl)⟩) hS2 ?_
          try simp only [Act.put, List.setIfInBounds_toArray, List.set_cons_zero, List.set_cons_succ]
          refine wpAnyH_ready (rs := [30]) (by kernel_rfl) (by simp) ?_
          refine AllReadyH.cons (o := { dst := some 124, op := Op.call { callee := Callee.value (Operand.func 34), args := #[Operand.tmp 115, Operand.tmp 117, Operand.tmp 119, Operand.tmp 121, Operand.tmp 123], argTypes := #[52, 3, 9, 3, 9] }, type := 4, pos := "law02.go:56", after := #[{ on := 21, ground := Ground.data }, { on := 23, ground := Ground.data }, { on := 25, ground := Ground.data }, { on := 27, ground := Ground.data }, { on := 29, ground := Ground.data }, { on := 20, ground := Ground.chain }, { on := 20, ground := Ground.guard }], guard := some (20, true) }) rfl (fun K hK => ?_) AllReadyH.nil
          rw [if_pos (by kernel_rfl)]
          go_simp
          refine ((unhide B11).same1 ((unhide HF).mono (by omega)) x.dir x.name x.toDir x.to).mono ?_
          rintro e w11 ⟨rfl, b11⟩
          have B12 := hide ((unhide B11).grow b11)
          clear b11
          go_wp2_with fail
          refine hK.out _ _ ((unhide B12).box) (fun hS3 => ?_)
          clear hK K
          try simp only [Act.put, List.setIfInBounds_toArray, List.set_cons_zero, List.set_cons_succ]
          refine wpAnyH_ready (rs := [40]) (by kernel_rfl) (by simp) ?_
          refine AllReadyH.cons (o := { dst := some 134, op := Op.call { callee := Callee.value (Operand.func 35), args := #[Operand.tmp 125, Operand.tmp 127, Operand.tmp 129, Operand.tmp 131, Operand.tmp 133], argTypes := #[54, 3, 9, 3, 9] }, type := 4, pos := "law02.go:56", after := #[{ on := 31, ground := Ground.data }, { on := 33, ground := Ground.data }, { on := 35, ground := Ground.data }, { on := 37, ground := Ground.data }, { on := 39, ground := Ground.data }, { on := 30, ground := Ground.chain }, { on := 20, ground := Ground.guard }], guard := some (20, true) }) rfl (fun K hK => ?_) AllReadyH.nil
          rw [if_pos (by kernel_rfl)]
          go_simp
          refine ((unhide B12).same2 (by omega) x.dir x.name x.toDir x.to).mono ?_
          rintro e w12 ⟨rfl, q, rfl⟩
          go_wp2_with fail
          refine hK.out _ _ (fun j u hj => (unhide B12).box j u hj) (fun hS4 => ?_)
          clear hK K
          try simp only [Act.put, List.setIfInBounds_toArray, List.set_cons_zero, List.set_cons_succ]
          refine wpAnyH_take (i := 41) (oi := { dst := some 135, op := Op.binOp BinOp.eql 4 (Operand.tmp 124) (Operand.tmp 134) 4, type := 4, pos := "law02.go:56", after := #[{ on := 30, ground := Ground.data }, { on := 40, ground := Ground.data }, { on := 20, ground := Ground.guard }], guard := some (20, true) }) (v := .bool true) rfl (by kernel_rfl) (by kernel_rfl) (by kernel_rfl) (fun _ _ _ h => h) (Or.inl ⟨by kernel_rfl, fun W h => run_eql_b (.tmp 124) (.tmp 134) (by kernel_rfl) (same S x.dir x.name x.toDir x.to) (by kernel_rfl) (by kernel_rfl) W⟩) hS4 ?_
          try simp only [Act.put, List.setIfInBounds_toArray, List.set_cons_zero, List.set_cons_succ]
          refine wpAnyH_take (i := 42) (oi := { dst := some 136, op := Op.pick (Operand.tmp 114) (Operand.tmp 135) (Operand.const (Value.bool false)), type := 4, pos := "law02.go:56", after := #[{ on := 20, ground := Ground.data }, { on := 41, ground := Ground.data }], guard := none }) (v := .bool true) rfl (by kernel_rfl) (by kernel_rfl) (by kernel_rfl) (fun _ _ _ h => h) (Or.inl ⟨by kernel_rfl, fun W h => (by first | kernel_rfl | go_simp)⟩) hS4 ?_
          try simp only [Act.put, List.setIfInBounds_toArray, List.set_cons_zero, List.set_cons_succ]
          refine wpAnyH_take (i := 43) (oi := { dst := some 4, op := Op.assign (Operand.tmp 136), type := 4, pos := "law02.go:56", after := #[{ on := 42, ground := Ground.data }, { on := 40, ground := Ground.chain }, { on := 0, ground := Ground.phase }, { on := 1, ground := Ground.phase }, { on := 2, ground := Ground.phase }, { on := 3, ground := Ground.phase }, { on := 4, ground := Ground.phase }, { on := 5, ground := Ground.phase }, { on := 6, ground := Ground.phase }, { on := 7, ground := Ground.phase }, { on := 8, ground := Ground.phase }, { on := 9, ground := Ground.phase }, { on := 10, ground := Ground.phase }, { on := 11, ground := Ground.phase }, { on := 12, ground := Ground.phase }, { on := 13, ground := Ground.phase }, { on := 14, ground := Ground.phase }, { on := 15, ground := Ground.phase }, { on := 16, ground := Ground.phase }, { on := 17, ground := Ground.phase }, { on := 18, ground := Ground.phase }, { on := 19, ground := Ground.phase }, { on := 20, ground := Ground.phase }, { on := 21, ground := Ground.phase }, { on := 22, ground := Ground.phase }, { on := 23, ground := Ground.phase }, { on := 24, ground := Ground.phase }, { on := 25, ground := Ground.phase }, { on := 26, ground := Ground.phase }, { on := 27, ground := Ground.phase }, { on := 28, ground := Ground.phase }, { on := 29, ground := Ground.phase }, { on := 30, ground := Ground.phase }, { on := 31, ground := Ground.phase }, { on := 32, ground := Ground.phase }, { on := 33, ground := Ground.phase }, { on := 34, ground := Ground.phase }, { on := 35, ground := Ground.phase }, { on := 36, ground := Ground.phase }, { on := 37, ground := Ground.phase }, { on := 38, ground := Ground.phase }, { on := 39, ground := Ground.phase }, { on := 40, ground := Ground.phase }, { on := 41, ground := Ground.phase }, { on := 42, ground := Ground.phase }], guard := none }) (v := .bool true) rfl (by kernel_rfl) (by kernel_rfl) (by kernel_rfl) (fun _ _ _ h => h) (Or.inl ⟨by kernel_rfl, fun W h => (by first | kernel_rfl | go_simp)⟩) hS4 ?_
          try simp only [Act.put, List.setIfInBounds_toArray, List.set_cons_zero, List.set_cons_succ]
          refine wpAnyH_done (by kernel_rfl) ?_ _
          go_wp2_with fail
          go_ret
          exact ⟨rfl, (unhide B12).bel.trans (belowN ((Below.refl _ _).mono (unhide B12).bel.size))⟩
end Idl
end Go.Proofs.Ytmhbphmdfnlmkaa
