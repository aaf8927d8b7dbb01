/-
  The walk of (*soft.Files).full. (Written by gendj.py.)
-/
import Derived.Test.YtfpfpnhpbnnmfadGreatDoorXar
namespace Go.Proofs.YtfpfpnhpbnnmfadGreatDoor
open Go.RowKit
open Idl (Stp chk stpA)
theorem sfull_make (m k : Img) (x : Stp) (h : x.kind = 1) : Img.sfull m k x = (decide (Img.freeIno m k < 0) || Img.noPlace m k x.dir x.name) := by unfold Img.sfull; rw [if_pos h]
theorem sfull_to (m k : Img) (x : Stp) (h : x.kind = 2 ∨ x.kind = 4) : Img.sfull m k x = Img.noPlace m k x.toDir x.to := by unfold Img.sfull; rw [if_neg (by omega), if_pos h]
theorem sfull_put (m k : Img) (x : Stp) (h : x.kind = 5) : Img.sfull m k x = (decide (m.part (Img.inoOf m x.dir x.name).toNat x.p.toNat < 0) && decide (Img.freeData m k < 0)) := by unfold Img.sfull; rw [if_neg (by omega), if_neg (by omega), if_pos h]
theorem sfull_else (m k : Img) (x : Stp) (h : x.kind ≠ 1 ∧ x.kind ≠ 2 ∧ x.kind ≠ 4 ∧ x.kind ≠ 5) : Img.sfull m k x = false := by unfold Img.sfull; rw [if_neg h.1, if_neg (by omega), if_neg h.2.2.2]
section
variable {w : World} {bf bc : Nat} {cs ds : Array Value} {m k : Img} {last : Int}
/-- what a region of these files reads: the cache's place, the boxed step, the image -/
def FS (bf bc xb : Nat) (m : Img) (x : Stp) (W : World) : Prop := W.cell? ⟨bf, 0, none⟩ = some (.pointer (some ⟨bc, 0, none⟩)) ∧ (∀ (j : Nat) (u : Value), (stpA x)[j]? = some u → W.cell? ⟨xb, j, none⟩ = some u) ∧ HasAt W bc 0 m
theorem FS.of (h : Fl w bf bc cs ds m k last) (x : Stp) {W : World} (hb : Below (w.alloc (.cells (stpA x) 84)).heap.size (w.alloc (.cells (stpA x) 84)) W) : FS bf bc w.heap.size m x W := by
  have b1 : Below w.heap.size w W := ((Below.refl _ w).alloc (Nat.le_refl _) _).trans (hb.mono (by simp))
  exact ⟨(h.below b1).ptr, fun j u hj => stp_box w x W hb j u hj, (h.below b1).hasNow⟩
theorem FS.below {xb : Nat} {x : Stp} {W W' : World} (h : FS bf bc xb m x W) (hf : bf < W.heap.size) (hx : xb < W.heap.size) (hb : Below W.heap.size W W') : FS bf bc xb m x W' :=
  ⟨(hb.cell (p := ⟨bf, 0, none⟩) hf).trans h.1, fun j u hj => (hb.cell (p := ⟨xb, j, none⟩) hx).trans (h.2.1 j u hj), h.2.2.below hb h.2.2.lt⟩
set_option maxHeartbeats 2000000 in
set_option maxRecDepth 100000 in
theorem sfull_any (h : Fl w bf bc cs ds m k last) (hla : last < 4611686018427387904) (x : Stp) (h5 : x.kind = 5 → ∃ n q : Nat, n < 8 ∧ q < 2 ∧ Img.inoOf m x.dir x.name = (n : Int) ∧ x.p = (q : Int)) :
    Calls Tryz.prog 113 #[.pointer (some ⟨bf, 0, none⟩), .agg (stpA x)] w fun e w' => e = .returned (.bool (Img.sfull m k x)) ∧ Below w.heap.size w w' := by
  have BEL := hide (show Below w.heap.size w (w.alloc (.cells (stpA x) 84)) from (Below.refl _ w).alloc (Nat.le_refl _) _)
  have HF := hide h
  have HS := hide fun W hb => FS.of h x (W := W) hb
  have S0 := unhide HS _ (Below.refl _ _)
  have p0 := S0.1
  have c0 := S0.2.1 0 _ rfl
  have lt0 : bf < (w.alloc (.cells (stpA x) 84)).heap.size := Nat.lt_of_lt_of_le h.flt (by simp)
  have LT0 := hide lt0
  clear lt0
  clear h
  by_cases k1 : x.kind = 1
  · have E := hide (sfull_make m k x k1)
    have C2 := hide fun W (bW : Below w.heap.size w W) => noPlace_any ((unhide HF).below bW) x.dir x.name
    have C1 := hide fun W (bW : Below w.heap.size w W) => cInode_any bc cs ds m k (unhide HF).now (unhide HF).disk W ((unhide HF).below bW).row
    have HL := hide fun W (bW : Below w.heap.size w W) => ((unhide HF).below bW).lst
    have c1 := S0.2.1 1 _ rfl
    have c4 := S0.2.1 4 _ rfl
    have HS2 := hide fun W hb => (unhide HS W hb).2.1
    generalize Img.sfull m k x = fl at E ⊢
    generalize Img.noPlace m k x.dir x.name = np at E C2
    generalize Img.freeIno m k = fi at E C1
    have l1 : (last == 9223372036854775807) = false := by simp; omega
    obtain ⟨kind, dir, toDir, p, name, tu, text⟩ := x
    have kk : kind = 1 := k1
    subst kk
    clear S0 HS h5 k1
    by_cases hfi : fi < 0
    · have u1 : decide (fi < 0) = true := by simpa using hfi
      have E1 := hide (show fl = true by rw [unhide E, u1]; rfl)
      go_enter Tryz.func113, Tryz.ntmps113
      go_wp2_with fail
      refine (unhide C1 _ (unhide BEL)).mono ?_
      rintro e w1 ⟨rfl, b1⟩
      have B1 := hide ((unhide BEL).trans (b1.mono (by simp)))
      clear b1
      go_wp2_with fail
      go_ret
      exact ⟨ret_bool (unhide E1).symm, unhide B1⟩
    · have u1 : decide (fi < 0) = false := by simpa using hfi
      have E1 := hide (show fl = np by rw [unhide E, u1]; rfl)
      go_enter Tryz.func113, Tryz.ntmps113
      go_wp2_with fail
      refine (unhide C1 _ (unhide BEL)).mono ?_
      rintro e w1 ⟨rfl, b1⟩
      have B1 := hide ((unhide BEL).trans (b1.mono (by simp)))
      have q1 := unhide HL w1 (unhide B1)
      have g1 := unhide HS2 w1 b1 1 _ rfl
      have g4 := unhide HS2 w1 b1 4 _ rfl
      clear b1 c0 c1 c4 p0
      go_wp2_with fail
      refine (unhide C2 _ (unhide B1)).mono ?_
      rintro e w2 ⟨rfl, b2⟩
      have B2 := hide ((unhide B1).trans (b2.mono (unhide B1).size))
      clear b2
      go_wp2_with fail
      go_ret
      exact ⟨ret_bool (unhide E1).symm, unhide B2⟩
  · by_cases k24 : x.kind = 2 ∨ x.kind = 4
    · have E := hide (sfull_to m k x k24)
      have C2 := hide (noPlace_any ((unhide HF).below (unhide BEL)) x.toDir x.to)
      have c2 := S0.2.1 2 _ rfl
      have c5 := S0.2.1 5 _ rfl
      generalize Img.sfull m k x = fl at E ⊢
      generalize Img.noPlace m k x.toDir x.to = np at E C2
      obtain ⟨kind, dir, toDir, p, name, tu, text⟩ := x
      have kk : kind = 2 ∨ kind = 4 := k24
      clear S0 HS h5 k1 k24
      rcases kk with rfl | rfl
      all_goals
        go_enter Tryz.func113, Tryz.ntmps113
        go_wp2_with fail
        refine (unhide C2).mono ?_
        rintro e w2 ⟨rfl, b2⟩
        have B2 := hide ((unhide BEL).trans (b2.mono (by simp)))
        clear b2
        go_wp2_with fail
        go_ret
        exact ⟨ret_bool (unhide E).symm, unhide B2⟩
    · by_cases k5 : x.kind = 5
      · obtain ⟨n, q, hn, hq, en, eq⟩ := h5 k5
        have e0 := sfull_put m k x k5
        rw [en, eq, Int.toNat_natCast, Int.toNat_natCast] at e0
        have E := hide e0
        have C1 := hide fun W (bW : Below w.heap.size w W) => sfind_any ((unhide HF).below bW) x.dir x.name
        rw [en] at C1
        have C2 := hide fun W (bW : Below w.heap.size w W) => cData_any bc cs ds m k (unhide HF).now (unhide HF).disk W ((unhide HF).below bW).row
        have hpt := hide fun W (h : HasAt W bc 0 m) => h.part n q hn hq
        have SD := hide (unhide HS _ ((Below.refl (w.alloc (.cells (stpA x) 84)).heap.size (w.alloc (.cells (stpA x) 84))).drew))
        generalize Img.sfull m k x = fl at E ⊢
        generalize Img.freeData m k = fd at E C2
        generalize m.part n q = pt at E hpt
        obtain ⟨kind, dir, toDir, p, name, tu, text⟩ := x
        have kk : kind = 5 := k5
        subst kk
        have kp : p = (q : Int) := eq
        subst kp
        clear S0 h5 k1 k24 k5 en e0 eq
        have BD := hide ((unhide BEL).drew)
        have XLT := hide (show w.heap.size < (w.alloc (.cells (stpA ⟨5, dir, toDir, (q : Int), name, tu, text⟩) 84)).drew.heap.size from by simp [World.drew])
        go_enter Tryz.func113, Tryz.ntmps113
        go_wp2_with fail
        by_cases hpn : pt < 0
        · have U1 := hide (show decide (pt < 0) = true by simpa using hpn)
          have E1 := hide (show fl = decide (fd < 0) by rw [unhide E, unhide U1, Bool.true_and])
          clear hpn E
          refine wp_region_held_drew (S := FS bf bc w.heap.size m ⟨5, dir, toDir, (q : Int), name, tu, text⟩) (by kernel_rfl) (unhide SD) (fun hS => ?_)
          refine wpAnyH_take (i := 0) (oi := { dst := some 41, op := Op.move (Operand.tmp 0), type := 60, pos := "soft.go:139", after := #[], guard := none }) (v := .pointer (some ⟨bf, 0, none⟩)) rfl (by kernel_rfl) (by kernel_rfl) (by kernel_rfl) (fun _ _ _ h => h) (Or.inl ⟨by kernel_rfl, fun W h => (by first | kernel_rfl | go_simp)⟩) hS ?_
          try simp only [Act.put, List.setIfInBounds_toArray, List.set_cons_zero, List.set_cons_succ]
          refine wpAnyH_take (i := 1) (oi := { dst := some 42, op := Op.nilCheck (Operand.tmp 41), type := 0, pos := "soft.go:139", after := #[{ on := 0, ground := Ground.data }], guard := none }) (v := .pointer (some ⟨bf, 0, none⟩)) rfl (by kernel_rfl) (by kernel_rfl) (by kernel_rfl) (fun _ _ _ h => h) (Or.inl ⟨by kernel_rfl, fun W h => (by first | kernel_rfl | go_simp)⟩) hS ?_
          try simp only [Act.put, List.setIfInBounds_toArray, List.set_cons_zero, List.set_cons_succ]
          refine wpAnyH_take (i := 2) (oi := { dst := some 43, op := Op.fieldAddr 114 (Operand.tmp 42) 0, type := 0, pos := "soft.go:139", after := #[{ on := 1, ground := Ground.data }], guard := none }) (v := .pointer (some ⟨bf, 0, none⟩)) rfl (by kernel_rfl) (by kernel_rfl) (by kernel_rfl) (fun _ _ _ h => h) (Or.inl ⟨by kernel_rfl, fun W h => (by first | kernel_rfl | go_simp)⟩) hS ?_
          try simp only [Act.put, List.setIfInBounds_toArray, List.set_cons_zero, List.set_cons_succ]
          refine wpAnyH_take (i := 3) (oi := { dst := some 44, op := Op.load 111 (Operand.tmp 43), type := 111, pos := "soft.go:139", after := #[{ on := 2, ground := Ground.data }], guard := none }) (v := .pointer (some ⟨bc, 0, none⟩)) rfl (by kernel_rfl) (by kernel_rfl) (by kernel_rfl) (fun _ _ _ h => h) (Or.inl ⟨by kernel_rfl, fun W h => Op1.ld_ptr (.tmp 43) (by kernel_rfl) (by kernel_rfl) W (h.1)⟩) hS ?_
          try simp only [Act.put, List.setIfInBounds_toArray, List.set_cons_zero, List.set_cons_succ]
          refine wpAnyH_take (i := 4) (oi := { dst := some 45, op := Op.move (Operand.tmp 0), type := 60, pos := "soft.go:139", after := #[], guard := none }) (v := .pointer (some ⟨bf, 0, none⟩)) rfl (by kernel_rfl) (by kernel_rfl) (by kernel_rfl) (fun _ _ _ h => h) (Or.inl ⟨by kernel_rfl, fun W h => (by first | kernel_rfl | go_simp)⟩) hS ?_
          try simp only [Act.put, List.setIfInBounds_toArray, List.set_cons_zero, List.set_cons_succ]
          refine wpAnyH_take (i := 5) (oi := { dst := some 46, op := Op.fieldAddr 84 (Operand.tmp 3) 1, type := 0, pos := "soft.go:139", after := #[], guard := none }) (v := .pointer (some ⟨w.heap.size, 1, none⟩)) rfl (by kernel_rfl) (by kernel_rfl) (by kernel_rfl) (fun _ _ _ h => h) (Or.inl ⟨by kernel_rfl, fun W h => (by first | kernel_rfl | go_simp)⟩) hS ?_
          try simp only [Act.put, List.setIfInBounds_toArray, List.set_cons_zero, List.set_cons_succ]
          refine wpAnyH_take (i := 6) (oi := { dst := some 47, op := Op.load 3 (Operand.tmp 46), type := 3, pos := "soft.go:139", after := #[{ on := 5, ground := Ground.data }], guard := none }) (v := .int .i64 dir) rfl (by kernel_rfl) (by kernel_rfl) (by kernel_rfl) (fun _ _ _ h => h) (Or.inl ⟨by kernel_rfl, fun W h => Op1.ld_int (.tmp 46) (by kernel_rfl) (by kernel_rfl) W (h.2.1 1 _ rfl)⟩) hS ?_
          try simp only [Act.put, List.setIfInBounds_toArray, List.set_cons_zero, List.set_cons_succ]
          refine wpAnyH_take (i := 7) (oi := { dst := some 48, op := Op.fieldAddr 84 (Operand.tmp 3) 4, type := 0, pos := "soft.go:139", after := #[], guard := none }) (v := .pointer (some ⟨w.heap.size, 4, none⟩)) rfl (by kernel_rfl) (by kernel_rfl) (by kernel_rfl) (fun _ _ _ h => h) (Or.inl ⟨by kernel_rfl, fun W h => (by first | kernel_rfl | go_simp)⟩) hS ?_
          try simp only [Act.put, List.setIfInBounds_toArray, List.set_cons_zero, List.set_cons_succ]
          refine wpAnyH_take (i := 8) (oi := { dst := some 49, op := Op.load 9 (Operand.tmp 48), type := 9, pos := "soft.go:139", after := #[{ on := 7, ground := Ground.data }], guard := none }) (v := .string name) rfl (by kernel_rfl) (by kernel_rfl) (by kernel_rfl) (fun _ _ _ h => h) (Or.inl ⟨by kernel_rfl, fun W h => Op1.ld_str (.tmp 48) (by kernel_rfl) (by kernel_rfl) W (h.2.1 4 _ rfl)⟩) hS ?_
          try simp only [Act.put, List.setIfInBounds_toArray, List.set_cons_zero, List.set_cons_succ]
          refine wpAnyH_take (i := 10) (oi := { dst := some 51, op := Op.fieldAddr 84 (Operand.tmp 3) 3, type := 0, pos := "soft.go:139", after := #[], guard := none }) (v := .pointer (some ⟨w.heap.size, 3, none⟩)) rfl (by kernel_rfl) (by kernel_rfl) (by kernel_rfl) (fun _ _ _ h => h) (Or.inl ⟨by kernel_rfl, fun W h => (by first | kernel_rfl | go_simp)⟩) hS ?_
          try simp only [Act.put, List.setIfInBounds_toArray, List.set_cons_zero, List.set_cons_succ]
          refine wpAnyH_take (i := 11) (oi := { dst := some 52, op := Op.load 3 (Operand.tmp 51), type := 3, pos := "soft.go:139", after := #[{ on := 10, ground := Ground.data }], guard := none }) (v := .int .i64 (q : Int)) rfl (by kernel_rfl) (by kernel_rfl) (by kernel_rfl) (fun _ _ _ h => h) (Or.inl ⟨by kernel_rfl, fun W h => Op1.ld_int (.tmp 51) (by kernel_rfl) (by kernel_rfl) W (h.2.1 3 _ rfl)⟩) hS ?_
          try simp only [Act.put, List.setIfInBounds_toArray, List.set_cons_zero, List.set_cons_succ]
          refine wpAnyH_take (i := 12) (oi := { dst := some 53, op := Op.nilCheck (Operand.tmp 44), type := 0, pos := "soft.go:139", after := #[{ on := 3, ground := Ground.data }], guard := none }) (v := .pointer (some ⟨bc, 0, none⟩)) rfl (by kernel_rfl) (by kernel_rfl) (by kernel_rfl) (fun _ _ _ h => h) (Or.inl ⟨by kernel_rfl, fun W h => (by first | kernel_rfl | go_simp)⟩) hS ?_
          try simp only [Act.put, List.setIfInBounds_toArray, List.set_cons_zero, List.set_cons_succ]
          refine wpAnyH_take (i := 13) (oi := { dst := some 54, op := Op.fieldAddr 141 (Operand.tmp 53) 0, type := 0, pos := "soft.go:139", after := #[{ on := 12, ground := Ground.data }], guard := none }) (v := .pointer (some ⟨bc, 0, none⟩)) rfl (by kernel_rfl) (by kernel_rfl) (by kernel_rfl) (fun _ _ _ h => h) (Or.inl ⟨by kernel_rfl, fun W h => (by first | kernel_rfl | go_simp)⟩) hS ?_
          try simp only [Act.put, List.setIfInBounds_toArray, List.set_cons_zero, List.set_cons_succ]
          refine wpAnyH_take (i := 14) (oi := { dst := some 55, op := Op.fieldAddr 78 (Operand.tmp 54) 0, type := 0, pos := "soft.go:139", after := #[{ on := 13, ground := Ground.data }], guard := none }) (v := .pointer (some ⟨bc, 0, none⟩)) rfl (by kernel_rfl) (by kernel_rfl) (by kernel_rfl) (fun _ _ _ h => h) (Or.inl ⟨by kernel_rfl, fun W h => (by first | kernel_rfl | go_simp)⟩) hS ?_
          try simp only [Act.put, List.setIfInBounds_toArray, List.set_cons_zero, List.set_cons_succ]
          generalize World.drew _ = W0 at hS BD XLT ⊢
          refine wpAnyH_ready (rs := [9]) (by kernel_rfl) (by simp) ?_
          refine AllReadyH.cons (o := { dst := some 50, op := Op.call { callee := Callee.value (Operand.func 87), args := #[Operand.tmp 45, Operand.tmp 47, Operand.tmp 49], argTypes := #[60, 3, 9] }, type := 3, pos := "soft.go:139", after := #[{ on := 4, ground := Ground.data }, { on := 6, ground := Ground.data }, { on := 8, ground := Ground.data }], guard := none }) rfl (fun K hK => ?_) AllReadyH.nil
          rw [if_pos (by kernel_rfl)]
          go_simp
          refine (unhide C1 W0 (unhide BD)).mono ?_
          rintro e w1 ⟨rfl, e9⟩
          rw [e9]
          clear e9 w1
          go_wp2_with fail
          refine hK.out _ _ (hS) (fun hS1 => ?_)
          clear hK K
          try simp only [Act.put, List.setIfInBounds_toArray, List.set_cons_zero, List.set_cons_succ]
          refine wpAnyH_take (i := 15) (oi := { dst := some 56, op := Op.indexAddr 69 (Operand.tmp 55) (Operand.tmp 50), type := 0, pos := "soft.go:139", after := #[{ on := 14, ground := Ground.data }, { on := 9, ground := Ground.data }], guard := none }) (v := .pointer (some ⟨bc, n * 5, none⟩)) rfl (by kernel_rfl) (by kernel_rfl) (by kernel_rfl) (fun _ _ _ h => h) (Or.inl ⟨by kernel_rfl, fun W h => Op1.ix_ino (.tmp 55) (.tmp 50) (by kernel_rfl) (by kernel_rfl) (by kernel_rfl) (hn) W⟩) hS1 ?_
          try simp only [Act.put, List.setIfInBounds_toArray, List.set_cons_zero, List.set_cons_succ]
          refine wpAnyH_take (i := 16) (oi := { dst := some 57, op := Op.fieldAddr 68 (Operand.tmp 56) 3, type := 0, pos := "soft.go:139", after := #[{ on := 15, ground := Ground.data }], guard := none }) (v := .pointer (some ⟨bc, n * 5 + 3, none⟩)) rfl (by kernel_rfl) (by kernel_rfl) (by kernel_rfl) (fun _ _ _ h => h) (Or.inl ⟨by kernel_rfl, fun W h => (by first | kernel_rfl | go_simp)⟩) hS1 ?_
          try simp only [Act.put, List.setIfInBounds_toArray, List.set_cons_zero, List.set_cons_succ]
          refine wpAnyH_take (i := 17) (oi := { dst := some 58, op := Op.indexAddr 66 (Operand.tmp 57) (Operand.tmp 52), type := 0, pos := "soft.go:139", after := #[{ on := 16, ground := Ground.data }, { on := 11, ground := Ground.data }], guard := none }) (v := .pointer (some ⟨bc, n * 5 + 3 + q, none⟩)) rfl (by kernel_rfl) (by kernel_rfl) (by kernel_rfl) (fun _ _ _ h => h) (Or.inl ⟨by kernel_rfl, fun W h => Op1.ix_part (.tmp 57) (.tmp 52) (by kernel_rfl) (by kernel_rfl) (by kernel_rfl) (hq) W⟩) hS1 ?_
          try simp only [Act.put, List.setIfInBounds_toArray, List.set_cons_zero, List.set_cons_succ]
          refine wpAnyH_take (i := 18) (oi := { dst := some 59, op := Op.load 3 (Operand.tmp 58), type := 3, pos := "soft.go:139", after := #[{ on := 17, ground := Ground.data }], guard := none }) (v := .int .i64 pt) rfl (by kernel_rfl) (by kernel_rfl) (by kernel_rfl) (fun _ _ _ h => h) (Or.inl ⟨by kernel_rfl, fun W h => Op1.ld_int (.tmp 58) (by kernel_rfl) (by kernel_rfl) W (by have := unhide hpt W h.2.2; rw [Nat.zero_add] at this; exact this)⟩) hS1 ?_
          try simp only [Act.put, List.setIfInBounds_toArray, List.set_cons_zero, List.set_cons_succ]
          refine wpAnyH_take (i := 19) (oi := { dst := some 60, op := Op.binOp BinOp.lss 3 (Operand.tmp 59) (Operand.const (Value.int IntKind.i64 0)) 3, type := 4, pos := "soft.go:139", after := #[{ on := 18, ground := Ground.data }], guard := none }) (v := .bool true) rfl (by kernel_rfl) (by kernel_rfl) (by kernel_rfl) (fun _ _ _ h => h) (Or.inl ⟨by kernel_rfl, fun W h => (by rw [← unhide U1]; exact Op1.lss0 (.tmp 59) (by kernel_rfl) (by kernel_rfl) (by kernel_rfl) W)⟩) hS1 ?_
          try simp only [Act.put, List.setIfInBounds_toArray, List.set_cons_zero, List.set_cons_succ]
          refine wpAnyH_take (i := 20) (oi := { dst := some 61, op := Op.move (Operand.tmp 60), type := 4, pos := "soft.go:139", after := #[{ on := 19, ground := Ground.data }, { on := 9, ground := Ground.chain }], guard := none }) (v := .bool true) rfl (by kernel_rfl) (by kernel_rfl) (by kernel_rfl) (fun _ _ _ h => h) (Or.inl ⟨by kernel_rfl, fun W h => (by first | kernel_rfl | go_simp)⟩) hS1 ?_
          try simp only [Act.put, List.setIfInBounds_toArray, List.set_cons_zero, List.set_cons_succ]
          refine wpAnyH_take (i := 21) (oi := { dst := some 62, op := Op.move (Operand.tmp 0), type := 60, pos := "soft.go:139", after := #[{ on := 20, ground := Ground.guard }], guard := some (20, true) }) (v := .pointer (some ⟨bf, 0, none⟩)) rfl (by kernel_rfl) (by kernel_rfl) (by kernel_rfl) (fun _ _ _ h => h) (Or.inl ⟨by kernel_rfl, fun W h => (by first | kernel_rfl | go_simp)⟩) hS1 ?_
          try simp only [Act.put, List.setIfInBounds_toArray, List.set_cons_zero, List.set_cons_succ]
          refine wpAnyH_take (i := 22) (oi := { dst := some 63, op := Op.nilCheck (Operand.tmp 62), type := 0, pos := "soft.go:139", after := #[{ on := 21, ground := Ground.data }, { on := 20, ground := Ground.guard }], guard := some (20, true) }) (v := .pointer (some ⟨bf, 0, none⟩)) rfl (by kernel_rfl) (by kernel_rfl) (by kernel_rfl) (fun _ _ _ h => h) (Or.inl ⟨by kernel_rfl, fun W h => (by first | kernel_rfl | go_simp)⟩) hS1 ?_
          try simp only [Act.put, List.setIfInBounds_toArray, List.set_cons_zero, List.set_cons_succ]
          refine wpAnyH_take (i := 23) (oi := { dst := some 64, op := Op.fieldAddr 114 (Operand.tmp 63) 0, type := 0, pos := "soft.go:139", after := #[{ on := 22, ground := Ground.data }, { on := 20, ground := Ground.guard }], guard := some (20, true) }) (v := .pointer (some ⟨bf, 0, none⟩)) rfl (by kernel_rfl) (by kernel_rfl) (by kernel_rfl) (fun _ _ _ h => h) (Or.inl ⟨by kernel_rfl, fun W h => (by first | kernel_rfl | go_simp)⟩) hS1 ?_
          try simp only [Act.put, List.setIfInBounds_toArray, List.set_cons_zero, List.set_cons_succ]
          refine wpAnyH_take (i := 24) (oi := { dst := some 65, op := Op.load 111 (Operand.tmp 64), type := 111, pos := "soft.go:139", after := #[{ on := 23, ground := Ground.data }, { on := 20, ground := Ground.guard }], guard := some (20, true) }) (v := .pointer (some ⟨bc, 0, none⟩)) rfl (by kernel_rfl) (by kernel_rfl) (by kernel_rfl) (fun _ _ _ h => h) (Or.inl ⟨by kernel_rfl, fun W h => Op1.ld_ptr (.tmp 64) (by kernel_rfl) (by kernel_rfl) W (h.1)⟩) hS1 ?_
          try simp only [Act.put, List.setIfInBounds_toArray, List.set_cons_zero, List.set_cons_succ]
          refine wpAnyH_ready (rs := [25]) (by kernel_rfl) (by simp) ?_
          refine AllReadyH.cons (o := { dst := some 66, op := Op.call { callee := Callee.value (Operand.func 155), args := #[Operand.tmp 65], argTypes := #[111] }, type := 3, pos := "soft.go:139", after := #[{ on := 24, ground := Ground.data }, { on := 20, ground := Ground.chain }, { on := 20, ground := Ground.guard }], guard := some (20, true) }) rfl (fun K hK => ?_) AllReadyH.nil
          rw [if_pos (by kernel_rfl)]
          go_simp
          refine (unhide C2 W0 (unhide BD)).mono ?_
          rintro e w2 ⟨rfl, b2⟩
          have B2 := hide ((unhide BD).trans (b2.mono (unhide BD).size))
          go_wp2_with fail
          refine hK.out _ _ (hS1.below (Nat.lt_of_lt_of_le (unhide HF).flt (unhide BD).size) (unhide XLT) b2) (fun hS2 => ?_)
          clear hK K
          try simp only [Act.put, List.setIfInBounds_toArray, List.set_cons_zero, List.set_cons_succ]
          refine wpAnyH_take (i := 26) (oi := { dst := some 67, op := Op.binOp BinOp.lss 3 (Operand.tmp 66) (Operand.const (Value.int IntKind.i64 0)) 3, type := 4, pos := "soft.go:139", after := #[{ on := 25, ground := Ground.data }, { on := 20, ground := Ground.guard }], guard := some (20, true) }) (v := .bool (decide (fd < 0))) rfl (by kernel_rfl) (by kernel_rfl) (by kernel_rfl) (fun _ _ _ h => h) (Or.inl ⟨by kernel_rfl, fun W h => Op1.lss0 (.tmp 66) (by kernel_rfl) (by kernel_rfl) (by kernel_rfl) W⟩) hS2 ?_
          try simp only [Act.put, List.setIfInBounds_toArray, List.set_cons_zero, List.set_cons_succ]
          refine wpAnyH_take (i := 27) (oi := { dst := some 68, op := Op.pick (Operand.tmp 61) (Operand.tmp 67) (Operand.const (Value.bool false)), type := 4, pos := "soft.go:139", after := #[{ on := 20, ground := Ground.data }, { on := 26, ground := Ground.data }], guard := none }) (v := .bool (decide (fd < 0))) rfl (by kernel_rfl) (by kernel_rfl) (by kernel_rfl) (fun _ _ _ h => h) (Or.inl ⟨by kernel_rfl, fun W h => (by first | kernel_rfl | go_simp)⟩) hS2 ?_
          try simp only [Act.put, List.setIfInBounds_toArray, List.set_cons_zero, List.set_cons_succ]
          refine wpAnyH_take (i := 28) (oi := { dst := some 4, op := Op.assign (Operand.tmp 68), type := 4, pos := "soft.go:139", after := #[{ on := 27, ground := Ground.data }, { on := 25, ground := Ground.chain }, { on := 0, ground := Ground.phase }, { on := 1, ground := Ground.phase }, { on := 2, ground := Ground.phase }, { on := 3, ground := Ground.phase }, { on := 4, ground := Ground.phase }, { on := 5, ground := Ground.phase }, { on := 6, ground := Ground.phase }, { on := 7, ground := Ground.phase }, { on := 8, ground := Ground.phase }, { on := 9, ground := Ground.phase }, { on := 10, ground := Ground.phase }, { on := 11, ground := Ground.phase }, { on := 12, ground := Ground.phase }, { on := 13, ground := Ground.phase }, { on := 14, ground := Ground.phase }, { on := 15, ground := Ground.phase }, { on := 16, ground := Ground.phase }, { on := 17, ground := Ground.phase }, { on := 18, ground := Ground.phase }, { on := 19, ground := Ground.phase }, { on := 20, ground := Ground.phase }, { on := 21, ground := Ground.phase }, { on := 22, ground := Ground.phase }, { on := 23, ground := Ground.phase }, { on := 24, ground := Ground.phase }, { on := 25, ground := Ground.phase }, { on := 26, ground := Ground.phase }, { on := 27, ground := Ground.phase }], guard := none }) (v := .bool (decide (fd < 0))) rfl (by kernel_rfl) (by kernel_rfl) (by kernel_rfl) (fun _ _ _ h => h) (Or.inl ⟨by kernel_rfl, fun W h => (by first | kernel_rfl | go_simp)⟩) hS2 ?_
          try simp only [Act.put, List.setIfInBounds_toArray, List.set_cons_zero, List.set_cons_succ]
          refine wpAnyH_done (by kernel_rfl) ?_ _
          clear hS hS1 hS2
          go_wp2_with fail
          go_ret
          exact ⟨ret_bool (unhide E1).symm, unhide B2⟩
        · have U1 := hide (show decide (pt < 0) = false by simpa using hpn)
          have E1 := hide (show fl = false by rw [unhide E, unhide U1, Bool.false_and])
          clear hpn E
          refine wp_region_held_drew (S := FS bf bc w.heap.size m ⟨5, dir, toDir, (q : Int), name, tu, text⟩) (by kernel_rfl) (unhide SD) (fun hS => ?_)
          refine wpAnyH_take (i := 0) (oi := { dst := some 41, op := Op.move (Operand.tmp 0), type := 60, pos := "soft.go:139", after := #[], guard := none }) (v := .pointer (some ⟨bf, 0, none⟩)) rfl (by kernel_rfl) (by kernel_rfl) (by kernel_rfl) (fun _ _ _ h => h) (Or.inl ⟨by kernel_rfl, fun W h => (by first | kernel_rfl | go_simp)⟩) hS ?_
          try simp only [Act.put, List.setIfInBounds_toArray, List.set_cons_zero, List.set_cons_succ]
          refine wpAnyH_take (i := 1) (oi := { dst := some 42, op := Op.nilCheck (Operand.tmp 41), type := 0, pos := "soft.go:139", after := #[{ on := 0, ground := Ground.data }], guard := none }) (v := .pointer (some ⟨bf, 0, none⟩)) rfl (by kernel_rfl) (by kernel_rfl) (by kernel_rfl) (fun _ _ _ h => h) (Or.inl ⟨by kernel_rfl, fun W h => (by first | kernel_rfl | go_simp)⟩) hS ?_
          try simp only [Act.put, List.setIfInBounds_toArray, List.set_cons_zero, List.set_cons_succ]
          refine wpAnyH_take (i := 2) (oi := { dst := some 43, op := Op.fieldAddr 114 (Operand.tmp 42) 0, type := 0, pos := "soft.go:139", after := #[{ on := 1, ground := Ground.data }], guard := none }) (v := .pointer (some ⟨bf, 0, none⟩)) rfl (by kernel_rfl) (by kernel_rfl) (by kernel_rfl) (fun _ _ _ h => h) (Or.inl ⟨by kernel_rfl, fun W h => (by first | kernel_rfl | go_simp)⟩) hS ?_
          try simp only [Act.put, List.setIfInBounds_toArray, List.set_cons_zero, List.set_cons_succ]
          refine wpAnyH_take (i := 3) (oi := { dst := some 44, op := Op.load 111 (Operand.tmp 43), type := 111, pos := "soft.go:139", after := #[{ on := 2, ground := Ground.data }], guard := none }) (v := .pointer (some ⟨bc, 0, none⟩)) rfl (by kernel_rfl) (by kernel_rfl) (by kernel_rfl) (fun _ _ _ h => h) (Or.inl ⟨by kernel_rfl, fun W h => Op1.ld_ptr (.tmp 43) (by kernel_rfl) (by kernel_rfl) W (h.1)⟩) hS ?_
          try simp only [Act.put, List.setIfInBounds_toArray, List.set_cons_zero, List.set_cons_succ]
          refine wpAnyH_take (i := 4) (oi := { dst := some 45, op := Op.move (Operand.tmp 0), type := 60, pos := "soft.go:139", after := #[], guard := none }) (v := .pointer (some ⟨bf, 0, none⟩)) rfl (by kernel_rfl) (by kernel_rfl) (by kernel_rfl) (fun _ _ _ h => h) (Or.inl ⟨by kernel_rfl, fun W h => (by first | kernel_rfl | go_simp)⟩) hS ?_
          try simp only [Act.put, List.setIfInBounds_toArray, List.set_cons_zero, List.set_cons_succ]
          refine wpAnyH_take (i := 5) (oi := { dst := some 46, op := Op.fieldAddr 84 (Operand.tmp 3) 1, type := 0, pos := "soft.go:139", after := #[], guard := none }) (v := .pointer (some ⟨w.heap.size, 1, none⟩)) rfl (by kernel_rfl) (by kernel_rfl) (by kernel_rfl) (fun _ _ _ h => h) (Or.inl ⟨by kernel_rfl, fun W h => (by first | kernel_rfl | go_simp)⟩) hS ?_
          try simp only [Act.put, List.setIfInBounds_toArray, List.set_cons_zero, List.set_cons_succ]
          refine wpAnyH_take (i := 6) (oi := { dst := some 47, op := Op.load 3 (Operand.tmp 46), type := 3, pos := "soft.go:139", after := #[{ on := 5, ground := Ground.data }], guard := none }) (v := .int .i64 dir) rfl (by kernel_rfl) (by kernel_rfl) (by kernel_rfl) (fun _ _ _ h => h) (Or.inl ⟨by kernel_rfl, fun W h => Op1.ld_int (.tmp 46) (by kernel_rfl) (by kernel_rfl) W (h.2.1 1 _ rfl)⟩) hS ?_
          try simp only [Act.put, List.setIfInBounds_toArray, List.set_cons_zero, List.set_cons_succ]
          refine wpAnyH_take (i := 7) (oi := { dst := some 48, op := Op.fieldAddr 84 (Operand.tmp 3) 4, type := 0, pos := "soft.go:139", after := #[], guard := none }) (v := .pointer (some ⟨w.heap.size, 4, none⟩)) rfl (by kernel_rfl) (by kernel_rfl) (by kernel_rfl) (fun _ _ _ h => h) (Or.inl ⟨by kernel_rfl, fun W h => (by first | kernel_rfl | go_simp)⟩) hS ?_
          try simp only [Act.put, List.setIfInBounds_toArray, List.set_cons_zero, List.set_cons_succ]
          refine wpAnyH_take (i := 8) (oi := { dst := some 49, op := Op.load 9 (Operand.tmp 48), type := 9, pos := "soft.go:139", after := #[{ on := 7, ground := Ground.data }], guard := none }) (v := .string name) rfl (by kernel_rfl) (by kernel_rfl) (by kernel_rfl) (fun _ _ _ h => h) (Or.inl ⟨by kernel_rfl, fun W h => Op1.ld_str (.tmp 48) (by kernel_rfl) (by kernel_rfl) W (h.2.1 4 _ rfl)⟩) hS ?_
          try simp only [Act.put, List.setIfInBounds_toArray, List.set_cons_zero, List.set_cons_succ]
          refine wpAnyH_take (i := 10) (oi := { dst := some 51, op := Op.fieldAddr 84 (Operand.tmp 3) 3, type := 0, pos := "soft.go:139", after := #[], guard := none }) (v := .pointer (some ⟨w.heap.size, 3, none⟩)) rfl (by kernel_rfl) (by kernel_rfl) (by kernel_rfl) (fun _ _ _ h => h) (Or.inl ⟨by kernel_rfl, fun W h => (by first | kernel_rfl | go_simp)⟩) hS ?_
          try simp only [Act.put, List.setIfInBounds_toArray, List.set_cons_zero, List.set_cons_succ]
          refine wpAnyH_take (i := 11) (oi := { dst := some 52, op := Op.load 3 (Operand.tmp 51), type := 3, pos := "soft.go:139", after := #[{ on := 10, ground := Ground.data }], guard := none }) (v := .int .i64 (q : Int)) rfl (by kernel_rfl) (by kernel_rfl) (by kernel_rfl) (fun _ _ _ h => h) (Or.inl ⟨by kernel_rfl, fun W h => Op1.ld_int (.tmp 51) (by kernel_rfl) (by kernel_rfl) W (h.2.1 3 _ rfl)⟩) hS ?_
          try simp only [Act.put, List.setIfInBounds_toArray, List.set_cons_zero, List.set_cons_succ]
          refine wpAnyH_take (i := 12) (oi := { dst := some 53, op := Op.nilCheck (Operand.tmp 44), type := 0, pos := "soft.go:139", after := #[{ on := 3, ground := Ground.data }], guard := none }) (v := .pointer (some ⟨bc, 0, none⟩)) rfl (by kernel_rfl) (by kernel_rfl) (by kernel_rfl) (fun _ _ _ h => h) (Or.inl ⟨by kernel_rfl, fun W h => (by first | kernel_rfl | go_simp)⟩) hS ?_
          try simp only [Act.put, List.setIfInBounds_toArray, List.set_cons_zero, List.set_cons_succ]
          refine wpAnyH_take (i := 13) (oi := { dst := some 54, op := Op.fieldAddr 141 (Operand.tmp 53) 0, type := 0, pos := "soft.go:139", after := #[{ on := 12, ground := Ground.data }], guard := none }) (v := .pointer (some ⟨bc, 0, none⟩)) rfl (by kernel_rfl) (by kernel_rfl) (by kernel_rfl) (fun _ _ _ h => h) (Or.inl ⟨by kernel_rfl, fun W h => (by first | kernel_rfl | go_simp)⟩) hS ?_
          try simp only [Act.put, List.setIfInBounds_toArray, List.set_cons_zero, List.set_cons_succ]
          refine wpAnyH_take (i := 14) (oi := { dst := some 55, op := Op.fieldAddr 78 (Operand.tmp 54) 0, type := 0, pos := "soft.go:139", after := #[{ on := 13, ground := Ground.data }], guard := none }) (v := .pointer (some ⟨bc, 0, none⟩)) rfl (by kernel_rfl) (by kernel_rfl) (by kernel_rfl) (fun _ _ _ h => h) (Or.inl ⟨by kernel_rfl, fun W h => (by first | kernel_rfl | go_simp)⟩) hS ?_
          try simp only [Act.put, List.setIfInBounds_toArray, List.set_cons_zero, List.set_cons_succ]
          generalize World.drew _ = W0 at hS BD ⊢
          refine wpAnyH_ready (rs := [9]) (by kernel_rfl) (by simp) ?_
          refine AllReadyH.cons (o := { dst := some 50, op := Op.call { callee := Callee.value (Operand.func 87), args := #[Operand.tmp 45, Operand.tmp 47, Operand.tmp 49], argTypes := #[60, 3, 9] }, type := 3, pos := "soft.go:139", after := #[{ on := 4, ground := Ground.data }, { on := 6, ground := Ground.data }, { on := 8, ground := Ground.data }], guard := none }) rfl (fun K hK => ?_) AllReadyH.nil
          rw [if_pos (by kernel_rfl)]
          go_simp
          refine (unhide C1 W0 (unhide BD)).mono ?_
          rintro e w1 ⟨rfl, e9⟩
          rw [e9]
          clear e9 w1
          go_wp2_with fail
          refine hK.out _ _ (hS) (fun hS1 => ?_)
          clear hK K
          try simp only [Act.put, List.setIfInBounds_toArray, List.set_cons_zero, List.set_cons_succ]
          refine wpAnyH_take (i := 15) (oi := { dst := some 56, op := Op.indexAddr 69 (Operand.tmp 55) (Operand.tmp 50), type := 0, pos := "soft.go:139", after := #[{ on := 14, ground := Ground.data }, { on := 9, ground := Ground.data }], guard := none }) (v := .pointer (some ⟨bc, n * 5, none⟩)) rfl (by kernel_rfl) (by kernel_rfl) (by kernel_rfl) (fun _ _ _ h => h) (Or.inl ⟨by kernel_rfl, fun W h => Op1.ix_ino (.tmp 55) (.tmp 50) (by kernel_rfl) (by kernel_rfl) (by kernel_rfl) (hn) W⟩) hS1 ?_
          try simp only [Act.put, List.setIfInBounds_toArray, List.set_cons_zero, List.set_cons_succ]
          refine wpAnyH_take (i := 16) (oi := { dst := some 57, op := Op.fieldAddr 68 (Operand.tmp 56) 3, type := 0, pos := "soft.go:139", after := #[{ on := 15, ground := Ground.data }], guard := none }) (v := .pointer (some ⟨bc, n * 5 + 3, none⟩)) rfl (by kernel_rfl) (by kernel_rfl) (by kernel_rfl) (fun _ _ _ h => h) (Or.inl ⟨by kernel_rfl, fun W h => (by first | kernel_rfl | go_simp)⟩) hS1 ?_
          try simp only [Act.put, List.setIfInBounds_toArray, List.set_cons_zero, List.set_cons_succ]
          refine wpAnyH_take (i := 17) (oi := { dst := some 58, op := Op.indexAddr 66 (Operand.tmp 57) (Operand.tmp 52), type := 0, pos := "soft.go:139", after := #[{ on := 16, ground := Ground.data }, { on := 11, ground := Ground.data }], guard := none }) (v := .pointer (some ⟨bc, n * 5 + 3 + q, none⟩)) rfl (by kernel_rfl) (by kernel_rfl) (by kernel_rfl) (fun _ _ _ h => h) (Or.inl ⟨by kernel_rfl, fun W h => Op1.ix_part (.tmp 57) (.tmp 52) (by kernel_rfl) (by kernel_rfl) (by kernel_rfl) (hq) W⟩) hS1 ?_
          try simp only [Act.put, List.setIfInBounds_toArray, List.set_cons_zero, List.set_cons_succ]
          refine wpAnyH_take (i := 18) (oi := { dst := some 59, op := Op.load 3 (Operand.tmp 58), type := 3, pos := "soft.go:139", after := #[{ on := 17, ground := Ground.data }], guard := none }) (v := .int .i64 pt) rfl (by kernel_rfl) (by kernel_rfl) (by kernel_rfl) (fun _ _ _ h => h) (Or.inl ⟨by kernel_rfl, fun W h => Op1.ld_int (.tmp 58) (by kernel_rfl) (by kernel_rfl) W (by have := unhide hpt W h.2.2; rw [Nat.zero_add] at this; exact this)⟩) hS1 ?_
          try simp only [Act.put, List.setIfInBounds_toArray, List.set_cons_zero, List.set_cons_succ]
          refine wpAnyH_take (i := 19) (oi := { dst := some 60, op := Op.binOp BinOp.lss 3 (Operand.tmp 59) (Operand.const (Value.int IntKind.i64 0)) 3, type := 4, pos := "soft.go:139", after := #[{ on := 18, ground := Ground.data }], guard := none }) (v := .bool false) rfl (by kernel_rfl) (by kernel_rfl) (by kernel_rfl) (fun _ _ _ h => h) (Or.inl ⟨by kernel_rfl, fun W h => (by rw [← unhide U1]; exact Op1.lss0 (.tmp 59) (by kernel_rfl) (by kernel_rfl) (by kernel_rfl) W)⟩) hS1 ?_
          try simp only [Act.put, List.setIfInBounds_toArray, List.set_cons_zero, List.set_cons_succ]
          refine wpAnyH_take (i := 20) (oi := { dst := some 61, op := Op.move (Operand.tmp 60), type := 4, pos := "soft.go:139", after := #[{ on := 19, ground := Ground.data }, { on := 9, ground := Ground.chain }], guard := none }) (v := .bool false) rfl (by kernel_rfl) (by kernel_rfl) (by kernel_rfl) (fun _ _ _ h => h) (Or.inl ⟨by kernel_rfl, fun W h => (by first | kernel_rfl | go_simp)⟩) hS1 ?_
          try simp only [Act.put, List.setIfInBounds_toArray, List.set_cons_zero, List.set_cons_succ]
          refine wpAnyH_take (i := 21) (oi := { dst := some 62, op := Op.move (Operand.tmp 0), type := 60, pos := "soft.go:139", after := #[{ on := 20, ground := Ground.guard }], guard := some (20, true) }) (v := undef) rfl (by kernel_rfl) (by kernel_rfl) (by kernel_rfl) (fun _ _ _ h => h) (Or.inr ⟨by kernel_rfl, rfl⟩) hS1 ?_
          try simp only [Act.put, List.setIfInBounds_toArray, List.set_cons_zero, List.set_cons_succ]
          refine wpAnyH_take (i := 22) (oi := { dst := some 63, op := Op.nilCheck (Operand.tmp 62), type := 0, pos := "soft.go:139", after := #[{ on := 21, ground := Ground.data }, { on := 20, ground := Ground.guard }], guard := some (20, true) }) (v := undef) rfl (by kernel_rfl) (by kernel_rfl) (by kernel_rfl) (fun _ _ _ h => h) (Or.inr ⟨by kernel_rfl, rfl⟩) hS1 ?_
          try simp only [Act.put, List.setIfInBounds_toArray, List.set_cons_zero, List.set_cons_succ]
          refine wpAnyH_take (i := 23) (oi := { dst := some 64, op := Op.fieldAddr 114 (Operand.tmp 63) 0, type := 0, pos := "soft.go:139", after := #[{ on := 22, ground := Ground.data }, { on := 20, ground := Ground.guard }], guard := some (20, true) }) (v := undef) rfl (by kernel_rfl) (by kernel_rfl) (by kernel_rfl) (fun _ _ _ h => h) (Or.inr ⟨by kernel_rfl, rfl⟩) hS1 ?_
          try simp only [Act.put, List.setIfInBounds_toArray, List.set_cons_zero, List.set_cons_succ]
          refine wpAnyH_take (i := 24) (oi := { dst := some 65, op := Op.load 111 (Operand.tmp 64), type := 111, pos := "soft.go:139", after := #[{ on := 23, ground := Ground.data }, { on := 20, ground := Ground.guard }], guard := some (20, true) }) (v := undef) rfl (by kernel_rfl) (by kernel_rfl) (by kernel_rfl) (fun _ _ _ h => h) (Or.inr ⟨by kernel_rfl, rfl⟩) hS1 ?_
          try simp only [Act.put, List.setIfInBounds_toArray, List.set_cons_zero, List.set_cons_succ]
          refine wpAnyH_take (i := 25) (oi := { dst := some 66, op := Op.call { callee := Callee.value (Operand.func 155), args := #[Operand.tmp 65], argTypes := #[111] }, type := 3, pos := "soft.go:139", after := #[{ on := 24, ground := Ground.data }, { on := 20, ground := Ground.chain }, { on := 20, ground := Ground.guard }], guard := some (20, true) }) (v := undef) rfl (by kernel_rfl) (by kernel_rfl) (by kernel_rfl) (fun _ _ _ h => h) (Or.inr ⟨by kernel_rfl, rfl⟩) hS1 ?_
          try simp only [Act.put, List.setIfInBounds_toArray, List.set_cons_zero, List.set_cons_succ]
          refine wpAnyH_take (i := 26) (oi := { dst := some 67, op := Op.binOp BinOp.lss 3 (Operand.tmp 66) (Operand.const (Value.int IntKind.i64 0)) 3, type := 4, pos := "soft.go:139", after := #[{ on := 25, ground := Ground.data }, { on := 20, ground := Ground.guard }], guard := some (20, true) }) (v := undef) rfl (by kernel_rfl) (by kernel_rfl) (by kernel_rfl) (fun _ _ _ h => h) (Or.inr ⟨by kernel_rfl, rfl⟩) hS1 ?_
          try simp only [Act.put, List.setIfInBounds_toArray, List.set_cons_zero, List.set_cons_succ]
          refine wpAnyH_take (i := 27) (oi := { dst := some 68, op := Op.pick (Operand.tmp 61) (Operand.tmp 67) (Operand.const (Value.bool false)), type := 4, pos := "soft.go:139", after := #[{ on := 20, ground := Ground.data }, { on := 26, ground := Ground.data }], guard := none }) (v := .bool false) rfl (by kernel_rfl) (by kernel_rfl) (by kernel_rfl) (fun _ _ _ h => h) (Or.inl ⟨by kernel_rfl, fun W h => (by first | kernel_rfl | go_simp)⟩) hS1 ?_
          try simp only [Act.put, List.setIfInBounds_toArray, List.set_cons_zero, List.set_cons_succ]
          refine wpAnyH_take (i := 28) (oi := { dst := some 4, op := Op.assign (Operand.tmp 68), type := 4, pos := "soft.go:139", after := #[{ on := 27, ground := Ground.data }, { on := 25, ground := Ground.chain }, { on := 0, ground := Ground.phase }, { on := 1, ground := Ground.phase }, { on := 2, ground := Ground.phase }, { on := 3, ground := Ground.phase }, { on := 4, ground := Ground.phase }, { on := 5, ground := Ground.phase }, { on := 6, ground := Ground.phase }, { on := 7, ground := Ground.phase }, { on := 8, ground := Ground.phase }, { on := 9, ground := Ground.phase }, { on := 10, ground := Ground.phase }, { on := 11, ground := Ground.phase }, { on := 12, ground := Ground.phase }, { on := 13, ground := Ground.phase }, { on := 14, ground := Ground.phase }, { on := 15, ground := Ground.phase }, { on := 16, ground := Ground.phase }, { on := 17, ground := Ground.phase }, { on := 18, ground := Ground.phase }, { on := 19, ground := Ground.phase }, { on := 20, ground := Ground.phase }, { on := 21, ground := Ground.phase }, { on := 22, ground := Ground.phase }, { on := 23, ground := Ground.phase }, { on := 24, ground := Ground.phase }, { on := 25, ground := Ground.phase }, { on := 26, ground := Ground.phase }, { on := 27, ground := Ground.phase }], guard := none }) (v := .bool false) rfl (by kernel_rfl) (by kernel_rfl) (by kernel_rfl) (fun _ _ _ h => h) (Or.inl ⟨by kernel_rfl, fun W h => (by first | kernel_rfl | go_simp)⟩) hS1 ?_
          try simp only [Act.put, List.setIfInBounds_toArray, List.set_cons_zero, List.set_cons_succ]
          refine wpAnyH_done (by kernel_rfl) ?_ _
          clear hS hS1
          go_wp2_with fail
          go_ret
          exact ⟨ret_bool (unhide E1).symm, unhide BD⟩
      · have E := hide (sfull_else m k x ⟨k1, fun z => k24 (.inl z), fun z => k24 (.inr z), k5⟩)
        generalize Img.sfull m k x = fl at E ⊢
        obtain ⟨kind, dir, toDir, p, name, tu, text⟩ := x
        have z1 : (kind == 1) = false := by simpa using k1
        have z2 : (kind == 2) = false := by have : kind ≠ 2 := fun z => k24 (.inl z); simpa using this
        have z4 : (kind == 4) = false := by have : kind ≠ 4 := fun z => k24 (.inr z); simpa using this
        have z5 : (kind == 5) = false := by simpa using k5
        clear S0 h5 k1 k24 k5
        go_enter Tryz.func113, Tryz.ntmps113
        go_wp2_with fail
        go_ret
        exact ⟨ret_bool (unhide E).symm, unhide BEL⟩
end
end Go.Proofs.YtfpfpnhpbnnmfadGreatDoor
