/-
  The walk of (*soft.Files).full. (Written by gendj.py.)
-/
import Derived.Test.YtmlhalhjfcfagabGreatYf
namespace Go.Proofs.YtmlhalhjfcfagabGreat
open Go.RowKit
open Idl (Stp chk stpA)
theorem sfull_make (m k : Img) (x : Stp) (h : x.kind = 1) : Img.sfull m k x = (decide (Img.freeIno m k < 0) || Img.noPlace m k x.dir x.name) := by unfold Img.sfull; rw [if_pos h]
theorem sfull_to (m k : Img) (x : Stp) (h : x.kind = 2 ∨ x.kind = 4) : Img.sfull m k x = Img.noPlace m k x.toDir x.to := by unfold Img.sfull; rw [if_neg (by omega), if_pos h]
theorem sfull_put (m k : Img) (x : Stp) (h : x.kind = 5) : Img.sfull m k x = (decide (m.part (Img.inoOf m x.dir x.name).toNat x.p.toNat < 0) && decide (Img.freeData m k < 0)) := by unfold Img.sfull; rw [if_neg (by omega), if_neg (by omega), if_pos h]
theorem sfull_else (m k : Img) (x : Stp) (h : x.kind ≠ 1 ∧ x.kind ≠ 2 ∧ x.kind ≠ 4 ∧ x.kind ≠ 5) : Img.sfull m k x = false := by unfold Img.sfull; rw [if_neg h.1, if_neg (by omega), if_neg h.2.2.2]
section
variable {w : World} {bf bc : Nat} {cs ds : Array Value} {m k : Img} {last : Int}
/-- what a region of these files reads: the cache's place, the boxed step, the image -/
def FS (bf bc xb : Nat) (m : Img) (x : Stp) (W : World) : Prop := W.cell? ⟨bf, 0, none⟩ = some (.pointer (some ⟨bc, 0, none⟩)) ∧ (∀ (j : Nat) (u : Value), (stpA x)[j]? = some u → W.cell? ⟨xb, j, none⟩ = some u) ∧ HasAt W bc 0 m
theorem FS.of (h : Fl w bf bc cs ds m k last) (x : Stp) {W : World} (hb : Below (w.alloc (.cells (stpA x) 37)).heap.size (w.alloc (.cells (stpA x) 37)) W) : FS bf bc w.heap.size m x W := by
  have b1 : Below w.heap.size w W := ((Below.refl _ w).alloc (Nat.le_refl _) _).trans (hb.mono (by simp))
  exact ⟨(h.below b1).ptr, fun j u hj => stp_box w x W hb j u hj, (h.below b1).hasNow⟩
theorem FS.below {xb : Nat} {x : Stp} {W W' : World} (h : FS bf bc xb m x W) (hf : bf < W.heap.size) (hx : xb < W.heap.size) (hb : Below W.heap.size W W') : FS bf bc xb m x W' :=
  ⟨(hb.cell (p := ⟨bf, 0, none⟩) hf).trans h.1, fun j u hj => (hb.cell (p := ⟨xb, j, none⟩) hx).trans (h.2.1 j u hj), h.2.2.below hb h.2.2.lt⟩
set_option maxHeartbeats 2000000 in
set_option maxRecDepth 100000 in
theorem sfull_any (h : Fl w bf bc cs ds m k last) (hla : last < 4611686018427387904) (x : Stp) (h5 : x.kind = 5 → ∃ n q : Nat, n < 8 ∧ q < 2 ∧ Img.inoOf m x.dir x.name = (n : Int) ∧ x.p = (q : Int)) :
    Calls Tryz.prog 59 #[.pointer (some ⟨bf, 0, none⟩), .agg (stpA x)] w fun e w' => e = .returned (.bool (Img.sfull m k x)) ∧ Below w.heap.size w w' := by
  have BEL := hide (show Below w.heap.size w (w.alloc (.cells (stpA x) 37)) from (Below.refl _ w).alloc (Nat.le_refl _) _)
  have HF := hide h
  have HS := hide fun W hb => FS.of h x (W := W) hb
  have S0 := unhide HS _ (Below.refl _ _)
  have p0 := S0.1
  have c0 := S0.2.1 0 _ rfl
  have lt0 : bf < (w.alloc (.cells (stpA x) 37)).heap.size := Nat.lt_of_lt_of_le h.flt (by simp)
  have LT0 := hide lt0
  clear lt0
  clear h
  by_cases k1 : x.kind = 1
  · have E := hide (sfull_make m k x k1)
    have C2 := hide fun W (bW : Below w.heap.size w W) => noPlace_any ((unhide HF).below bW) x.dir x.name
    have C1 := hide fun W (bW : Below w.heap.size w W) => cInode_any bc cs ds m k (unhide HF).now (unhide HF).disk W ((unhide HF).below bW).row
    have HL := hide fun W (bW : Below w.heap.size w W) => ((unhide HF).below bW).lst
    have c1 := S0.2.1 1 _ rfl
    have c4 := S0.2.1 4 _ rfl
    have HS2 := hide fun W hb => (unhide HS W hb).2.1
    generalize Img.sfull m k x = fl at E ⊢
    generalize Img.noPlace m k x.dir x.name = np at E C2
    generalize Img.freeIno m k = fi at E C1
    have l1 : (last == 9223372036854775807) = false := by simp; omega
    obtain ⟨kind, dir, toDir, p, name, tu, text⟩ := x
    have kk : kind = 1 := k1
    subst kk
    clear S0 HS h5 k1
    by_cases hfi : fi < 0
    · have u1 : decide (fi < 0) = true := by simpa using hfi
      have E1 := hide (show fl = true by rw [unhide E, u1]; rfl)
      go_enter Tryz.func59, Tryz.ntmps59
      go_wp2_with fail
      refine (unhide C1 _ (unhide BEL)).mono ?_
      rintro e w1 ⟨rfl, b1⟩
      have B1 := hide ((unhide BEL).trans (b1.mono (by simp)))
      clear b1
      go_wp2_with fail
      go_ret
      exact ⟨ret_bool (unhide E1).symm, unhide B1⟩
    · have u1 : decide (fi < 0) = false := by simpa using hfi
      have E1 := hide (show fl = np by rw [unhide E, u1]; rfl)
      go_enter Tryz.func59, Tryz.ntmps59
      go_wp2_with fail
      refine (unhide C1 _ (unhide BEL)).mono ?_
      rintro e w1 ⟨rfl, b1⟩
      have B1 := hide ((unhide BEL).trans (b1.mono (by simp)))
      have q1 := unhide HL w1 (unhide B1)
      have g1 := unhide HS2 w1 b1 1 _ rfl
      have g4 := unhide HS2 w1 b1 4 _ rfl
      clear b1 c0 c1 c4 p0
      go_wp2_with fail
      refine (unhide C2 _ (unhide B1)).mono ?_
      rintro e w2 ⟨rfl, b2⟩
      have B2 := hide ((unhide B1).trans (b2.mono (unhide B1).size))
      clear b2
      go_wp2_with fail
      go_ret
      exact ⟨ret_bool (unhide E1).symm, unhide B2⟩
  · by_cases k24 : x.kind = 2 ∨ x.kind = 4
    · have E := hide (sfull_to m k x k24)
      have C2 := hide (noPlace_any ((unhide HF).below (unhide BEL)) x.toDir x.to)
      have c2 := S0.2.1 2 _ rfl
      have c5 := S0.2.1 5 _ rfl
      generalize Img.sfull m k x = fl at E ⊢
      generalize Img.noPlace m k x.toDir x.to = np at E C2
      obtain ⟨kind, dir, toDir, p, name, tu, text⟩ := x
      have kk : kind = 2 ∨ kind = 4 := k24
      clear S0 HS h5 k1 k24
      rcases kk with rfl | rfl
      all_goals
        go_enter Tryz.func59, Tryz.ntmps59
        go_wp2_with fail
        refine (unhide C2).mono ?_
        rintro e w2 ⟨rfl, b2⟩
        have B2 := hide ((unhide BEL).trans (b2.mono (by simp)))
        clear b2
        go_wp2_with fail
        go_ret
        exact ⟨ret_bool (unhide E).symm, unhide B2⟩
    · by_cases k5 : x.kind = 5
      · obtain ⟨n, q, hn, hq, en, eq⟩ := h5 k5
        have e0 := sfull_put m k x k5
        rw [en, eq, Int.toNat_natCast, Int.toNat_natCast] at e0
        have E := hide e0
        have C1 := hide fun W (bW : Below w.heap.size w W) => sfind_any ((unhide HF).below bW) x.dir x.name
        rw [en] at C1
        have C2 := hide fun W (bW : Below w.heap.size w W) => cData_any bc cs ds m k (unhide HF).now (unhide HF).disk W ((unhide HF).below bW).row
        have hpt := hide fun W (h : HasAt W bc 0 m) => h.part n q hn hq
        have SD := hide (unhide HS _ ((Below.refl (w.alloc (.cells (stpA x) 37)).heap.size (w.alloc (.cells (stpA x) 37))).drew))
        generalize Img.sfull m k x = fl at E ⊢
        generalize Img.freeData m k = fd at E C2
        generalize m.part n q = pt at E hpt
        obtain ⟨kind, dir, toDir, p, name, tu, text⟩ := x
        have kk : kind = 5 := k5
        subst kk
        have kp : p = (q : Int) := eq
        subst kp
        clear S0 h5 k1 k24 k5 en e0 eq
        have BD := hide ((unhide BEL).drew)
        have XLT := hide (show w.heap.size < (w.alloc (.cells (stpA ⟨5, dir, toDir, (q : Int), name, tu, text⟩) 37)).drew.heap.size from by simp [World.drew])
        go_enter Tryz.func59, Tryz.ntmps59
        go_wp2_with fail
        by_cases hpn : pt < 0
        · have U1 := hide (show decide (pt < 0) = true by simpa using hpn)
          have E1 := hide (show fl = decide (fd < 0) by rw [unhide E, unhide U1, Bool.true_and])
          clear hpn E
          refine wp_region_held_drew (S := FS bf bc w.heap.size m ⟨5, dir, toDir, (q : Int), name, tu, text⟩) (by kernel_rfl) (unhide SD) (fun hS => ?_)
          refine wpAnyH_take (i := 0) (oi := { dst := some 41, op := Op.move (Operand.tmp 0), type := 42, pos := "soft.go:139", after := #[], guard := none }) (v := .pointer (some ⟨bf, 0, none⟩)) rfl (by kernel_rfl) (by kernel_rfl) (by kernel_rfl) (fun _ _ _ h => h) (Or.inl ⟨by kernel_rfl, fun W h => (by first | kernel_rfl | go_simp)⟩) hS ?_
          try simp only [Act.put, List.setIfInBounds_toArray, List.set_cons_zero, List.set_cons_succ]
          refine wpAnyH_take (i := 1) (oi := { dst := some 42, op := Op.nilCheck (Operand.tmp 41), type := 0, pos := "soft.go:139", after := #[{ on := 0, ground := Ground.data }], guard := none }) (v := .pointer (some ⟨bf, 0, none⟩)) rfl (by kernel_rfl) (by kernel_rfl) (by kernel_rfl) (fun _ _ _ h => h) (Or.inl ⟨by kernel_rfl, fun W h => (by first | kernel_rfl | go_simp)⟩) hS ?_
          try simp only [Act.put, List.setIfInBounds_toArray, List.set_cons_zero, List.set_cons_succ]
          refine wpAnyH_take (i := 2) (oi := { dst := some 43, op := Op.fieldAddr 55 (Operand.tmp 42) 0, type := 0, pos := "soft.go:139", after := #[{ on := 1, ground := Ground.data }], guard := none }) (v := .pointer (some ⟨bf, 0, none⟩)) rfl (by kernel_rfl) (by kernel_rfl) (by kernel_rfl) (fun _ _ _ h => h) (Or.inl ⟨by kernel_rfl, fun W h => (by first | kernel_rfl | go_simp)⟩) hS ?_
          try simp only [Act.put, List.setIfInBounds_toArray, List.set_cons_zero, List.set_cons_succ]
          refine wpAnyH_take (i := 3) (oi := { dst := some 44, op := Op.load 53 (Operand.tmp 43), type := 53, pos := "soft.go:139", after := #[{ on := 2, ground := Ground.data }], guard := none }) (v := .pointer (some ⟨bc, 0, none⟩)) rfl (by kernel_rfl) (by kernel_rfl) (by kernel_rfl) (fun _ _ _ h => h) (Or.inl ⟨by kernel_rfl, fun W h => Op1.ld_ptr (.tmp 43) (by kernel_rfl) (by kernel_rfl) W (h.1)⟩) hS ?_
          try simp only [Act.put, List.setIfInBounds_toArray, List.set_cons_zero, List.set_cons_succ]
          refine wpAnyH_take (i := 4) (oi := { dst := some 45, op := Op.move (Operand.tmp 0), type := 42, pos := "soft.go:139", after := #[], guard := none }) (v := .pointer (some ⟨bf, 0, none⟩)) rfl (by kernel_rfl) (by kernel_rfl) (by kernel_rfl) (fun _ _ _ h => h) (Or.inl ⟨by kernel_rfl, fun W h => (by first | kernel_rfl | go_simp)⟩) hS ?_
          try simp only [Act.put, List.setIfInBounds_toArray, List.set_cons_zero, List.set_cons_succ]
          refine wpAnyH_take (i := 5) (oi := { dst := some 46, op := Op.fieldAddr 37 (Operand.tmp 3) 1, type := 0, pos := "soft.go:139", after := #[], guard := none }) (v := .pointer (some ⟨w.heap.size, 1, none⟩)) rfl (by kernel_rfl) (by kernel_rfl) (by kernel_rfl) (fun _ _ _ h => h) (Or.inl ⟨by kernel_rfl, fun W h => (by first | kernel_rfl | go_simp)⟩) hS ?_
          try simp only [Act.put, List.setIfInBounds_toArray, List.set_cons_zero, List.set_cons_succ]
          refine wpAnyH_take (i := 6) (oi := { dst := some 47, op := Op.load 3 (Operand.tmp 46), type := 3, pos := "soft.go:139", after := #[{ on := 5, ground := Ground.data }], guard := none }) (v := .int .i64 dir) rfl (by kernel_rfl) (by kernel_rfl) (by kernel_rfl) (fun _ _ _ h => h) (Or.inl ⟨by kernel_rfl, fun W h => Op1.ld_int (.tmp 46) (by kernel_rfl) (by kernel_rfl) W (h.2.1 1 _ rfl)⟩) hS ?_
          try simp only [Act.put, List.setIfInBounds_toArray, List.set_cons_zero, List.set_cons_succ]
          refine wpAnyH_take (i := 7) (oi := { dst := some 48, op := Op.fieldAddr 37 (Operand.tmp 3) 4, type := 0, pos := "soft.go:139", after := #[], guard := none }) (v := .pointer (some ⟨w.heap.size, 4, none⟩)) rfl (by kernel_rfl) (by kernel_rfl) (by kernel_rfl) (fun _ _ _ h => h) (Or.inl ⟨by kernel_rfl, fun W h => (by first | kernel_rfl | go_simp)⟩) hS ?_
          try simp only [Act.put, List.setIfInBounds_toArray, List.set_cons_zero, List.set_cons_succ]
          refine wpAnyH_take (i := 8) (oi := { dst := some 49, op := Op.load 9 (Operand.tmp 48), type := 9, pos := "soft.go:139", after := #[{ on := 7, ground := Ground.data }], guard := none }) (v := .string name) rfl (by kernel_rfl) (by kernel_rfl) (by kernel_rfl) (fun _ _ _ h => h) (Or.inl ⟨by kernel_rfl, fun W h => Op1.ld_str (.tmp 48) (by kernel_rfl) (by kernel_rfl) W (h.2.1 4 _ rfl)⟩) hS ?_
          try simp only [Act.put, List.setIfInBounds_toArray, List.set_cons_zero, List.set_cons_succ]
          refine wpAnyH_take (i := 10) (oi := { dst := some 51, op := Op.fieldAddr 37 (Operand.tmp 3) 3, type := 0, pos := "soft.go:139", after := #[], guard := none }) (v := .pointer (some ⟨w.heap.size, 3, none⟩)) rfl (by kernel_rfl) (by kernel_rfl) (by kernel_rfl) (fun _ _ _ h => h) (Or.inl ⟨by kernel_rfl, fun W h => (by first | kernel_rfl | go_simp)⟩) hS ?_
          try simp only [Act.put, List.setIfInBounds_toArray, List.set_cons_zero, List.set_cons_succ]
          refine wpAnyH_take (i := 11) (oi := { dst := some 52, op := Op.load 3 (Operand.tmp 51), type := 3, pos := "soft.go:139", after := #[{ on := 10, ground := Ground.data }], guard := none }) (v := .int .i64 (q : Int)) rfl (by kernel_rfl) (by kernel_rfl) (by kernel_rfl) (fun _ _ _ h => h) (Or.inl ⟨by kernel_rfl, fun W h => Op1.ld_int (.tmp 51) (by kernel_rfl) (by kernel_rfl) W (h.2.1 3 _ rfl)⟩) hS ?_
          try simp only [Act.put, List.setIfInBounds_toArray, List.set_cons_zero, List.set_cons_succ]
          refine wpAnyH_take (i := 12) (oi := { dst := some 53, op := Op.nilCheck (Operand.tmp 44), type := 0, pos := "soft.go:139", after := #[{ on := 3, ground := Ground.data }], guard := none }) (v := .pointer (some ⟨bc, 0, none⟩)) rfl (by kernel_rfl) (by kernel_rfl) (by kernel_rfl) (fun _ _ _ h => h) (Or.inl ⟨by kernel_rfl, fun W h => (by first | kernel_rfl | go_simp)⟩) hS ?_
          try simp only [Act.put, List.setIfInBounds_toArray, List.set_cons_zero, List.set_cons_succ]
          refine wpAnyH_take (i := 13) (oi := { dst := some 54, op := Op.fieldAddr 57 (Operand.tmp 53) 0, type := 0, pos := "soft.go:139", after := #[{ on := 12, ground := Ground.data }], guard := none }) (v := .pointer (some ⟨bc, 0, none⟩)) rfl (by kernel_rfl) (by kernel_rfl) (by kernel_rfl) (fun _ _ _ h => h) (Or.inl ⟨by kernel_rfl, fun W h => (by first | kernel_rfl | go_simp)⟩) hS ?_
          try simp only [Act.put, List.setIfInBounds_toArray, List.set_cons_zero, List.set_cons_succ]
          refine wpAnyH_take (i := 14) (oi := { dst := some 55, op := Op.fieldAddr 34 (Operand.tmp 54) 0, type := 0, pos := "soft.go:139", after := #[{ on := 13, ground := Ground.data }], guard := none }) (v := .pointer (some ⟨bc, 0, none⟩)) rfl (by kernel_rfl) (by kernel_rfl) (by kernel_rfl) (fun _ _ _ h => h) (Or.inl ⟨by kernel_rfl, fun W h => (by first | kernel_rfl | go_simp)⟩) hS ?_
          try simp only [Act.put, List.setIfInBounds_toArray, List.set_cons_zero, List.set_cons_succ]
          generalize World.drew _ = W0 at hS BD XLT ⊢
          refine wpAnyH_ready (rs := [9]) (by kernel_rfl) (by simp) ?_
          refine AllReadyH.cons (o := { dst := some 50, op := Op.call { callee := Callee.value (Operand.func 55), args := #[Operand.tmp 45, Operand.tmp 47, Operand.tmp 49], argTypes := #[42, 3, 9] }, type := 3, pos := "soft.go:139", after := #[{ on := 4, ground := Ground.data }, { on := 6, ground := Ground.data }, { on := 8, ground := Ground.data }], guard := none }) rfl (fun K hK => ?_) AllReadyH.nil
          rw [if_pos (by kernel_rfl)]
          go_simp
          refine (unhide C1 W0 (unhide BD)).mono ?_
          rintro e w1 ⟨rfl, e9⟩
          rw [e9]
          clear e9 w1
          go_wp2_with fail
          refine hK.out _ _ (hS) (fun hS1 => ?_)
          clear hK K
          try simp only [Act.put, List.setIfInBounds_toArray, List.set_cons_zero, List.set_cons_succ]
          refine wpAnyH_take (i := 15) (oi := { dst := some 56, op := Op.indexAddr 25 (Operand.tmp 55) (Operand.tmp 50), type := 0, pos := "soft.go:139", after := #[{ on := 14, ground := Ground.data }, { on := 9, ground := Ground.data }], guard := none }) (v := .pointer (some ⟨bc, n * 5, none⟩)) rfl (by kernel_rfl) (by kernel_rfl) (by kernel_rfl) (fun _ _ _ h => h) (Or.inl ⟨by kernel_rfl, fun W h => Op1.ix_ino (.tmp 55) (.tmp 50) (by kernel_rfl) (by kernel_rfl) (by kernel_rfl) (hn) W⟩) hS1 ?_
          try simp only [Act.put, List.setIfInBounds_toArray, List.set_cons_zero, List.set_cons_succ]
          refine wpAnyH_take (i := 16) (oi := { dst := some 57, op := Op.fieldAddr 24 (Operand.tmp 56) 3, type := 0, pos := "soft.go:139", after := #[{ on := 15, ground := Ground.data }], guard := none }) (v := .pointer (some ⟨bc, n * 5 + 3, none⟩)) rfl (by kernel_rfl) (by kernel_rfl) (by kernel_rfl) (fun _ _ _ h => h) (Or.inl ⟨by kernel_rfl, fun W h => (by first | kernel_rfl | go_simp)⟩) hS1 ?_
          try simp only [Act.put, List.setIfInBounds_toArray, List.set_cons_zero, List.set_cons_succ]
          refine wpAnyH_take (i := 17) (oi := { dst := some 58, op := Op.indexAddr 22 (Operand.tmp 57) (Operand.tmp 52), type := 0, pos := "soft.go:139", after := #[{ on := 16, ground := Ground.data }, { on := 11, ground := Ground.data }], guard := none }) (v := .pointer (some ⟨bc, n * 5 + 3 + q, none⟩)) rfl (by kernel_rfl) (by kernel_rfl) (by kernel_rfl) (fun _ _ _ h => h) (Or.inl ⟨by kernel_rfl, fun W h => Op1.ix_part (.tmp 57) (.tmp 52) (by kernel_rfl) (by kernel_rfl) (by kernel_rfl) (hq) W⟩) hS1 ?_
          try simp only [Act.put, List.setIfInBounds_toArray, List.set_cons_zero, List.set_cons_succ]
          refine wpAnyH_take (i := 18) (oi := { dst := some 59, op := Op.load 3 (Operand.tmp 58), type := 3, pos := "soft.go:139", after := #[{ on := 17, ground := Ground.data }], guard := none }) (v := .int .i64 pt) rfl (by kernel_rfl) (by kernel_rfl) (by kernel_rfl) (fun _ _ _ h => h) (Or.inl ⟨by kernel_rfl, fun W h => Op1.ld_int (.tmp 58) (by kernel_rfl) (by kernel_rfl) W (by have := unhide hpt W h.2.2; rw [Nat.zero_add] at this; exact this)⟩) hS1 ?_
          try simp only [Act.put, List.setIfInBounds_toArray, List.set_cons_zero, List.set_cons_succ]
          refine wpAnyH_take (i := 19) (oi := { dst := some 60, op := Op.binOp BinOp.lss 3 (Operand.tmp 59) (Operand.const (Value.int IntKind.i64 0)) 3, type := 4, pos := "soft.go:139", after := #[{ on := 18, ground := Ground.data }], guard := none }) (v := .bool true) rfl (by kernel_rfl) (by kernel_rfl) (by kernel_rfl) (fun _ _ _ h => h) (Or.inl ⟨by kernel_rfl, fun W h => (by rw [← unhide U1]; exact Op1.lss0 (.tmp 59) (by kernel_rfl) (by kernel_rfl) (by kernel_rfl) W)⟩) hS1 ?_
          try simp only [Act.put, List.setIfInBounds_toArray, List.set_cons_zero, List.set_cons_succ]
          refine wpAnyH_take (i := 20) (oi := { dst := some 61, op := Op.move (Operand.tmp 60), type := 4, pos := "soft.go:139", after := #[{ on := 19, ground := Ground.data }, { on := 9, ground := Ground.chain }], guard := none }) (v := .bool true) rfl (by kernel_rfl) (by kernel_rfl) (by kernel_rfl) (fun _ _ _ h => h) (Or.inl ⟨by kernel_rfl, fun W h => (by first | kernel_rfl | go_simp)⟩) hS1 ?_
          try simp only [Act.put, List.setIfInBounds_toArray, List.set_cons_zero, List.set_cons_succ]
          refine wpAnyH_take (i := 21) (oi := { dst := some 62, op := Op.move (Operand.tmp 0), type := 42, pos := "soft.go:139", after := #[{ on := 20, ground := Ground.guard }], guard := some (20, true) }) (v := .pointer (some ⟨bf, 0, none⟩)) rfl (by kernel_rfl) (by kernel_rfl) (by kernel_rfl) (fun _ _ _ h => h) (Or.inl ⟨by kernel_rfl, fun W h => (by first | kernel_rfl | go_simp)⟩) hS1 ?_
          try simp only [Act.put, List.setIfInBounds_toArray, List.set_cons_zero, List.set_cons_succ]
          refine wpAnyH_take (i := 22) (oi := { dst := some 63, op := Op.nilCheck (Operand.tmp 62), type := 0, pos := "soft.go:139", after := #[{ on := 21, ground := Ground.data }, { on := 20, ground := Ground.guard }], guard := some (20, true) }) (v := .pointer (some ⟨bf, 0, none⟩)) rfl (by kernel_rfl) (by kernel_rfl) (by kernel_rfl) (fun _ _ _ h => h) (Or.inl ⟨by kernel_rfl, fun W h => (by first | kernel_rfl | go_simp)⟩) hS1 ?_
          try simp only [Act.put, List.setIfInBounds_toArray, List.set_cons_zero, List.set_cons_succ]
          refine wpAnyH_take (i := 23) (oi := { dst := some 64, op := Op.fieldAddr 55 (Operand.tmp 63) 0, type := 0, pos := "soft.go:139", after := #[{ on := 22, ground := Ground.data }, { on := 20, ground := Ground.guard }], guard := some (20, true) }) (v := .pointer (some ⟨bf, 0, none⟩)) rfl (by kernel_rfl) (by kernel_rfl) (by kernel_rfl) (fun _ _ _ h => h) (Or.inl ⟨by kernel_rfl, fun W h => (by first | kernel_rfl | go_simp)⟩) hS1 ?_
          try simp only [Act.put, List.setIfInBounds_toArray, List.set_cons_zero, List.set_cons_succ]
          refine wpAnyH_take (i := 24) (oi := { dst := some 65, op := Op.load 53 (Operand.tmp 64), type := 53, pos := "soft.go:139", after := #[{ on := 23, ground := Ground.data }, { on := 20, ground := Ground.guard }], guard := some (20, true) }) (v := .pointer (some ⟨bc, 0, none⟩)) rfl (by kernel_rfl) (by kernel_rfl) (by kernel_rfl) (fun _ _ _ h => h) (Or.inl ⟨by kernel_rfl, fun W h => Op1.ld_ptr (.tmp 64) (by kernel_rfl) (by kernel_rfl) W (h.1)⟩) hS1 ?_
          try simp only [Act.put, List.setIfInBounds_toArray, List.set_cons_zero, List.set_cons_succ]
          refine wpAnyH_ready (rs := [25]) (by kernel_rfl) (by simp) ?_
          refine AllReadyH.cons (o := { dst := some 66, op := Op.call { callee := Callee.value (Operand.func 86), args := #[Operand.tmp 65], argTypes := #[53] }, type := 3, pos := "soft.go:139", after := #[{ on := 24, ground := Ground.data }, { on := 20, ground := Ground.chain }, { on := 20, ground := Ground.guard }], guard := some (20, true) }) rfl (fun K hK => ?_) AllReadyH.nil
          rw [if_pos (by kernel_rfl)]
          go_simp
          refine (unhide C2 W0 (unhide BD)).mono ?_
          rintro e w2 ⟨rfl, b2⟩
          have B2 := hide ((unhide BD).trans (b2.mono (unhide BD).size))
          go_wp2_with fail
          refine hK.out _ _ (hS1.below (Nat.lt_of_lt_of_le (unhide HF).flt (unhide BD).size) (unhide XLT) b2) (fun hS2 => ?_)
          clear hK K
          try simp only [Act.put, List.setIfInBounds_toArray, List.set_cons_zero, List.set_cons_succ]
          refine wpAnyH_take (i := 26) (oi := { dst := some 67, op := Op.binOp BinOp.lss 3 (Operand.tmp 66) (Operand.const (Value.int IntKind.i64 0)) 3, type := 4, pos := "soft.go:139", after := #[{ on := 25, ground := Ground.data }, { on := 20, ground := Ground.guard }], guard := some (20, true) }) (v := .bool (decide (fd < 0))) rfl (by kernel_rfl) (by kernel_rfl) (by kernel_rfl) (fun _ _ _ h => h) (Or.inl ⟨by kernel_rfl, fun W h => Op1.lss0 (.tmp 66) (by kernel_rfl) (by kernel_rfl) (by kernel_rfl) W⟩) hS2 ?_
          try simp only [Act.put, List.setIfInBounds_toArray, List.set_cons_zero, List.set_cons_succ]
          refine wpAnyH_take (i := 27) (oi := { dst := some 68, op := Op.pick (Operand.tmp 61) (Operand.tmp 67) (Operand.const (Value.bool false)), type := 4, pos := "soft.go:139", after := #[{ on := 20, ground := Ground.data }, { on := 26, ground := Ground.data }], guard := none }) (v := .bool (decide (fd < 0))) rfl (by kernel_rfl) (by kernel_rfl) (by kernel_rfl) (fun _ _ _ h => h) (Or.inl ⟨by kernel_rfl, fun W h => (by first | kernel_rfl | go_simp)⟩) hS2 ?_
          try simp only [Act.put, List.setIfInBounds_toArray, List.set_cons_zero, List.set_cons_succ]
          refine wpAnyH_take (i := 28) (oi := { dst := some 4, op := Op.assign (Operand.tmp 68), type := 4, pos := "soft.go:139", after := #[{ on := 27, ground := Ground.data }, { on := 25, ground := Ground.chain }, { on := 0, ground := Ground.phase }, { on := 1, ground := Ground.phase }, { on := 2, ground := Ground.phase }, { on := 3, ground := Ground.phase }, { on := 4, ground := Ground.phase }, { on := 5, ground := Ground.phase }, { on := 6, ground := Ground.phase }, { on := 7, ground := Ground.phase }, { on := 8, ground := Ground.phase }, { on := 9, ground := Ground.phase }, { on := 10, ground := Ground.phase }, { on := 11, ground := Ground.phase }, { on := 12, ground := Ground.phase }, { on := 13, ground := Ground.phase }, { on := 14, ground := Ground.phase }, { on := 15, ground := Ground.phase }, { on := 16, ground := Ground.phase }, { on := 17, ground := Ground.phase }, { on := 18, ground := Ground.phase }, { on := 19, ground := Ground.phase }, { on := 20, ground := Ground.phase }, { on := 21, ground := Ground.phase }, { on := 22, ground := Ground.phase }, { on := 23, ground := Ground.phase }, { on := 24, ground := Ground.phase }, { on := 25, ground := Ground.phase }, { on := 26, ground := Ground.phase }, { on := 27, ground := Ground.phase }], guard := none }) (v := .bool (decide (fd < 0))) rfl (by kernel_rfl) (by kernel_rfl) (by kernel_rfl) (fun _ _ _ h => h) (Or.inl ⟨by kernel_rfl, fun W h => (by first | kernel_rfl | go_simp)⟩) hS2 ?_
          try simp only [Act.put, List.setIfInBounds_toArray, List.set_cons_zero, List.set_cons_succ]
          refine wpAnyH_done (by kernel_rfl) ?_ _
          clear hS hS1 hS2
          go_wp2_with fail
          go_ret
          exact ⟨ret_bool (unhide E1).symm, unhide B2⟩
        · have U1 := hide (show decide (pt < 0) = false by simpa using hpn)
          have E1 := hide (show fl = false by rw [unhide E, unhide U1, Bool.false_and])
          clear hpn E
          refine wp_region_held_drew (S := FS bf bc w.heap.size m ⟨5, dir, toDir, (q : Int), name, tu, text⟩) (by kernel_rfl) (unhide SD) (fun hS => ?_)
          refine wpAnyH_take (i := 0) (oi := { dst := some 41, op := Op.move (Operand.tmp 0), type := 42, pos := "soft.go:139", after := #[], guard := none }) (v := .pointer (some ⟨bf, 0, none⟩)) rfl (by kernel_rfl) (by kernel_rfl) (by kernel_rfl) (fun _ _ _ h => h) (Or.inl ⟨by kernel_rfl, fun W h => (by first | kernel_rfl | go_simp)⟩) hS ?_
          try simp only [Act.put, List.setIfInBounds_toArray, List.set_cons_zero, List.set_cons_succ]
          refine wpAnyH_take (i := 1) (oi := { dst := some 42, op := Op.nilCheck (Operand.tmp 41), type := 0, pos := "soft.go:139", after := #[{ on := 0, ground := Ground.data }], guard := none }) (v := .pointer (some ⟨bf, 0, none⟩)) rfl (by kernel_rfl) (by kernel_rfl) (by kernel_rfl) (fun _ _ _ h => h) (Or.inl ⟨by kernel_rfl, fun W h => (by first | kernel_rfl | go_simp)⟩) hS ?_
          try simp only [Act.put, List.setIfInBounds_toArray, List.set_cons_zero, List.set_cons_succ]
          refine wpAnyH_take (i := 2) (oi := { dst := some 43, op := Op.fieldAddr 55 (Operand.tmp 42) 0, type := 0, pos := "soft.go:139", after := #[{ on := 1, ground := Ground.data }], guard := none }) (v := .pointer (some ⟨bf, 0, none⟩)) rfl (by kernel_rfl) (by kernel_rfl) (by kernel_rfl) (fun _ _ _ h => h) (Or.inl ⟨by kernel_rfl, fun W h => (by first | kernel_rfl | go_simp)⟩) hS ?_
          try simp only [Act.put, List.setIfInBounds_toArray, List.set_cons_zero, List.set_cons_succ]
          refine wpAnyH_take (i := 3) (oi := { dst := some 44, op := Op.load 53 (Operand.tmp 43), type := 53, pos := "soft.go:139", after := #[{ on := 2, ground := Ground.data }], guard := none }) (v := .pointer (some ⟨bc, 0, none⟩)) rfl (by kernel_rfl) (by kernel_rfl) (by kernel_rfl) (fun _ _ _ h => h) (Or.inl ⟨by kernel_rfl, fun W h => Op1.ld_ptr (.tmp 43) (by kernel_rfl) (by kernel_rfl) W (h.1)⟩) hS ?_
          try simp only [Act.put, List.setIfInBounds_toArray, List.set_cons_zero, List.set_cons_succ]
          refine wpAnyH_take (i := 4) (oi := { dst := some 45, op := Op.move (Operand.tmp 0), type := 42, pos := "soft.go:139", after := #[], guard := none }) (v := .pointer (some ⟨bf, 0, none⟩)) rfl (by kernel_rfl) (by kernel_rfl) (by kernel_rfl) (fun _ _ _ h => h) (Or.inl ⟨by kernel_rfl, fun W h => (by first | kernel_rfl | go_simp)⟩) hS ?_
          try simp only [Act.put, List.setIfInBounds_toArray, List.set_cons_zero, List.set_cons_succ]
          refine wpAnyH_take (i := 5) (oi := { dst := some 46, op := Op.fieldAddr 37 (Operand.tmp 3) 1, type := 0, pos := "soft.go:139", after := #[], guard := none }) (v := .pointer (some ⟨w.heap.size, 1, none⟩)) rfl (by kernel_rfl) (by kernel_rfl) (by kernel_rfl) (fun _ _ _ h => h) (Or.inl ⟨by kernel_rfl, fun W h => (by first | kernel_rfl | go_simp)⟩) hS ?_
          try simp only [Act.put, List.setIfInBounds_toArray, List.set_cons_zero, List.set_cons_succ]
          refine wpAnyH_take (i := 6) (oi := { dst := some 47, op := Op.load 3 (Operand.tmp 46), type := 3, pos := "soft.go:139", after := #[{ on := 5, ground := Ground.data }], guard := none }) (v := .int .i64 dir) rfl (by kernel_rfl) (by kernel_rfl) (by kernel_rfl) (fun _ _ _ h => h) (Or.inl ⟨by kernel_rfl, fun W h => Op1.ld_int (.tmp 46) (by kernel_rfl) (by kernel_rfl) W (h.2.1 1 _ rfl)⟩) hS ?_
          try simp only [Act.put, List.setIfInBounds_toArray, List.set_cons_zero, List.set_cons_succ]
          refine wpAnyH_take (i := 7) (oi := { dst := some 48, op := Op.fieldAddr 37 (Operand.tmp 3) 4, type := 0, pos := "soft.go:139", after := #[], guard := none }) (v := .pointer (some ⟨w.heap.size, 4, none⟩)) rfl (by kernel_rfl) (by kernel_rfl) (by kernel_rfl) (fun _ _ _ h => h) (Or.inl ⟨by kernel_rfl, fun W h => (by first | kernel_rfl | go_simp)⟩) hS ?_
          try simp only [Act.put, List.setIfInBounds_toArray, List.set_cons_zero, List.set_cons_succ]
          refine wpAnyH_take (i := 8) (oi := { dst := some 49, op := Op.load 9 (Operand.tmp 48), type := 9, pos := "soft.go:139", after := #[{ on := 7, ground := Ground.data }], guard := none }) (v := .string name) rfl (by kernel_rfl) (by kernel_rfl) (by kernel_rfl) (fun _ _ _ h => h) (Or.inl ⟨by kernel_rfl, fun W h => Op1.ld_str (.tmp 48) (by kernel_rfl) (by kernel_rfl) W (h.2.1 4 _ rfl)⟩) hS ?_
          try simp only [Act.put, List.setIfInBounds_toArray, List.set_cons_zero, List.set_cons_succ]
          refine wpAnyH_take (i := 10) (oi := { dst := some 51, op := Op.fieldAddr 37 (Operand.tmp 3) 3, type := 0, pos := "soft.go:139", after := #[], guard := none }) (v := .pointer (some ⟨w.heap.size, 3, none⟩)) rfl (by kernel_rfl) (by kernel_rfl) (by kernel_rfl) (fun _ _ _ h => h) (Or.inl ⟨by kernel_rfl, fun W h => (by first | kernel_rfl | go_simp)⟩) hS ?_
          try simp only [Act.put, List.setIfInBounds_toArray, List.set_cons_zero, List.set_cons_succ]
          refine wpAnyH_take (i := 11) (oi := { dst := some 52, op := Op.load 3 (Operand.tmp 51), type := 3, pos := "soft.go:139", after := #[{ on := 10, ground := Ground.data }], guard := none }) (v := .int .i64 (q : Int)) rfl (by kernel_rfl) (by kernel_rfl) (by kernel_rfl) (fun _ _ _ h => h) (Or.inl ⟨by kernel_rfl, fun W h => Op1.ld_int (.tmp 51) (by kernel_rfl) (by kernel_rfl) W (h.2.1 3 _ rfl)⟩) hS ?_
          try simp only [Act.put, List.setIfInBounds_toArray, List.set_cons_zero, List.set_cons_succ]
          refine wpAnyH_take (i := 12) (oi := { dst := some 53, op := Op.nilCheck (Operand.tmp 44), type := 0, pos := "soft.go:139", after := #[{ on := 3, ground := Ground.data }], guard := none }) (v := .pointer (some ⟨bc, 0, none⟩)) rfl (by kernel_rfl) (by kernel_rfl) (by kernel_rfl) (fun _ _ _ h => h) (Or.inl ⟨by kernel_rfl, fun W h => (by first | kernel_rfl | go_simp)⟩) hS ?_
          try simp only [Act.put, List.setIfInBounds_toArray, List.set_cons_zero, List.set_cons_succ]
          refine wpAnyH_take (i := 13) (oi := { dst := some 54, op := Op.fieldAddr 57 (Operand.tmp 53) 0, type := 0, pos := "soft.go:139", after := #[{ on := 12, ground := Ground.data }], guard := none }) (v := .pointer (some ⟨bc, 0, none⟩)) rfl (by kernel_rfl) (by kernel_rfl) (by kernel_rfl) (fun _ _ _ h => h) (Or.inl ⟨by kernel_rfl, fun W h => (by first | kernel_rfl | go_simp)⟩) hS ?_
          try simp only [Act.put, List.setIfInBounds_toArray, List.set_cons_zero, List.set_cons_succ]
          refine wpAnyH_take (i := 14) (oi := { dst := some 55, op := Op.fieldAddr 34 (Operand.tmp 54) 0, type := 0, pos := "soft.go:139", after := #[{ on := 13, ground := Ground.data }], guard := none }) (v := .pointer (some ⟨bc, 0, none⟩)) rfl (by kernel_rfl) (by kernel_rfl) (by kernel_rfl) (fun _ _ _ h => h) (Or.inl ⟨by kernel_rfl, fun W h => (by first | kernel_rfl | go_simp)⟩) hS ?_
          try simp only [Act.put, List.setIfInBounds_toArray, List.set_cons_zero, List.set_cons_succ]
          generalize World.drew _ = W0 at hS BD ⊢
          refine wpAnyH_ready (rs := [9]) (by kernel_rfl) (by simp) ?_
          refine AllReadyH.cons (o := { dst := some 50, op := Op.call { callee := Callee.value (Operand.func 55), args := #[Operand.tmp 45, Operand.tmp 47, Operand.tmp 49], argTypes := #[42, 3, 9] }, type := 3, pos := "soft.go:139", after := #[{ on := 4, ground := Ground.data }, { on := 6, ground := Ground.data }, { on := 8, ground := Ground.data }], guard := none }) rfl (fun K hK => ?_) AllReadyH.nil
          rw [if_pos (by kernel_rfl)]
          go_simp
          refine (unhide C1 W0 (unhide BD)).mono ?_
          rintro e w1 ⟨rfl, e9⟩
          rw [e9]
          clear e9 w1
          go_wp2_with fail
          refine hK.out _ _ (hS) (fun hS1 => ?_)
          clear hK K
          try simp only [Act.put, List.setIfInBounds_toArray, List.set_cons_zero, List.set_cons_succ]
          refine wpAnyH_take (i := 15) (oi := { dst := some 56, op := Op.indexAddr 25 (Operand.tmp 55) (Operand.tmp 50), type := 0, pos := "soft.go:139", after := #[{ on := 14, ground := Ground.data }, { on := 9, ground := Ground.data }], guard := none }) (v := .pointer (some ⟨bc, n * 5, none⟩)) rfl (by kernel_rfl) (by kernel_rfl) (by kernel_rfl) (fun _ _ _ h => h) (Or.inl ⟨by kernel_rfl, fun W h => Op1.ix_ino (.tmp 55) (.tmp 50) (by kernel_rfl) (by kernel_rfl) (by kernel_rfl) (hn) W⟩) hS1 ?_
          try simp only [Act.put, List.setIfInBounds_toArray, List.set_cons_zero, List.set_cons_succ]
          refine wpAnyH_take (i := 16) (oi := { dst := some 57, op := Op.fieldAddr 24 (Operand.tmp 56) 3, type := 0, pos := "soft.go:139", after := #[{ on := 15, ground := Ground.data }], guard := none }) (v := .pointer (some ⟨bc, n * 5 + 3, none⟩)) rfl (by kernel_rfl) (by kernel_rfl) (by kernel_rfl) (fun _ _ _ h => h) (Or.inl ⟨by kernel_rfl, fun W h => (by first | kernel_rfl | go_simp)⟩) hS1 ?_
          try simp only [Act.put, List.setIfInBounds_toArray, List.set_cons_zero, List.set_cons_succ]
          refine wpAnyH_take (i := 17) (oi := { dst := some 58, op := Op.indexAddr 22 (Operand.tmp 57) (Operand.tmp 52), type := 0, pos := "soft.go:139", after := #[{ on := 16, ground := Ground.data }, { on := 11, ground := Ground.data }], guard := none }) (v := .pointer (some ⟨bc, n * 5 + 3 + q, none⟩)) rfl (by kernel_rfl) (by kernel_rfl) (by kernel_rfl) (fun _ _ _ h => h) (Or.inl ⟨by kernel_rfl, fun W h => Op1.ix_part (.tmp 57) (.tmp 52) (by kernel_rfl) (by kernel_rfl) (by kernel_rfl) (hq) W⟩) hS1 ?_
          try simp only [Act.put, List.setIfInBounds_toArray, List.set_cons_zero, List.set_cons_succ]
          refine wpAnyH_take (i := 18) (oi := { dst := some 59, op := Op.load 3 (Operand.tmp 58), type := 3, pos := "soft.go:139", after := #[{ on := 17, ground := Ground.data }], guard := none }) (v := .int .i64 pt) rfl (by kernel_rfl) (by kernel_rfl) (by kernel_rfl) (fun _ _ _ h => h) (Or.inl ⟨by kernel_rfl, fun W h => Op1.ld_int (.tmp 58) (by kernel_rfl) (by kernel_rfl) W (by have := unhide hpt W h.2.2; rw [Nat.zero_add] at this; exact this)⟩) hS1 ?_
          try simp only [Act.put, List.setIfInBounds_toArray, List.set_cons_zero, List.set_cons_succ]
          refine wpAnyH_take (i := 19) (oi := { dst := some 60, op := Op.binOp BinOp.lss 3 (Operand.tmp 59) (Operand.const (Value.int IntKind.i64 0)) 3, type := 4, pos := "soft.go:139", after := #[{ on := 18, ground := Ground.data }], guard := none }) (v := .bool false) rfl (by kernel_rfl) (by kernel_rfl) (by kernel_rfl) (fun _ _ _ h => h) (Or.inl ⟨by kernel_rfl, fun W h => (by rw [← unhide U1]; exact Op1.lss0 (.tmp 59) (by kernel_rfl) (by kernel_rfl) (by kernel_rfl) W)⟩) hS1 ?_
          try simp only [Act.put, List.setIfInBounds_toArray, List.set_cons_zero, List.set_cons_succ]
          refine wpAnyH_take (i := 20) (oi := { dst := some 61, op := Op.move (Operand.tmp 60), type := 4, pos := "soft.go:139", after := #[{ on := 19, ground := Ground.data }, { on := 9, ground := Ground.chain }], guard := none }) (v := .bool false) rfl (by kernel_rfl) (by kernel_rfl) (by kernel_rfl) (fun _ _ _ h => h) (Or.inl ⟨by kernel_rfl, fun W h => (by first | kernel_rfl | go_simp)⟩) hS1 ?_
          try simp only [Act.put, List.setIfInBounds_toArray, List.set_cons_zero, List.set_cons_succ]
          refine wpAnyH_take (i := 21) (oi := { dst := some 62, op := Op.move (Operand.tmp 0), type := 42, pos := "soft.go:139", after := #[{ on := 20, ground := Ground.guard }], guard := some (20, true) }) (v := undef) rfl (by kernel_rfl) (by kernel_rfl) (by kernel_rfl) (fun _ _ _ h => h) (Or.inr ⟨by kernel_rfl, rfl⟩) hS1 ?_
          try simp only [Act.put, List.setIfInBounds_toArray, List.set_cons_zero, List.set_cons_succ]
          refine wpAnyH_take (i := 22) (oi := { dst := some 63, op := Op.nilCheck (Operand.tmp 62), type := 0, pos := "soft.go:139", after := #[{ on := 21, ground := Ground.data }, { on := 20, ground := Ground.guard }], guard := some (20, true) }) (v := undef) rfl (by kernel_rfl) (by kernel_rfl) (by kernel_rfl) (fun _ _ _ h => h) (Or.inr ⟨by kernel_rfl, rfl⟩) hS1 ?_
          try simp only [Act.put, List.setIfInBounds_toArray, List.set_cons_zero, List.set_cons_succ]
          refine wpAnyH_take (i := 23) (oi := { dst := some 64, op := Op.fieldAddr 55 (Operand.tmp 63) 0, type := 0, pos := "soft.go:139", after := #[{ on := 22, ground := Ground.data }, { on := 20, ground := Ground.guard }], guard := some (20, true) }) (v := undef) rfl (by kernel_rfl) (by kernel_rfl) (by kernel_rfl) (fun _ _ _ h => h) (Or.inr ⟨by kernel_rfl, rfl⟩) hS1 ?_
          try simp only [Act.put, List.setIfInBounds_toArray, List.set_cons_zero, List.set_cons_succ]
          refine wpAnyH_take (i := 24) (oi := { dst := some 65, op := Op.load 53 (Operand.tmp 64), type := 53, pos := "soft.go:139", after := #[{ on := 23, ground := Ground.data }, { on := 20, ground := Ground.guard }], guard := some (20, true) }) (v := undef) rfl (by kernel_rfl) (by kernel_rfl) (by kernel_rfl) (fun _ _ _ h => h) (Or.inr ⟨by kernel_rfl, rfl⟩) hS1 ?_
          try simp only [Act.put, List.setIfInBounds_toArray, List.set_cons_zero, List.set_cons_succ]
          refine wpAnyH_take (i := 25) (oi := { dst := some 66, op := Op.call { callee := Callee.value (Operand.func 86), args := #[Operand.tmp 65], argTypes := #[53] }, type := 3, pos := "soft.go:139", after := #[{ on := 24, ground := Ground.data }, { on := 20, ground := Ground.chain }, { on := 20, ground := Ground.guard }], guard := some (20, true) }) (v := undef) rfl (by kernel_rfl) (by kernel_rfl) (by kernel_rfl) (fun _ _ _ h => h) (Or.inr ⟨by kernel_rfl, rfl⟩) hS1 ?_
          try simp only [Act.put, List.setIfInBounds_toArray, List.set_cons_zero, List.set_cons_succ]
          refine wpAnyH_take (i := 26) (oi := { dst := some 67, op := Op.binOp BinOp.lss 3 (Operand.tmp 66) (Operand.const (Value.int IntKind.i64 0)) 3, type := 4, pos := "soft.go:139", after := #[{ on := 25, ground := Ground.data }, { on := 20, ground := Ground.guard }], guard := some (20, true) }) (v := undef) rfl (by kernel_rfl) (by kernel_rfl) (by kernel_rfl) (fun _ _ _ h => h) (Or.inr ⟨by kernel_rfl, rfl⟩) hS1 ?_
          try simp only [Act.put, List.setIfInBounds_toArray, List.set_cons_zero, List.set_cons_succ]
          refine wpAnyH_take (i := 27) (oi := { dst := some 68, op := Op.pick (Operand.tmp 61) (Operand.tmp 67) (Operand.const (Value.bool false)), type := 4, pos := "soft.go:139", after := #[{ on := 20, ground := Ground.data }, { on := 26, ground := Ground.data }], guard := none }) (v := .bool false) rfl (by kernel_rfl) (by kernel_rfl) (by kernel_rfl) (fun _ _ _ h => h) (Or.inl ⟨by kernel_rfl, fun W h => (by first | kernel_rfl | go_simp)⟩) hS1 ?_
          try simp only [Act.put, List.setIfInBounds_toArray, List.set_cons_zero, List.set_cons_succ]
          refine wpAnyH_take (i := 28) (oi := { dst := some 4, op := Op.assign (Operand.tmp 68), type := 4, pos := "soft.go:139", after := #[{ on := 27, ground := Ground.data }, { on := 25, ground := Ground.chain }, { on := 0, ground := Ground.phase }, { on := 1, ground := Ground.phase }, { on := 2, ground := Ground.phase }, { on := 3, ground := Ground.phase }, { on := 4, ground := Ground.phase }, { on := 5, ground := Ground.phase }, { on := 6, ground := Ground.phase }, { on := 7, ground := Ground.phase }, { on := 8, ground := Ground.phase }, { on := 9, ground := Ground.phase }, { on := 10, ground := Ground.phase }, { on := 11, ground := Ground.phase }, { on := 12, ground := Ground.phase }, { on := 13, ground := Ground.phase }, { on := 14, ground := Ground.phase }, { on := 15, ground := Ground.phase }, { on := 16, ground := Ground.phase }, { on := 17, ground := Ground.phase }, { on := 18, ground := Ground.phase }, { on := 19, ground := Ground.phase }, { on := 20, ground := Ground.phase }, { on := 21, ground := Ground.phase }, { on := 22, ground := Ground.phase }, { on := 23, ground := Ground.phase }, { on := 24, ground := Ground.phase }, { on := 25, ground := Ground.phase }, { on := 26, ground := Ground.phase }, { on := 27, ground := Ground.phase }], guard := none }) (v := .bool false) rfl (by kernel_rfl) (by kernel_rfl) (by kernel_rfl) (fun _ _ _ h => h) (Or.inl ⟨by kernel_rfl, fun W h => (by first | kernel_rfl | go_simp)⟩) hS1 ?_
          try simp only [Act.put, List.setIfInBounds_toArray, List.set_cons_zero, List.set_cons_succ]
          refine wpAnyH_done (by kernel_rfl) ?_ _
          clear hS hS1
          go_wp2_with fail
          go_ret
          exact ⟨ret_bool (unhide E1).symm, unhide BD⟩
      · have E := hide (sfull_else m k x ⟨k1, fun z => k24 (.inl z), fun z => k24 (.inr z), k5⟩)
        generalize Img.sfull m k x = fl at E ⊢
        obtain ⟨kind, dir, toDir, p, name, tu, text⟩ := x
        have z1 : (kind == 1) = false := by simpa using k1
        have z2 : (kind == 2) = false := by have : kind ≠ 2 := fun z => k24 (.inl z); simpa using this
        have z4 : (kind == 4) = false := by have : kind ≠ 4 := fun z => k24 (.inr z); simpa using this
        have z5 : (kind == 5) = false := by simpa using k5
        clear S0 h5 k1 k24 k5
        go_enter Tryz.func59, Tryz.ntmps59
        go_wp2_with fail
        go_ret
        exact ⟨ret_bool (unhide E).symm, unhide BEL⟩
end
end Go.Proofs.YtmlhalhjfcfagabGreat
namespace Go.Proofs.YtmlhalhjfcfagabGreat
open Go.RowKit
open Idl (Stp chk stpA)
section
variable {w0 w w' : World} {bf bc : Nat} {cs ds rows rows' : Array Value} {m k : Img} {last : Int}
theorem Fm.row' (h : Fm w0 w bf bc rows last) (rows' : Array Value) : Fm w0 (w.setRow bc rows') bf bc rows' last := by
  have hoth : ∀ i, i ≠ bc → (w.setRow bc rows').heap[i]? = w.heap[i]? := fun i hi => setRow_other _ _ _ _ hi
  have hsz : (w.setRow bc rows').heap.size = w.heap.size := by simp [World.setRow]
  exact ⟨by rw [hoth _ h.ne]; exact h.root, setRow_heap w bc _ _ _ _ h.row, h.ne, h.chg.trans (own' := fun i => i = bc) ⟨rfl, rfl, rfl, by rw [hsz]; exact Nat.le_refl _, fun i _ hn => hoth i hn⟩ (fun i hi => .inl (.inr hi))⟩
theorem splice5 (h : cs.size = 94) {n : Nat} (hn : n < 8) (i : Ino) : splice (cs ++ ds) (n * 5) #[.bool i.live, .int .i64 i.stamp, .int .i64 i.links, .int .i64 i.p0, .int .i64 i.p1] = put5v cs n i ++ ds := by
  refine Array.ext_getElem? fun j => ?_
  rw [splice_get (by simp; omega)]
  have e5 : (put5v cs n i).size = 94 := by unfold put5v; simp [h]
  rw [Array.getElem?_append, Array.getElem?_append, e5, h]
  unfold put5v
  simp only [List.size_toArray, List.length_cons, List.length_nil]
  by_cases h9 : j < 94
  · rw [if_pos h9, if_pos h9, set5_get (by omega)]
    by_cases a1 : j < n * 5
    · rw [if_pos a1, if_neg (by omega), if_neg (by omega), if_neg (by omega), if_neg (by omega), if_neg (by omega)]
    · rw [if_neg a1]
      by_cases a2 : j < n * 5 + 5
      · rw [if_pos (by omega)]
        have : j = n * 5 ∨ j = n * 5 + 1 ∨ j = n * 5 + 2 ∨ j = n * 5 + 3 ∨ j = n * 5 + 4 := by omega
        rcases this with rfl | rfl | rfl | rfl | rfl
        · rw [if_pos rfl, Nat.sub_self]; rfl
        · rw [if_neg (by omega), if_pos rfl, Nat.add_sub_cancel_left]; rfl
        · rw [if_neg (by omega), if_neg (by omega), if_pos rfl, Nat.add_sub_cancel_left]; rfl
        · rw [if_neg (by omega), if_neg (by omega), if_neg (by omega), if_pos rfl, Nat.add_sub_cancel_left]; rfl
        · rw [if_neg (by omega), if_neg (by omega), if_neg (by omega), if_neg (by omega), if_pos rfl, Nat.add_sub_cancel_left]; rfl
      · rw [if_neg (by omega), if_neg (by omega), if_neg (by omega), if_neg (by omega), if_neg (by omega), if_neg (by omega)]
  · rw [if_neg h9, if_neg h9, if_neg (by omega), if_neg (by omega)]
theorem splice3 (h : cs.size = 94) {d s : Nat} (hd : d < 3) (hs : s < 4) (e : Ent) : splice (cs ++ ds) (40 + d * 12 + s * 3) #[.string e.name, .int .i64 e.ino, .int .i64 e.est] = put3v cs d s e ++ ds := by
  refine Array.ext_getElem? fun j => ?_
  rw [splice_get (by simp; omega)]
  have e5 : (put3v cs d s e).size = 94 := by unfold put3v; simp [h]
  rw [Array.getElem?_append, Array.getElem?_append, e5, h]
  unfold put3v
  simp only [List.size_toArray, List.length_cons, List.length_nil]
  obtain ⟨o, ho⟩ : ∃ o, o = 40 + d * 12 + s * 3 := ⟨_, rfl⟩
  rw [← ho]
  have ho' : o + 3 ≤ 94 := by omega
  by_cases h9 : j < 94
  · rw [if_pos h9, if_pos h9, set3_get (by omega)]
    by_cases a1 : j < o
    · rw [if_pos a1, if_neg (by omega), if_neg (by omega), if_neg (by omega)]
    · rw [if_neg a1]
      by_cases a2 : j < o + 3
      · rw [if_pos (by omega)]
        have : j = o ∨ j = o + 1 ∨ j = o + 2 := by omega
        rcases this with rfl | rfl | rfl
        · rw [if_pos rfl, Nat.sub_self]; rfl
        · rw [if_neg (by omega), if_pos rfl, Nat.add_sub_cancel_left]; rfl
        · rw [if_neg (by omega), if_neg (by omega), if_pos rfl, Nat.add_sub_cancel_left]; rfl
      · rw [if_neg (by omega), if_neg (by omega), if_neg (by omega), if_neg (by omega)]
  · rw [if_neg h9, if_neg h9, if_neg (by omega), if_neg (by omega)]
theorem splice2 (h : cs.size = 94) {x : Nat} (hx : x < 9) (o : Int) (t : ByteArray) : splice (cs ++ ds) (76 + x * 2) #[.int .i64 o, .string t] = put2v cs x o t ++ ds := by
  refine Array.ext_getElem? fun j => ?_
  rw [splice_get (by simp; omega)]
  have e5 : (put2v cs x o t).size = 94 := by unfold put2v; simp [h]
  rw [Array.getElem?_append, Array.getElem?_append, e5, h]
  unfold put2v
  simp only [List.size_toArray, List.length_cons, List.length_nil]
  obtain ⟨q, hq⟩ : ∃ q, q = 76 + x * 2 := ⟨_, rfl⟩
  rw [← hq]
  have hq' : q + 2 ≤ 94 := by omega
  by_cases h9 : j < 94
  · rw [if_pos h9, if_pos h9, set2_get (by omega)]
    by_cases a1 : j < q
    · rw [if_pos a1, if_neg (by omega), if_neg (by omega)]
    · rw [if_neg a1]
      by_cases a2 : j < q + 2
      · rw [if_pos (by omega)]
        have : j = q ∨ j = q + 1 := by omega
        rcases this with rfl | rfl
        · rw [if_pos rfl, Nat.sub_self]; rfl
        · rw [if_neg (by omega), if_pos rfl, Nat.add_sub_cancel_left]; rfl
      · rw [if_neg (by omega), if_neg (by omega), if_neg (by omega)]
  · rw [if_neg h9, if_neg h9, if_neg (by omega), if_neg (by omega)]
/-- files that were changed: what is to be now -/
def Fd (w0 w : World) (bf bc : Nat) (ds : Array Value) (m : Img) (last : Int) : Prop := ∃ cs, Fm w0 w bf bc (cs ++ ds) last ∧ IsImg cs m
theorem Fl.fd (h : Fl w bf bc cs ds m k last) : Fd w w bf bc ds m last := ⟨cs, h.fm, h.now⟩
theorem Fd.fl (h : Fd w0 w bf bc ds m last) (hk : IsImg ds k) : ∃ cs, Fl w bf bc cs ds m k last := by
  obtain ⟨cs, h1, h2⟩ := h
  exact ⟨cs, h1.fl h2 hk⟩
theorem Fd.call (h : Fd w0 w bf bc ds m last) (hb : Below w.heap.size w w') : Fd w0 w' bf bc ds m last := by
  obtain ⟨cs, h1, h2⟩ := h
  exact ⟨cs, h1.call hb, h2⟩
theorem Fd.trans {w1 : World} {m1 : Img} {l1 : Int} (h : Fd w0 w1 bf bc ds m1 l1) (h2 : Fd w1 w bf bc ds m last) : Fd w0 w bf bc ds m last := by
  obtain ⟨cs1, a1, a2⟩ := h
  obtain ⟨cs2, b1, b2⟩ := h2
  exact ⟨cs2, ⟨b1.root, b1.row, b1.ne, a1.chg.trans b1.chg (fun i hi => .inl hi)⟩, b2⟩
theorem Fd.ino (h : Fm w0 w bf bc (cs ++ ds) last) (hm : IsImg cs m) {n : Nat} (hn : n < 8) (i : Ino) : Fd w0 (w.setRow bc (splice (cs ++ ds) (n * 5) #[.bool i.live, .int .i64 i.stamp, .int .i64 i.links, .int .i64 i.p0, .int .i64 i.p1])) bf bc ds (m.putIno n i) last := by
  rw [splice5 hm.size hn]
  exact ⟨_, h.row' _, hm.putIno hn i⟩
theorem Fd.ent (h : Fm w0 w bf bc (cs ++ ds) last) (hm : IsImg cs m) {d s : Nat} (hd : d < 3) (hs : s < 4) (e : Ent) (he : e.name.size ≤ maxLen) : Fd w0 (w.setRow bc (splice (cs ++ ds) (40 + d * 12 + s * 3) #[.string e.name, .int .i64 e.ino, .int .i64 e.est])) bf bc ds (m.putEnt d s e) last := by
  rw [splice3 hm.size hd hs]
  exact ⟨_, h.row' _, hm.putEnt hd hs e he⟩
theorem Fd.dat (h : Fm w0 w bf bc (cs ++ ds) last) (hm : IsImg cs m) {x : Nat} (hx : x < 9) (o : Int) (t : ByteArray) (ht : t.size ≤ maxLen) : Fd w0 (w.setRow bc (splice (cs ++ ds) (76 + x * 2) #[.int .i64 o, .string t])) bf bc ds (m.putData x o t) last := by
  rw [splice2 hm.size hx]
  exact ⟨_, h.row' _, hm.putData hx o t ht⟩
theorem Fd.part (h : Fm w0 w bf bc (cs ++ ds) last) (hm : IsImg cs m) {n p : Nat} (hn : n < 8) (hp : p < 2) (v : Int) : Fd w0 (w.setCell ⟨bc, n * 5 + 3 + p, none⟩ (.int .i64 v)) bf bc ds (m.setPart n p v) last :=
  ⟨_, h.put hm.size (by omega) _, hm.putPart hn hp v⟩
theorem Fd.lnk (h : Fm w0 w bf bc (cs ++ ds) last) (hm : IsImg cs m) {n : Nat} (hn : n < 8) (v : Int) : Fd w0 (w.setCell ⟨bc, n * 5 + 2, none⟩ (.int .i64 v)) bf bc ds (m.putIno n ⟨m.live n, m.stamp n, v, m.part n 0, m.part n 1⟩) last :=
  ⟨_, h.put hm.size (by omega) _, hm.putLinks hn v⟩
theorem sz_ino : (Tryz.prog.info? 24).map (·.size) = some 5 := by kernel_rfl
theorem sz_ent : (Tryz.prog.info? 27).map (·.size) = some 3 := by kernel_rfl
theorem sz_dat : (Tryz.prog.info? 31).map (·.size) = some 2 := by kernel_rfl
end
end Go.Proofs.YtmlhalhjfcfagabGreat
namespace Go.Proofs.YtmlhalhjfcfagabGreat
open Go.RowKit
open Idl (Stp chk stpA)
theorem ld_ino {o : Oper} {ρ : Operand → Value} (x : Operand) (ho : o.op = .load 24 x) {g : Nat} (hx : ρ x = .pointer (some ⟨g, 0, none⟩)) {b : Bool} {s l p q : Int} (w : World) (h : w.heap[g]? = some (.cells #[.bool b, .int .i64 s, .int .i64 l, .int .i64 p, .int .i64 q] 24)) : (execOp ρ o).run Tryz.prog w = .ok (.value (.agg #[.bool b, .int .i64 s, .int .i64 l, .int .i64 p, .int .i64 q])) w := by
  have c0 : w.cell? ⟨g, 0, none⟩ = some (.bool b) := by rw [cell_of_row w g 0 _ _ _ h]; rfl
  have c1 : w.cell? ⟨g, 1, none⟩ = some (.int .i64 s) := by rw [cell_of_row w g 1 _ _ _ h]; rfl
  have c2 : w.cell? ⟨g, 2, none⟩ = some (.int .i64 l) := by rw [cell_of_row w g 2 _ _ _ h]; rfl
  have c3 : w.cell? ⟨g, 3, none⟩ = some (.int .i64 p) := by rw [cell_of_row w g 3 _ _ _ h]; rfl
  have c4 : w.cell? ⟨g, 4, none⟩ = some (.int .i64 q) := by rw [cell_of_row w g 4 _ _ _ h]; rfl
  clear h
  unfold execOp
  rw [ho]
  go_simp
section
variable {w w0 w1 : World} {bf bc : Nat} {cs ds rows : Array Value} {m k : Img} {last : Int}
/-- a box of one's own beside the files: their two blocks stay as they are when it is written -/
theorem Fm.box (h : Fm w0 w bf bc rows last) {g : Nat} (hg : w0.heap.size ≤ g) (hgf : g ≠ bf) (hgc : g ≠ bc) (c : Array Value) : Fm w0 (w.setRow g c) bf bc rows last := by
  have hoth : ∀ i, i ≠ g → (w.setRow g c).heap[i]? = w.heap[i]? := fun i hi => setRow_other _ _ _ _ hi
  have hsz : (w.setRow g c).heap.size = w.heap.size := by simp [World.setRow]
  exact ⟨by rw [hoth _ (Ne.symm hgf)]; exact h.root, by rw [hoth _ (Ne.symm hgc)]; exact h.row, h.ne, h.chg.trans (own' := fun i => i = g) ⟨rfl, rfl, rfl, by rw [hsz]; exact Nat.le_refl _, fun i _ hn => hoth i hn⟩ (fun i hi => .inr (by rw [hi]; exact hg))⟩
theorem Fm.size (h : Fm w0 w bf bc rows last) : w0.heap.size ≤ w.heap.size := h.chg.size
theorem box_set {W : World} {g : Nat} {c : Array Value} {ty : TypeId} (h : W.heap[g]? = some (.cells c ty)) (o : Nat) (v : Value) : (W.setCell ⟨g, o, none⟩ v).heap[g]? = some (.cells (c.setIfInBounds o v) ty) := by
  rw [setCell_eq_setRow W g o _ _ _ v h, setRow_heap W g _ _ _ _ h]
theorem Fm.boxSet (h : Fm w0 w bf bc rows last) {g : Nat} {c : Array Value} {ty : TypeId} (hr : w.heap[g]? = some (.cells c ty)) (hg : w0.heap.size ≤ g) (hgf : g ≠ bf) (hgc : g ≠ bc) (o : Nat) (v : Value) : Fm w0 (w.setCell ⟨g, o, none⟩ v) bf bc rows last := by
  rw [setCell_eq_setRow w g o _ _ _ v hr]
  exact h.box hg hgf hgc _
set_option maxHeartbeats 2000000 in
set_option maxRecDepth 100000 in
theorem sstart_any (h : Fl w bf bc cs ds m k last) {n : Nat} (hn : n < 8) (he : Img.freeIno m k = (n : Int)) (hl0 : 0 ≤ last) (hla : last < 4611686018427387904) :
    Calls Tryz.prog 61 #[.pointer (some ⟨bf, 0, none⟩)] w fun e w' => e = .returned (.int .i64 ((n : Nat) : Int)) ∧ Fd w w' bf bc ds (Img.started m k last) (last + 1) := by
  have C1 := hide (cInode_any bc cs ds m k h.now h.disk w h.row)
  rw [he] at C1
  have e1 : Img.started m k last = m.putIno n ⟨true, last + 1, 0, -1, -1⟩ := by unfold Img.started; rw [he, Int.toNat_natCast]
  rw [e1]
  have HM := hide h.now
  have FM0 := hide h.fm
  have p0 := h.ptr
  have l0 := h.flt
  have hw : IntKind.i64.wrap (last + 1) = last + 1 := IntWalk.i64_in _ (by omega)
  have HLT := hide (And.intro h.flt h.clt)
  clear h he e1
  go_enter Tryz.func61, Tryz.ntmps61
  go_wp2_with fail
  refine (unhide C1).mono ?_
  rintro e w1 ⟨rfl, b1⟩
  have FM1 := hide ((unhide FM0).call b1)
  have q1 := (unhide FM1).lst
  have z1 := (unhide FM1).frozenF 1
  have l1 := (unhide FM1).flt
  clear b1 p0 l0
  go_wp2_with fail
  have FM2 := hide ((unhide FM1).setLast (last + 1))
  clear q1 z1 l1 FM1
  generalize w1.setCell ⟨bf, 1, none⟩ (.int .i64 (last + 1)) = w2 at FM2 ⊢
  refine (free_any w2).mono ?_
  rintro e w3 ⟨rfl, b3⟩
  have FM3 := hide ((unhide FM2).call b3)
  have GT := hide (And.intro (Nat.lt_of_lt_of_le (unhide HLT).1 (Nat.le_trans (unhide FM2).size b3.size)) (Nat.lt_of_lt_of_le (unhide HLT).2 (Nat.le_trans (unhide FM2).size b3.size)))
  clear b3 FM2
  go_wp2_with (refine wpList_store_row rfl 24 _ _ rfl w3.heap.size #[.bool false, .int .i64 0, .int .i64 0, .int .i64 (-1), .int .i64 (-1)] rfl rfl 24 #[.bool false, .int .i64 0, .int .i64 0, .int .i64 0, .int .i64 0] (heap_alloc_last w3 _) sz_ino rfl (by kernel_rfl) ?_)
  have ROW := hide (setRow_heap _ _ _ #[.bool false, .int .i64 0, .int .i64 0, .int .i64 (-1), .int .i64 (-1)] _ _ (heap_alloc_last w3 (.cells #[.bool false, .int .i64 0, .int .i64 0, .int .i64 0, .int .i64 0] 24)))
  have FM4 := hide (((unhide FM3).call ((Below.refl _ _).alloc (Nat.le_refl _) (.cells #[.bool false, .int .i64 0, .int .i64 0, .int .i64 0, .int .i64 0] 24))).box (g := w3.heap.size) (unhide FM3).size (Nat.ne_of_gt (unhide GT).1) (Nat.ne_of_gt (unhide GT).2) #[.bool false, .int .i64 0, .int .i64 0, .int .i64 (-1), .int .i64 (-1)])
  have NE := hide (And.intro (Nat.ne_of_gt (unhide GT).1) (And.intro (Nat.ne_of_gt (unhide GT).2) (unhide FM3).size))
  generalize (w3.alloc (.cells #[.bool false, .int .i64 0, .int .i64 0, .int .i64 0, .int .i64 0] 24)).setRow w3.heap.size #[.bool false, .int .i64 0, .int .i64 0, .int .i64 (-1), .int .i64 (-1)] = X at ROW FM4 ⊢
  generalize w3.heap.size = gb at ROW NE ⊢
  clear FM3 GT
  have FM5 := hide ((unhide FM4).call (Below.refl _ _).drew)
  have ROW5 := hide (show X.drew.heap[gb]? = _ from unhide ROW)
  clear FM4 ROW
  refine wp_region_held_drew (S := fun W => W.cell? ⟨bf, 1, none⟩ = some (.int .i64 (last + 1))) (by kernel_rfl) ((unhide FM5).lst) (fun hS => ?_)
  refine wpAnyH_take (i := 0) (oi := { dst := some 18, op := Op.move (Operand.tmp 0), type := 42, pos := "soft.go:156", after := #[{ on := 5, ground := Ground.gcOnly Departure.lateStores }], guard := none }) (v := .pointer (some ⟨bf, 0, none⟩)) rfl (by kernel_rfl) (by kernel_rfl) (by kernel_rfl) (fun _ _ _ h => h) (Or.inl ⟨by kernel_rfl, fun W h => (by first | kernel_rfl | go_simp)⟩) hS ?_
  try simp only [Act.put, List.setIfInBounds_toArray, List.set_cons_zero, List.set_cons_succ]
  refine wpAnyH_take (i := 1) (oi := { dst := some 19, op := Op.nilCheck (Operand.tmp 18), type := 0, pos := "soft.go:156", after := #[{ on := 0, ground := Ground.data }, { on := 5, ground := Ground.gcOnly Departure.lateStores }], guard := none }) (v := .pointer (some ⟨bf, 0, none⟩)) rfl (by kernel_rfl) (by kernel_rfl) (by kernel_rfl) (fun _ _ _ h => h) (Or.inl ⟨by kernel_rfl, fun W h => (by first | kernel_rfl | go_simp)⟩) hS ?_
  try simp only [Act.put, List.setIfInBounds_toArray, List.set_cons_zero, List.set_cons_succ]
  refine wpAnyH_take (i := 2) (oi := { dst := some 20, op := Op.fieldAddr 55 (Operand.tmp 19) 1, type := 0, pos := "soft.go:156", after := #[{ on := 1, ground := Ground.data }, { on := 5, ground := Ground.gcOnly Departure.lateStores }], guard := none }) (v := .pointer (some ⟨bf, 1, none⟩)) rfl (by kernel_rfl) (by kernel_rfl) (by kernel_rfl) (fun _ _ _ h => h) (Or.inl ⟨by kernel_rfl, fun W h => (by first | kernel_rfl | go_simp)⟩) hS ?_
  try simp only [Act.put, List.setIfInBounds_toArray, List.set_cons_zero, List.set_cons_succ]
  refine wpAnyH_take (i := 3) (oi := { dst := some 21, op := Op.load 3 (Operand.tmp 20), type := 3, pos := "soft.go:156", after := #[{ on := 2, ground := Ground.data }, { on := 5, ground := Ground.gcOnly Departure.lateStores }], guard := none }) (v := .int .i64 (last + 1)) rfl (by kernel_rfl) (by kernel_rfl) (by kernel_rfl) (fun _ _ _ h => h) (Or.inl ⟨by kernel_rfl, fun W h => Op1.ld_int (.tmp 20) (by kernel_rfl) (by kernel_rfl) W (h)⟩) hS ?_
  try simp only [Act.put, List.setIfInBounds_toArray, List.set_cons_zero, List.set_cons_succ]
  refine wpAnyH_take (i := 4) (oi := { dst := some 22, op := Op.fieldAddr 24 (Operand.tmp 4) 0, type := 0, pos := "soft.go:156", after := #[{ on := 0, ground := Ground.textOnly Departure.lateStores }, { on := 1, ground := Ground.textOnly Departure.lateStores }, { on := 2, ground := Ground.textOnly Departure.lateStores }, { on := 3, ground := Ground.textOnly Departure.lateStores }], guard := none }) (v := .pointer (some ⟨gb, 0, none⟩)) rfl (by kernel_rfl) (by kernel_rfl) (by kernel_rfl) (fun _ _ _ h => h) (Or.inl ⟨by kernel_rfl, fun W h => (by first | kernel_rfl | go_simp)⟩) hS ?_
  try simp only [Act.put, List.setIfInBounds_toArray, List.set_cons_zero, List.set_cons_succ]
  generalize World.drew _ = W0 at hS FM5 ROW5 ⊢
  refine wpAnyH_ready (rs := [5]) (by kernel_rfl) (by simp) ?_
  refine AllReadyH.cons (o := { dst := none, op := Op.store 4 (Operand.tmp 22) (Operand.const (Value.bool true)), type := 0, pos := "soft.go:156", after := #[{ on := 4, ground := Ground.data }, { on := 0, ground := Ground.textOnly Departure.lateStores }, { on := 1, ground := Ground.textOnly Departure.lateStores }, { on := 2, ground := Ground.textOnly Departure.lateStores }, { on := 3, ground := Ground.textOnly Departure.lateStores }], guard := none }) rfl (fun K hK => ?_) AllReadyH.nil
  rw [if_pos (by kernel_rfl)]
  refine Op1.st_bool (v := true) (.tmp 22) (.const (.bool true)) (by kernel_rfl) rfl (by kernel_rfl) (by kernel_rfl) (by rw [cell_of_row W0 gb 0 _ _ _ (unhide ROW5)]; rfl) (frozen_of_row W0 gb 0 _ _ (unhide ROW5)) ?_
  have ROW6 := hide (box_set (unhide ROW5) 0 (.bool true))
  have FM6 := hide ((unhide FM5).boxSet (unhide ROW5) (unhide NE).2.2 (unhide NE).1 (unhide NE).2.1 0 (.bool true))
  refine hK.out _ _ ((unhide FM6).lst) (fun hS1 => ?_)
  clear hK K
  try simp only [Act.put, List.setIfInBounds_toArray, List.set_cons_zero, List.set_cons_succ]
  generalize W0.setCell ⟨gb, 0, none⟩ (.bool true) = W1 at hS1 ROW6 FM6 ⊢
  refine wpAnyH_take (i := 6) (oi := { dst := some 23, op := Op.fieldAddr 24 (Operand.tmp 4) 1, type := 0, pos := "soft.go:156", after := #[{ on := 0, ground := Ground.phase }, { on := 1, ground := Ground.phase }, { on := 2, ground := Ground.phase }, { on := 3, ground := Ground.phase }, { on := 4, ground := Ground.phase }, { on := 5, ground := Ground.phase }], guard := none }) (v := .pointer (some ⟨gb, 1, none⟩)) rfl (by kernel_rfl) (by kernel_rfl) (by kernel_rfl) (fun _ _ _ h => h) (Or.inl ⟨by kernel_rfl, fun W h => (by first | kernel_rfl | go_simp)⟩) hS1 ?_
  try simp only [Act.put, List.setIfInBounds_toArray, List.set_cons_zero, List.set_cons_succ]
  refine wpAnyH_ready (rs := [7]) (by kernel_rfl) (by simp) ?_
  refine AllReadyH.cons (o := { dst := none, op := Op.store 3 (Operand.tmp 23) (Operand.tmp 21), type := 0, pos := "soft.go:156", after := #[{ on := 6, ground := Ground.data }, { on := 3, ground := Ground.data }, { on := 5, ground := Ground.chain }, { on := 0, ground := Ground.phase }, { on := 1, ground := Ground.phase }, { on := 2, ground := Ground.phase }, { on := 3, ground := Ground.phase }, { on := 4, ground := Ground.phase }, { on := 5, ground := Ground.phase }], guard := none }) rfl (fun K hK => ?_) AllReadyH.nil
  rw [if_pos (by kernel_rfl)]
  refine Op1.st_int (v := last + 1) (.tmp 23) (.tmp 21) (by kernel_rfl) rfl (by kernel_rfl) (by kernel_rfl) (by rw [cell_of_row W1 gb 1 _ _ _ (unhide ROW6)]; rfl) (frozen_of_row W1 gb 1 _ _ (unhide ROW6)) ?_
  have ROW7 := hide (box_set (unhide ROW6) 1 (.int .i64 (last + 1)))
  have FM7 := hide ((unhide FM6).boxSet (unhide ROW6) (unhide NE).2.2 (unhide NE).1 (unhide NE).2.1 1 (.int .i64 (last + 1)))
  refine hK.out _ _ ((unhide FM7).lst) (fun hS2 => ?_)
  clear hK K
  try simp only [Act.put, List.setIfInBounds_toArray, List.set_cons_zero, List.set_cons_succ]
  generalize W1.setCell ⟨gb, 1, none⟩ (.int .i64 (last + 1)) = W2 at hS2 ROW7 FM7 ⊢
  refine wpAnyH_done (by kernel_rfl) ?_ _
  clear hS hS1 hS2 ROW5 ROW6 FM5 FM6
  go_wp2_with fail
  have FM8 := hide ((unhide FM7).call (Below.refl _ _).drew)
  have ROW8 := hide (show W2.drew.heap[gb]? = some (.cells #[.bool true, .int .i64 (last + 1), .int .i64 0, .int .i64 (-1), .int .i64 (-1)] 24) from unhide ROW7)
  clear FM7 ROW7
  refine wp_region_F (S := fun W => W.cell? ⟨bf, 0, none⟩ = some (.pointer (some ⟨bc, 0, none⟩)) ∧ W.heap[gb]? = some (.cells #[.bool true, .int .i64 (last + 1), .int .i64 0, .int .i64 (-1), .int .i64 (-1)] 24)) 10 (by kernel_rfl) (⟨(unhide FM8).ptr, unhide ROW8⟩) (fun hS => ?_)
  refine wpAnyF_take (i := 0) (oi := { dst := some 24, op := Op.move (Operand.tmp 0), type := 42, pos := "soft.go:157", after := #[], guard := none }) (v := .pointer (some ⟨bf, 0, none⟩)) rfl (by kernel_rfl) (by kernel_rfl) (by kernel_rfl) (by kernel_rfl) (fun _ _ _ h => h) (Or.inl ⟨by kernel_rfl, fun W h => (by first | kernel_rfl | go_simp)⟩) hS ?_
  try simp only [Act.put, List.setIfInBounds_toArray, List.set_cons_zero, List.set_cons_succ]
  refine wpAnyF_take (i := 1) (oi := { dst := some 25, op := Op.nilCheck (Operand.tmp 24), type := 0, pos := "soft.go:157", after := #[{ on := 0, ground := Ground.data }], guard := none }) (v := .pointer (some ⟨bf, 0, none⟩)) rfl (by kernel_rfl) (by kernel_rfl) (by kernel_rfl) (by kernel_rfl) (fun _ _ _ h => h) (Or.inl ⟨by kernel_rfl, fun W h => (by first | kernel_rfl | go_simp)⟩) hS ?_
  try simp only [Act.put, List.setIfInBounds_toArray, List.set_cons_zero, List.set_cons_succ]
  refine wpAnyF_take (i := 2) (oi := { dst := some 26, op := Op.fieldAddr 55 (Operand.tmp 25) 0, type := 0, pos := "soft.go:157", after := #[{ on := 1, ground := Ground.data }], guard := none }) (v := .pointer (some ⟨bf, 0, none⟩)) rfl (by kernel_rfl) (by kernel_rfl) (by kernel_rfl) (by kernel_rfl) (fun _ _ _ h => h) (Or.inl ⟨by kernel_rfl, fun W h => (by first | kernel_rfl | go_simp)⟩) hS ?_
  try simp only [Act.put, List.setIfInBounds_toArray, List.set_cons_zero, List.set_cons_succ]
  refine wpAnyF_take (i := 3) (oi := { dst := some 27, op := Op.load 53 (Operand.tmp 26), type := 53, pos := "soft.go:157", after := #[{ on := 2, ground := Ground.data }], guard := none }) (v := .pointer (some ⟨bc, 0, none⟩)) rfl (by kernel_rfl) (by kernel_rfl) (by kernel_rfl) (by kernel_rfl) (fun _ _ _ h => h) (Or.inl ⟨by kernel_rfl, fun W h => Op1.ld_ptr (.tmp 26) (by kernel_rfl) (by kernel_rfl) W (h.1)⟩) hS ?_
  try simp only [Act.put, List.setIfInBounds_toArray, List.set_cons_zero, List.set_cons_succ]
  refine wpAnyF_take (i := 4) (oi := { dst := some 28, op := Op.move (Operand.tmp 3), type := 3, pos := "soft.go:157", after := #[], guard := none }) (v := .int .i64 ((n : Nat) : Int)) rfl (by kernel_rfl) (by kernel_rfl) (by kernel_rfl) (by kernel_rfl) (fun _ _ _ h => h) (Or.inl ⟨by kernel_rfl, fun W h => (by first | kernel_rfl | go_simp)⟩) hS ?_
  try simp only [Act.put, List.setIfInBounds_toArray, List.set_cons_zero, List.set_cons_succ]
  refine wpAnyF_take (i := 5) (oi := { dst := some 29, op := Op.load 24 (Operand.tmp 4), type := 24, pos := "soft.go:157", after := #[], guard := none }) (v := .agg #[.bool true, .int .i64 (last + 1), .int .i64 0, .int .i64 (-1), .int .i64 (-1)]) rfl (by kernel_rfl) (by kernel_rfl) (by kernel_rfl) (by kernel_rfl) (fun _ _ _ h => h) (Or.inl ⟨by kernel_rfl, fun W h => ld_ino (.tmp 4) (by kernel_rfl) (by kernel_rfl) W h.2⟩) hS ?_
  try simp only [Act.put, List.setIfInBounds_toArray, List.set_cons_zero, List.set_cons_succ]
  refine wpAnyF_free (i := 6) (oi := { dst := some 30, op := Op.nilCheck (Operand.tmp 27), type := 0, pos := "soft.go:157", after := #[{ on := 3, ground := Ground.data }], guard := none }) (v := .pointer (some ⟨bc, 0, none⟩)) rfl (by kernel_rfl) (by kernel_rfl) (by kernel_rfl) (by kernel_rfl) (fun _ _ _ h => h) (Or.inl ⟨by kernel_rfl, fun W _ => (by first | kernel_rfl | go_simp)⟩) hS ?_
  try simp only [Act.put, List.setIfInBounds_toArray, List.set_cons_zero, List.set_cons_succ]
  refine wpAnyF_free (i := 7) (oi := { dst := some 31, op := Op.fieldAddr 57 (Operand.tmp 30) 0, type := 0, pos := "soft.go:157", after := #[{ on := 6, ground := Ground.data }], guard := none }) (v := .pointer (some ⟨bc, 0, none⟩)) rfl (by kernel_rfl) (by kernel_rfl) (by kernel_rfl) (by kernel_rfl) (fun _ _ _ h => h) (Or.inl ⟨by kernel_rfl, fun W _ => (by first | kernel_rfl | go_simp)⟩) hS ?_
  try simp only [Act.put, List.setIfInBounds_toArray, List.set_cons_zero, List.set_cons_succ]
  refine wpAnyF_free (i := 8) (oi := { dst := some 32, op := Op.fieldAddr 34 (Operand.tmp 31) 0, type := 0, pos := "soft.go:157", after := #[{ on := 7, ground := Ground.data }], guard := none }) (v := .pointer (some ⟨bc, 0, none⟩)) rfl (by kernel_rfl) (by kernel_rfl) (by kernel_rfl) (by kernel_rfl) (fun _ _ _ h => h) (Or.inl ⟨by kernel_rfl, fun W _ => (by first | kernel_rfl | go_simp)⟩) hS ?_
  try simp only [Act.put, List.setIfInBounds_toArray, List.set_cons_zero, List.set_cons_succ]
  refine wpAnyF_take (i := 9) (oi := { dst := some 33, op := Op.indexAddr 25 (Operand.tmp 32) (Operand.tmp 28), type := 0, pos := "soft.go:157", after := #[{ on := 8, ground := Ground.data }, { on := 4, ground := Ground.data }, { on := 0, ground := Ground.phase }, { on := 1, ground := Ground.phase }, { on := 2, ground := Ground.phase }, { on := 3, ground := Ground.phase }, { on := 4, ground := Ground.phase }, { on := 5, ground := Ground.phase }], guard := none }) (v := .pointer (some ⟨bc, n * 5, none⟩)) rfl (by kernel_rfl) (by kernel_rfl) (by kernel_rfl) (by kernel_rfl) (fun _ _ _ h => h) (Or.inl ⟨by kernel_rfl, fun W h => Op1.ix_ino (.tmp 32) (.tmp 28) (by kernel_rfl) (by kernel_rfl) (by kernel_rfl) (hn) W⟩) hS ?_
  try simp only [Act.put, List.setIfInBounds_toArray, List.set_cons_zero, List.set_cons_succ]
  generalize World.drew _ = W3 at hS FM8 ⊢
  refine wpAnyF_last (o := { dst := none, op := Op.store 24 (Operand.tmp 33) (Operand.tmp 29), type := 0, pos := "soft.go:157", after := #[{ on := 9, ground := Ground.data }, { on := 5, ground := Ground.data }, { on := 0, ground := Ground.phase }, { on := 1, ground := Ground.phase }, { on := 2, ground := Ground.phase }, { on := 3, ground := Ground.phase }, { on := 4, ground := Ground.phase }, { on := 5, ground := Ground.phase }], guard := none }) (by kernel_rfl) rfl (by kernel_rfl) (by kernel_rfl) (fun K hK => ?_)
  refine Op1.st_part (cells := #[.bool true, .int .i64 (last + 1), .int .i64 0, .int .i64 (-1), .int .i64 (-1)]) (o0 := n * 5) 24 (.tmp 33) (.tmp 29) (by kernel_rfl) rfl (by kernel_rfl) (by kernel_rfl) (unhide FM8).row sz_ino (by have := (unhide HM).size; simp; omega) (by kernel_rfl) ?_
  refine hK.out _ _ ?_
  clear hK K
  try simp only [Act.put, List.setIfInBounds_toArray, List.set_cons_zero, List.set_cons_succ]
  refine wpAnyF_done (by kernel_rfl) ?_ _
  have DONE := hide (Fd.ino (unhide FM8) (unhide HM) hn ⟨true, last + 1, 0, -1, -1⟩)
  clear hS
  go_wp2_with fail
  go_ret
  exact ⟨rfl, unhide DONE⟩
end
end Go.Proofs.YtmlhalhjfcfagabGreat
