/-
  The walk of (*soft.Files).full. (Written by gendj.py.)
-/
import Derived.Test.YtmbpckmpnnmnmacGreatZz
import Derived.Test.YtmbpckmpnnmnmacGreatXap
namespace Go.Proofs.YtmbpckmpnnmnmacGreat
open Go.RowKit
open Idl (Stp chk stpA)
theorem sfull_make (m k : Img) (x : Stp) (h : x.kind = 1) : Img.sfull m k x = (decide (Img.freeIno m k < 0) || Img.noPlace m k x.dir x.name) := by unfold Img.sfull; rw [if_pos h]
theorem sfull_to (m k : Img) (x : Stp) (h : x.kind = 2 ∨ x.kind = 4) : Img.sfull m k x = Img.noPlace m k x.toDir x.to := by unfold Img.sfull; rw [if_neg (by omega), if_pos h]
theorem sfull_put (m k : Img) (x : Stp) (h : x.kind = 5) : Img.sfull m k x = (decide (m.part (Img.inoOf m x.dir x.name).toNat x.p.toNat < 0) && decide (Img.freeData m k < 0)) := by unfold Img.sfull; rw [if_neg (by omega), if_neg (by omega), if_pos h]
theorem sfull_else (m k : Img) (x : Stp) (h : x.kind ≠ 1 ∧ x.kind ≠ 2 ∧ x.kind ≠ 4 ∧ x.kind ≠ 5) : Img.sfull m k x = false := by unfold Img.sfull; rw [if_neg h.1, if_neg (by omega), if_neg h.2.2.2]
section
variable {w : World} {bf bc : Nat} {cs ds : Array Value} {m k : Img} {last : Int}
/-- what a region of these files reads: the cache's place, the boxed step, the image -/
def FS (bf bc xb : Nat) (m : Img) (x : Stp) (W : World) : Prop := W.cell? ⟨bf, 0, none⟩ = some (.pointer (some ⟨bc, 0, none⟩)) ∧ (∀ (j : Nat) (u : Value), (stpA x)[j]? = some u → W.cell? ⟨xb, j, none⟩ = some u) ∧ HasAt W bc 0 m
theorem FS.of (h : Fl w bf bc cs ds m k last) (x : Stp) {W : World} (hb : Below (w.alloc (.cells (stpA x) 31)).heap.size (w.alloc (.cells (stpA x) 31)) W) : FS bf bc w.heap.size m x W := by
  have b1 : Below w.heap.size w W := ((Below.refl _ w).alloc (Nat.le_refl _) _).trans (hb.mono (by simp))
  exact ⟨(h.below b1).ptr, fun j u hj => stp_box w x W hb j u hj, (h.below b1).hasNow⟩
theorem FS.below {xb : Nat} {x : Stp} {W W' : World} (h : FS bf bc xb m x W) (hf : bf < W.heap.size) (hx : xb < W.heap.size) (hb : Below W.heap.size W W') : FS bf bc xb m x W' :=
  ⟨(hb.cell (p := ⟨bf, 0, none⟩) hf).trans h.1, fun j u hj => (hb.cell (p := ⟨xb, j, none⟩) hx).trans (h.2.1 j u hj), h.2.2.below hb h.2.2.lt⟩
set_option maxHeartbeats 2000000 in
set_option maxRecDepth 100000 in
theorem sfull_any (h : Fl w bf bc cs ds m k last) (hla : last < 4611686018427387904) (x : Stp) (h5 : x.kind = 5 → ∃ n q : Nat, n < 8 ∧ q < 2 ∧ Img.inoOf m x.dir x.name = (n : Int) ∧ x.p = (q : Int)) :
    Calls Tryz.prog 65 #[.pointer (some ⟨bf, 0, none⟩), .agg (stpA x)] w fun e w' => e = .returned (.bool (Img.sfull m k x)) ∧ Below w.heap.size w w' := by
  have BEL := hide (show Below w.heap.size w (w.alloc (.cells (stpA x) 31)) from (Below.refl _ w).alloc (Nat.le_refl _) _)
  have HF := hide h
  have HS := hide fun W hb => FS.of h x (W := W) hb
  have S0 := unhide HS _ (Below.refl _ _)
  have p0 := S0.1
  have c0 := S0.2.1 0 _ rfl
  have lt0 : bf < (w.alloc (.cells (stpA x) 31)).heap.size := Nat.lt_of_lt_of_le h.flt (by simp)
  have LT0 := hide lt0
  clear lt0
  clear h
  by_cases k1 : x.kind = 1
  · have E := hide (sfull_make m k x k1)
    have C2 := hide fun W (bW : Below w.heap.size w W) => noPlace_any ((unhide HF).below bW) x.dir x.name
    have C1 := hide fun W (bW : Below w.heap.size w W) => cInode_any bc cs ds m k (unhide HF).now (unhide HF).disk W ((unhide HF).below bW).row
    have HL := hide fun W (bW : Below w.heap.size w W) => ((unhide HF).below bW).lst
    have c1 := S0.2.1 1 _ rfl
    have c4 := S0.2.1 4 _ rfl
    have HS2 := hide fun W hb => (unhide HS W hb).2.1
    generalize Img.sfull m k x = fl at E ⊢
    generalize Img.noPlace m k x.dir x.name = np at E C2
    generalize Img.freeIno m k = fi at E C1
    have l1 : (last == 9223372036854775807) = false := by simp; omega
    obtain ⟨kind, dir, toDir, p, name, tu, text⟩ := x
    have kk : kind = 1 := k1
    subst kk
    clear S0 HS h5 k1
    by_cases hfi : fi < 0
    · have u1 : decide (fi < 0) = true := by simpa using hfi
      have E1 := hide (show fl = true by rw [unhide E, u1]; rfl)
      go_enter Tryz.func65, Tryz.ntmps65
      go_wp2_with fail
      refine (unhide C1 _ (unhide BEL)).mono ?_
      rintro e w1 ⟨rfl, b1⟩
      have B1 := hide ((unhide BEL).trans (b1.mono (by simp)))
      clear b1
      go_wp2_with fail
      go_ret
      exact ⟨ret_bool (unhide E1).symm, unhide B1⟩
    · have u1 : decide (fi < 0) = false := by simpa using hfi
      have E1 := hide (show fl = np by rw [unhide E, u1]; rfl)
      go_enter Tryz.func65, Tryz.ntmps65
      go_wp2_with fail
      refine (unhide C1 _ (unhide BEL)).mono ?_
      rintro e w1 ⟨rfl, b1⟩
      have B1 := hide ((unhide BEL).trans (b1.mono (by simp)))
      have q1 := unhide HL w1 (unhide B1)
      have g1 := unhide HS2 w1 b1 1 _ rfl
      have g4 := unhide HS2 w1 b1 4 _ rfl
      clear b1 c0 c1 c4 p0
      go_wp2_with fail
      refine (unhide C2 _ (unhide B1)).mono ?_
      rintro e w2 ⟨rfl, b2⟩
      have B2 := hide ((unhide B1).trans (b2.mono (unhide B1).size))
      clear b2
      go_wp2_with fail
      go_ret
      exact ⟨ret_bool (unhide E1).symm, unhide B2⟩
  · by_cases k24 : x.kind = 2 ∨ x.kind = 4
    · have E := hide (sfull_to m k x k24)
      have C2 := hide (noPlace_any ((unhide HF).below (unhide BEL)) x.toDir x.to)
      have c2 := S0.2.1 2 _ rfl
      have c5 := S0.2.1 5 _ rfl
      generalize Img.sfull m k x = fl at E ⊢
      generalize Img.noPlace m k x.toDir x.to = np at E C2
      obtain ⟨kind, dir, toDir, p, name, tu, text⟩ := x
      have kk : kind = 2 ∨ kind = 4 := k24
      clear S0 HS h5 k1 k24
      rcases kk with rfl | rfl
      all_goals
        go_enter Tryz.func65, Tryz.ntmps65
        go_wp2_with fail
        refine (unhide C2).mono ?_
        rintro e w2 ⟨rfl, b2⟩
        have B2 := hide ((unhide BEL).trans (b2.mono (by simp)))
        clear b2
        go_wp2_with fail
        go_ret
        exact ⟨ret_bool (unhide E).symm, unhide B2⟩
    · by_cases k5 : x.kind = 5
      · obtain ⟨n, q, hn, hq, en, eq⟩ := h5 k5
        have e0 := sfull_put m k x k5
        rw [en, eq, Int.toNat_natCast, Int.toNat_natCast] at e0
        have E := hide e0
        have C1 := hide fun W (bW : Below w.heap.size w W) => sfind_any ((unhide HF).below bW) x.dir x.name
        rw [en] at C1
        have C2 := hide fun W (bW : Below w.heap.size w W) => cData_any bc cs ds m k (unhide HF).now (unhide HF).disk W ((unhide HF).below bW).row
        have hpt := hide fun W (h : HasAt W bc 0 m) => h.part n q hn hq
        have SD := hide (unhide HS _ ((Below.refl (w.alloc (.cells (stpA x) 31)).heap.size (w.alloc (.cells (stpA x) 31))).drew))
        generalize Img.sfull m k x = fl at E ⊢
        generalize Img.freeData m k = fd at E C2
        generalize m.part n q = pt at E hpt
        obtain ⟨kind, dir, toDir, p, name, tu, text⟩ := x
        have kk : kind = 5 := k5
        subst kk
        have kp : p = (q : Int) := eq
        subst kp
        clear S0 h5 k1 k24 k5 en e0 eq
        have BD := hide ((unhide BEL).drew)
        have XLT := hide (show w.heap.size < (w.alloc (.cells (stpA ⟨5, dir, toDir, (q : Int), name, tu, text⟩) 31)).drew.heap.size from by simp [World.drew])
        go_enter Tryz.func65, Tryz.ntmps65
        go_wp2_with fail
        by_cases hpn : pt < 0
        · have U1 := hide (show decide (pt < 0) = true by simpa using hpn)
          have E1 := hide (show fl = decide (fd < 0) by rw [unhide E, unhide U1, Bool.true_and])
          clear hpn E
          refine wp_region_held_drew (S := FS bf bc w.heap.size m ⟨5, dir, toDir, (q : Int), name, tu, text⟩) (by kernel_rfl) (unhide SD) (fun hS => ?_)
          refine tkP (i := 0) (oi := ⟨some 41, .move (.tmp 0), 46, "soft.go:139", #[], none⟩) (v := .pointer (some ⟨bf, 0, none⟩)) hS ?_
          try simp only [Act.put, z1, z2, z3]
          refine tkP (i := 1) (oi := ⟨some 42, .nilCheck (.tmp 41), 0, "soft.go:139", #[⟨0, .data⟩], none⟩) (v := .pointer (some ⟨bf, 0, none⟩)) hS ?_
          try simp only [Act.put, z1, z2, z3]
          refine tkP (i := 2) (oi := ⟨some 43, .fieldAddr 53 (.tmp 42) 0, 0, "soft.go:139", #[⟨1, .data⟩], none⟩) (v := .pointer (some ⟨bf, 0, none⟩)) hS ?_
          try simp only [Act.put, z1, z2, z3]
          refine tkH (i := 3) (oi := ⟨some 44, .load 51 (.tmp 43), 51, "soft.go:139", #[⟨2, .data⟩], none⟩) (v := .pointer (some ⟨bc, 0, none⟩)) (fun W h => Op1.ld_ptr (.tmp 43) (by kernel_rfl) (by kernel_rfl) W (h.1)) hS ?_
          try simp only [Act.put, z1, z2, z3]
          refine tkP (i := 4) (oi := ⟨some 45, .move (.tmp 0), 46, "soft.go:139", #[], none⟩) (v := .pointer (some ⟨bf, 0, none⟩)) hS ?_
          try simp only [Act.put, z1, z2, z3]
          refine tkP (i := 5) (oi := ⟨some 46, .fieldAddr 31 (.tmp 3) 1, 0, "soft.go:139", #[], none⟩) (v := .pointer (some ⟨w.heap.size, 1, none⟩)) hS ?_
          try simp only [Act.put, z1, z2, z3]
          refine tkH (i := 6) (oi := ⟨some 47, .load 3 (.tmp 46), 3, "soft.go:139", #[⟨5, .data⟩], none⟩) (v := .int .i64 dir) (fun W h => Op1.ld_int (.tmp 46) (by kernel_rfl) (by kernel_rfl) W (h.2.1 1 _ rfl)) hS ?_
          try simp only [Act.put, z1, z2, z3]
          refine tkP (i := 7) (oi := ⟨some 48, .fieldAddr 31 (.tmp 3) 4, 0, "soft.go:139", #[], none⟩) (v := .pointer (some ⟨w.heap.size, 4, none⟩)) hS ?_
          try simp only [Act.put, z1, z2, z3]
          refine tkH (i := 8) (oi := ⟨some 49, .load 9 (.tmp 48), 9, "soft.go:139", #[⟨7, .data⟩], none⟩) (v := .string name) (fun W h => Op1.ld_str (.tmp 48) (by kernel_rfl) (by kernel_rfl) W (h.2.1 4 _ rfl)) hS ?_
          try simp only [Act.put, z1, z2, z3]
          refine tkP (i := 10) (oi := ⟨some 51, .fieldAddr 31 (.tmp 3) 3, 0, "soft.go:139", #[], none⟩) (v := .pointer (some ⟨w.heap.size, 3, none⟩)) hS ?_
          try simp only [Act.put, z1, z2, z3]
          refine tkH (i := 11) (oi := ⟨some 52, .load 3 (.tmp 51), 3, "soft.go:139", #[⟨10, .data⟩], none⟩) (v := .int .i64 (q : Int)) (fun W h => Op1.ld_int (.tmp 51) (by kernel_rfl) (by kernel_rfl) W (h.2.1 3 _ rfl)) hS ?_
          try simp only [Act.put, z1, z2, z3]
          refine tkP (i := 12) (oi := ⟨some 53, .nilCheck (.tmp 44), 0, "soft.go:139", #[⟨3, .data⟩], none⟩) (v := .pointer (some ⟨bc, 0, none⟩)) hS ?_
          try simp only [Act.put, z1, z2, z3]
          refine tkP (i := 13) (oi := ⟨some 54, .fieldAddr 57 (.tmp 53) 0, 0, "soft.go:139", #[⟨12, .data⟩], none⟩) (v := .pointer (some ⟨bc, 0, none⟩)) hS ?_
          try simp only [Act.put, z1, z2, z3]
          refine tkP (i := 14) (oi := ⟨some 55, .fieldAddr 44 (.tmp 54) 0, 0, "soft.go:139", #[⟨13, .data⟩], none⟩) (v := .pointer (some ⟨bc, 0, none⟩)) hS ?_
          try simp only [Act.put, z1, z2, z3]
          generalize World.drew _ = W0 at hS BD XLT ⊢
          refine wpAnyH_ready (rs := [9]) (by kernel_rfl) (by simp) ?_
          refine AllReadyH.cons (o := ⟨some 50, .call { callee := .value (.func 68), args := #[.tmp 45, .tmp 47, .tmp 49], argTypes := #[46, 3, 9] }, 3, "soft.go:139", #[⟨4, .data⟩, ⟨6, .data⟩, ⟨8, .data⟩], none⟩) rfl (fun K hK => ?_) AllReadyH.nil
          rw [if_pos (by kernel_rfl)]
          go_simp
          refine (unhide C1 W0 (unhide BD)).mono ?_
          rintro e w1 ⟨rfl, e9⟩
          rw [e9]
          clear e9 w1
          go_wp2_with fail
          refine hK.out _ _ (hS) (fun hS1 => ?_)
          clear hK K
          try simp only [Act.put, z1, z2, z3]
          refine tkH (i := 15) (oi := ⟨some 56, .indexAddr 35 (.tmp 55) (.tmp 50), 0, "soft.go:139", #[⟨14, .data⟩, ⟨9, .data⟩], none⟩) (v := .pointer (some ⟨bc, n * 5, none⟩)) (fun W h => Op1.ix_ino (.tmp 55) (.tmp 50) (by kernel_rfl) (by kernel_rfl) (by kernel_rfl) (hn) W) hS1 ?_
          try simp only [Act.put, z1, z2, z3]
          refine tkP (i := 16) (oi := ⟨some 57, .fieldAddr 34 (.tmp 56) 3, 0, "soft.go:139", #[⟨15, .data⟩], none⟩) (v := .pointer (some ⟨bc, n * 5 + 3, none⟩)) hS1 ?_
          try simp only [Act.put, z1, z2, z3]
          refine tkH (i := 17) (oi := ⟨some 58, .indexAddr 32 (.tmp 57) (.tmp 52), 0, "soft.go:139", #[⟨16, .data⟩, ⟨11, .data⟩], none⟩) (v := .pointer (some ⟨bc, n * 5 + 3 + q, none⟩)) (fun W h => Op1.ix_part (.tmp 57) (.tmp 52) (by kernel_rfl) (by kernel_rfl) (by kernel_rfl) (hq) W) hS1 ?_
          try simp only [Act.put, z1, z2, z3]
          refine tkH (i := 18) (oi := ⟨some 59, .load 3 (.tmp 58), 3, "soft.go:139", #[⟨17, .data⟩], none⟩) (v := .int .i64 pt) (fun W h => Op1.ld_int (.tmp 58) (by kernel_rfl) (by kernel_rfl) W (by have := unhide hpt W h.2.2; rw [Nat.zero_add] at this; exact this)) hS1 ?_
          try simp only [Act.put, z1, z2, z3]
          refine tkH (i := 19) (oi := ⟨some 60, .binOp .lss 3 (.tmp 59) (.const (.int .i64 0)) 3, 4, "soft.go:139", #[⟨18, .data⟩], none⟩) (v := .bool true) (fun W h => (by rw [← unhide U1]; exact Op1.lss0 (.tmp 59) (by kernel_rfl) (by kernel_rfl) (by kernel_rfl) W)) hS1 ?_
          try simp only [Act.put, z1, z2, z3]
          refine tkP (i := 20) (oi := ⟨some 61, .move (.tmp 60), 4, "soft.go:139", #[⟨19, .data⟩, ⟨9, .chain⟩], none⟩) (v := .bool true) hS1 ?_
          try simp only [Act.put, z1, z2, z3]
          refine tkP (i := 21) (oi := ⟨some 62, .move (.tmp 0), 46, "soft.go:139", #[⟨20, .guard⟩], some (20, true)⟩) (v := .pointer (some ⟨bf, 0, none⟩)) hS1 ?_
          try simp only [Act.put, z1, z2, z3]
          refine tkP (i := 22) (oi := ⟨some 63, .nilCheck (.tmp 62), 0, "soft.go:139", #[⟨21, .data⟩, ⟨20, .guard⟩], some (20, true)⟩) (v := .pointer (some ⟨bf, 0, none⟩)) hS1 ?_
          try simp only [Act.put, z1, z2, z3]
          refine tkP (i := 23) (oi := ⟨some 64, .fieldAddr 53 (.tmp 63) 0, 0, "soft.go:139", #[⟨22, .data⟩, ⟨20, .guard⟩], some (20, true)⟩) (v := .pointer (some ⟨bf, 0, none⟩)) hS1 ?_
          try simp only [Act.put, z1, z2, z3]
          refine tkH (i := 24) (oi := ⟨some 65, .load 51 (.tmp 64), 51, "soft.go:139", #[⟨23, .data⟩, ⟨20, .guard⟩], some (20, true)⟩) (v := .pointer (some ⟨bc, 0, none⟩)) (fun W h => Op1.ld_ptr (.tmp 64) (by kernel_rfl) (by kernel_rfl) W (h.1)) hS1 ?_
          try simp only [Act.put, z1, z2, z3]
          refine wpAnyH_ready (rs := [25]) (by kernel_rfl) (by simp) ?_
          refine AllReadyH.cons (o := ⟨some 66, .call { callee := .value (.func 100), args := #[.tmp 65], argTypes := #[51] }, 3, "soft.go:139", #[⟨24, .data⟩, ⟨20, .chain⟩, ⟨20, .guard⟩], some (20, true)⟩) rfl (fun K hK => ?_) AllReadyH.nil
          rw [if_pos (by kernel_rfl)]
          go_simp
          refine (unhide C2 W0 (unhide BD)).mono ?_
          rintro e w2 ⟨rfl, b2⟩
          have B2 := hide ((unhide BD).trans (b2.mono (unhide BD).size))
          go_wp2_with fail
          refine hK.out _ _ (hS1.below (Nat.lt_of_lt_of_le (unhide HF).flt (unhide BD).size) (unhide XLT) b2) (fun hS2 => ?_)
          clear hK K
          try simp only [Act.put, z1, z2, z3]
          refine tkH (i := 26) (oi := ⟨some 67, .binOp .lss 3 (.tmp 66) (.const (.int .i64 0)) 3, 4, "soft.go:139", #[⟨25, .data⟩, ⟨20, .guard⟩], some (20, true)⟩) (v := .bool (decide (fd < 0))) (fun W h => Op1.lss0 (.tmp 66) (by kernel_rfl) (by kernel_rfl) (by kernel_rfl) W) hS2 ?_
          try simp only [Act.put, z1, z2, z3]
          refine tkP (i := 27) (oi := ⟨some 68, .pick (.tmp 61) (.tmp 67) (.const (.bool false)), 4, "soft.go:139", #[⟨20, .data⟩, ⟨26, .data⟩], none⟩) (v := .bool (decide (fd < 0))) hS2 ?_
          try simp only [Act.put, z1, z2, z3]
          refine tkP (i := 28) (oi := ⟨some 4, .assign (.tmp 68), 4, "soft.go:139", #[⟨27, .data⟩, ⟨25, .chain⟩, ⟨0, .phase⟩, ⟨1, .phase⟩, ⟨2, .phase⟩, ⟨3, .phase⟩, ⟨4, .phase⟩, ⟨5, .phase⟩, ⟨6, .phase⟩, ⟨7, .phase⟩, ⟨8, .phase⟩, ⟨9, .phase⟩, ⟨10, .phase⟩, ⟨11, .phase⟩, ⟨12, .phase⟩, ⟨13, .phase⟩, ⟨14, .phase⟩, ⟨15, .phase⟩, ⟨16, .phase⟩, ⟨17, .phase⟩, ⟨18, .phase⟩, ⟨19, .phase⟩, ⟨20, .phase⟩, ⟨21, .phase⟩, ⟨22, .phase⟩, ⟨23, .phase⟩, ⟨24, .phase⟩, ⟨25, .phase⟩, ⟨26, .phase⟩, ⟨27, .phase⟩], none⟩) (v := .bool (decide (fd < 0))) hS2 ?_
          try simp only [Act.put, z1, z2, z3]
          refine wpAnyH_done (by kernel_rfl) ?_ _
          clear hS hS1 hS2
          go_wp2_with fail
          go_ret
          exact ⟨ret_bool (unhide E1).symm, unhide B2⟩
        · have U1 := hide (show decide (pt < 0) = false by simpa using hpn)
          have E1 := hide (show fl = false by rw [unhide E, unhide U1, Bool.false_and])
          clear hpn E
          refine wp_region_held_drew (S := FS bf bc w.heap.size m ⟨5, dir, toDir, (q : Int), name, tu, text⟩) (by kernel_rfl) (unhide SD) (fun hS => ?_)
          refine tkP (i := 0) (oi := ⟨some 41, .move (.tmp 0), 46, "soft.go:139", #[], none⟩) (v := .pointer (some ⟨bf, 0, none⟩)) hS ?_
          try simp only [Act.put, z1, z2, z3]
          refine tkP (i := 1) (oi := ⟨some 42, .nilCheck (.tmp 41), 0, "soft.go:139", #[⟨0, .data⟩], none⟩) (v := .pointer (some ⟨bf, 0, none⟩)) hS ?_
          try simp only [Act.put, z1, z2, z3]
          refine tkP (i := 2) (oi := ⟨some 43, .fieldAddr 53 (.tmp 42) 0, 0, "soft.go:139", #[⟨1, .data⟩], none⟩) (v := .pointer (some ⟨bf, 0, none⟩)) hS ?_
          try simp only [Act.put, z1, z2, z3]
          refine tkH (i := 3) (oi := ⟨some 44, .load 51 (.tmp 43), 51, "soft.go:139", #[⟨2, .data⟩], none⟩) (v := .pointer (some ⟨bc, 0, none⟩)) (fun W h => Op1.ld_ptr (.tmp 43) (by kernel_rfl) (by kernel_rfl) W (h.1)) hS ?_
          try simp only [Act.put, z1, z2, z3]
          refine tkP (i := 4) (oi := ⟨some 45, .move (.tmp 0), 46, "soft.go:139", #[], none⟩) (v := .pointer (some ⟨bf, 0, none⟩)) hS ?_
          try simp only [Act.put, z1, z2, z3]
          refine tkP (i := 5) (oi := ⟨some 46, .fieldAddr 31 (.tmp 3) 1, 0, "soft.go:139", #[], none⟩) (v := .pointer (some ⟨w.heap.size, 1, none⟩)) hS ?_
          try simp only [Act.put, z1, z2, z3]
          refine tkH (i := 6) (oi := ⟨some 47, .load 3 (.tmp 46), 3, "soft.go:139", #[⟨5, .data⟩], none⟩) (v := .int .i64 dir) (fun W h => Op1.ld_int (.tmp 46) (by kernel_rfl) (by kernel_rfl) W (h.2.1 1 _ rfl)) hS ?_
          try simp only [Act.put, z1, z2, z3]
          refine tkP (i := 7) (oi := ⟨some 48, .fieldAddr 31 (.tmp 3) 4, 0, "soft.go:139", #[], none⟩) (v := .pointer (some ⟨w.heap.size, 4, none⟩)) hS ?_
          try simp only [Act.put, z1, z2, z3]
          refine tkH (i := 8) (oi := ⟨some 49, .load 9 (.tmp 48), 9, "soft.go:139", #[⟨7, .data⟩], none⟩) (v := .string name) (fun W h => Op1.ld_str (.tmp 48) (by kernel_rfl) (by kernel_rfl) W (h.2.1 4 _ rfl)) hS ?_
          try simp only [Act.put, z1, z2, z3]
          refine tkP (i := 10) (oi := ⟨some 51, .fieldAddr 31 (.tmp 3) 3, 0, "soft.go:139", #[], none⟩) (v := .pointer (some ⟨w.heap.size, 3, none⟩)) hS ?_
          try simp only [Act.put, z1, z2, z3]
          refine tkH (i := 11) (oi := ⟨some 52, .load 3 (.tmp 51), 3, "soft.go:139", #[⟨10, .data⟩], none⟩) (v := .int .i64 (q : Int)) (fun W h => Op1.ld_int (.tmp 51) (by kernel_rfl) (by kernel_rfl) W (h.2.1 3 _ rfl)) hS ?_
          try simp only [Act.put, z1, z2, z3]
          refine tkP (i := 12) (oi := ⟨some 53, .nilCheck (.tmp 44), 0, "soft.go:139", #[⟨3, .data⟩], none⟩) (v := .pointer (some ⟨bc, 0, none⟩)) hS ?_
          try simp only [Act.put, z1, z2, z3]
          refine tkP (i := 13) (oi := ⟨some 54, .fieldAddr 57 (.tmp 53) 0, 0, "soft.go:139", #[⟨12, .data⟩], none⟩) (v := .pointer (some ⟨bc, 0, none⟩)) hS ?_
          try simp only [Act.put, z1, z2, z3]
          refine tkP (i := 14) (oi := ⟨some 55, .fieldAddr 44 (.tmp 54) 0, 0, "soft.go:139", #[⟨13, .data⟩], none⟩) (v := .pointer (some ⟨bc, 0, none⟩)) hS ?_
          try simp only [Act.put, z1, z2, z3]
          generalize World.drew _ = W0 at hS BD ⊢
          refine wpAnyH_ready (rs := [9]) (by kernel_rfl) (by simp) ?_
          refine AllReadyH.cons (o := ⟨some 50, .call { callee := .value (.func 68), args := #[.tmp 45, .tmp 47, .tmp 49], argTypes := #[46, 3, 9] }, 3, "soft.go:139", #[⟨4, .data⟩, ⟨6, .data⟩, ⟨8, .data⟩], none⟩) rfl (fun K hK => ?_) AllReadyH.nil
          rw [if_pos (by kernel_rfl)]
          go_simp
          refine (unhide C1 W0 (unhide BD)).mono ?_
          rintro e w1 ⟨rfl, e9⟩
          rw [e9]
          clear e9 w1
          go_wp2_with fail
          refine hK.out _ _ (hS) (fun hS1 => ?_)
          clear hK K
          try simp only [Act.put, z1, z2, z3]
          refine tkH (i := 15) (oi := ⟨some 56, .indexAddr 35 (.tmp 55) (.tmp 50), 0, "soft.go:139", #[⟨14, .data⟩, ⟨9, .data⟩], none⟩) (v := .pointer (some ⟨bc, n * 5, none⟩)) (fun W h => Op1.ix_ino (.tmp 55) (.tmp 50) (by kernel_rfl) (by kernel_rfl) (by kernel_rfl) (hn) W) hS1 ?_
          try simp only [Act.put, z1, z2, z3]
          refine tkP (i := 16) (oi := ⟨some 57, .fieldAddr 34 (.tmp 56) 3, 0, "soft.go:139", #[⟨15, .data⟩], none⟩) (v := .pointer (some ⟨bc, n * 5 + 3, none⟩)) hS1 ?_
          try simp only [Act.put, z1, z2, z3]
          refine tkH (i := 17) (oi := ⟨some 58, .indexAddr 32 (.tmp 57) (.tmp 52), 0, "soft.go:139", #[⟨16, .data⟩, ⟨11, .data⟩], none⟩) (v := .pointer (some ⟨bc, n * 5 + 3 + q, none⟩)) (fun W h => Op1.ix_part (.tmp 57) (.tmp 52) (by kernel_rfl) (by kernel_rfl) (by kernel_rfl) (hq) W) hS1 ?_
          try simp only [Act.put, z1, z2, z3]
          refine tkH (i := 18) (oi := ⟨some 59, .load 3 (.tmp 58), 3, "soft.go:139", #[⟨17, .data⟩], none⟩) (v := .int .i64 pt) (fun W h => Op1.ld_int (.tmp 58) (by kernel_rfl) (by kernel_rfl) W (by have := unhide hpt W h.2.2; rw [Nat.zero_add] at this; exact this)) hS1 ?_
          try simp only [Act.put, z1, z2, z3]
          refine tkH (i := 19) (oi := ⟨some 60, .binOp .lss 3 (.tmp 59) (.const (.int .i64 0)) 3, 4, "soft.go:139", #[⟨18, .data⟩], none⟩) (v := .bool false) (fun W h => (by rw [← unhide U1]; exact Op1.lss0 (.tmp 59) (by kernel_rfl) (by kernel_rfl) (by kernel_rfl) W)) hS1 ?_
          try simp only [Act.put, z1, z2, z3]
          refine tkP (i := 20) (oi := ⟨some 61, .move (.tmp 60), 4, "soft.go:139", #[⟨19, .data⟩, ⟨9, .chain⟩], none⟩) (v := .bool false) hS1 ?_
          try simp only [Act.put, z1, z2, z3]
          refine wpAnyH_take (i := 21) (oi := ⟨some 62, .move (.tmp 0), 46, "soft.go:139", #[⟨20, .guard⟩], some (20, true)⟩) (v := undef) rfl (by kernel_rfl) (by kernel_rfl) (by kernel_rfl) (fun _ _ _ h => h) (Or.inr ⟨by kernel_rfl, rfl⟩) hS1 ?_
          try simp only [Act.put, z1, z2, z3]
          refine wpAnyH_take (i := 22) (oi := ⟨some 63, .nilCheck (.tmp 62), 0, "soft.go:139", #[⟨21, .data⟩, ⟨20, .guard⟩], some (20, true)⟩) (v := undef) rfl (by kernel_rfl) (by kernel_rfl) (by kernel_rfl) (fun _ _ _ h => h) (Or.inr ⟨by kernel_rfl, rfl⟩) hS1 ?_
          try simp only [Act.put, z1, z2, z3]
          refine wpAnyH_take (i := 23) (oi := ⟨some 64, .fieldAddr 53 (.tmp 63) 0, 0, "soft.go:139", #[⟨22, .data⟩, ⟨20, .guard⟩], some (20, true)⟩) (v := undef) rfl (by kernel_rfl) (by kernel_rfl) (by kernel_rfl) (fun _ _ _ h => h) (Or.inr ⟨by kernel_rfl, rfl⟩) hS1 ?_
          try simp only [Act.put, z1, z2, z3]
          refine wpAnyH_take (i := 24) (oi := ⟨some 65, .load 51 (.tmp 64), 51, "soft.go:139", #[⟨23, .data⟩, ⟨20, .guard⟩], some (20, true)⟩) (v := undef) rfl (by kernel_rfl) (by kernel_rfl) (by kernel_rfl) (fun _ _ _ h => h) (Or.inr ⟨by kernel_rfl, rfl⟩) hS1 ?_
          try simp only [Act.put, z1, z2, z3]
          refine wpAnyH_take (i := 25) (oi := ⟨some 66, .call { callee := .value (.func 100), args := #[.tmp 65], argTypes := #[51] }, 3, "soft.go:139", #[⟨24, .data⟩, ⟨20, .chain⟩, ⟨20, .guard⟩], some (20, true)⟩) (v := undef) rfl (by kernel_rfl) (by kernel_rfl) (by kernel_rfl) (fun _ _ _ h => h) (Or.inr ⟨by kernel_rfl, rfl⟩) hS1 ?_
          try simp only [Act.put, z1, z2, z3]
          refine wpAnyH_take (i := 26) (oi := ⟨some 67, .binOp .lss 3 (.tmp 66) (.const (.int .i64 0)) 3, 4, "soft.go:139", #[⟨25, .data⟩, ⟨20, .guard⟩], some (20, true)⟩) (v := undef) rfl (by kernel_rfl) (by kernel_rfl) (by kernel_rfl) (fun _ _ _ h => h) (Or.inr ⟨by kernel_rfl, rfl⟩) hS1 ?_
          try simp only [Act.put, z1, z2, z3]
          refine tkP (i := 27) (oi := ⟨some 68, .pick (.tmp 61) (.tmp 67) (.const (.bool false)), 4, "soft.go:139", #[⟨20, .data⟩, ⟨26, .data⟩], none⟩) (v := .bool false) hS1 ?_
          try simp only [Act.put, z1, z2, z3]
          refine tkP (i := 28) (oi := ⟨some 4, .assign (.tmp 68), 4, "soft.go:139", #[⟨27, .data⟩, ⟨25, .chain⟩, ⟨0, .phase⟩, ⟨1, .phase⟩, ⟨2, .phase⟩, ⟨3, .phase⟩, ⟨4, .phase⟩, ⟨5, .phase⟩, ⟨6, .phase⟩, ⟨7, .phase⟩, ⟨8, .phase⟩, ⟨9, .phase⟩, ⟨10, .phase⟩, ⟨11, .phase⟩, ⟨12, .phase⟩, ⟨13, .phase⟩, ⟨14, .phase⟩, ⟨15, .phase⟩, ⟨16, .phase⟩, ⟨17, .phase⟩, ⟨18, .phase⟩, ⟨19, .phase⟩, ⟨20, .phase⟩, ⟨21, .phase⟩, ⟨22, .phase⟩, ⟨23, .phase⟩, ⟨24, .phase⟩, ⟨25, .phase⟩, ⟨26, .phase⟩, ⟨27, .phase⟩], none⟩) (v := .bool false) hS1 ?_
          try simp only [Act.put, z1, z2, z3]
          refine wpAnyH_done (by kernel_rfl) ?_ _
          clear hS hS1
          go_wp2_with fail
          go_ret
          exact ⟨ret_bool (unhide E1).symm, unhide BD⟩
      · have E := hide (sfull_else m k x ⟨k1, fun z => k24 (.inl z), fun z => k24 (.inr z), k5⟩)
        generalize Img.sfull m k x = fl at E ⊢
        obtain ⟨kind, dir, toDir, p, name, tu, text⟩ := x
        have z1 : (kind == 1) = false := by simpa using k1
        have z2 : (kind == 2) = false := by have : kind ≠ 2 := fun z => k24 (.inl z); simpa using this
        have z4 : (kind == 4) = false := by have : kind ≠ 4 := fun z => k24 (.inr z); simpa using this
        have z5 : (kind == 5) = false := by simpa using k5
        clear S0 h5 k1 k24 k5
        go_enter Tryz.func65, Tryz.ntmps65
        go_wp2_with fail
        go_ret
        exact ⟨ret_bool (unhide E).symm, unhide BEL⟩
end
end Go.Proofs.YtmbpckmpnnmnmacGreat
