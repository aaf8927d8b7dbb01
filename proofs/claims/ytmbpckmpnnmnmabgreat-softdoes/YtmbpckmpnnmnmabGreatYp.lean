/-
  The reference's SlotOf on anything; (*Bed).Read, Same, Sure. (Written by genfg.py.)
-/
import Derived.Test.YtmbpckmpnnmnmabGreatZz
import Derived.Test.YtmbpckmpnnmnmabGreatYl
import Derived.Test.YtmbpckmpnnmnmabGreatYh
import Derived.Test.YtmbpckmpnnmnmabGreatYn
import Derived.Test.YtmbpckmpnnmnmabGreatYr
import Derived.Test.YtmbpckmpnnmnmabGreatYf
namespace Go.Proofs.YtmbpckmpnnmnmabGreat
open Go.RowKit
open Idl (Stp chk stpA)
theorem Op1.eqlI {o : Oper} {ρ : Operand → Value} (x y : Operand) (ho : o.op = .binOp .eql 3 x y 3) {u v : Int} (hx : ρ x = .int .i64 u) (hy : ρ y = .int .i64 v) (w : World) : (execOp ρ o).run Tryz.prog w = .ok (.value (.bool (u == v))) w := by
  unfold execOp
  rw [ho]
  go_simp
theorem rSlotOf_any {ob : Nat} (b : Nat) (m : Img) (d : Int) (nm : ByteArray) (w : World) (hm : HasAt w b ob m) :
    Calls Tryz.prog 46 #[.pointer (some ⟨b, ob, none⟩), .int .i64 d, .string nm] w fun e w' => e = .returned (.int .i64 (m.findAt d nm.toList)) ∧ w' = w := by
  by_cases c : 0 ≤ d ∧ d < 3 ∧ nm.toList.isEmpty = false
  · obtain ⟨c0, c3, cn⟩ := c
    obtain ⟨k, rfl⟩ := Int.eq_ofNat_of_zero_le c0
    rw [Sft.findAt_in (by omega) cn]
    exact rSlotOf_in b m k (by omega) nm cn w hm
  · have E : m.findAt d nm.toList = -1 := by unfold Img.findAt; rw [if_neg c]
    rw [E]
    clear E hm
    by_cases h0 : d < 0
    · have t0 : decide (d < 0) = true := by simpa using h0
      clear c
      go_enter Tryz.func46, Tryz.ntmps46
      go_wp2_with fail
      go_ret
      exact ⟨rfl, rfl⟩
    · have t0 : decide (d < 0) = false := by simpa using h0
      by_cases h3 : 3 ≤ d
      · have t3 : decide (3 ≤ d) = true := by simpa using h3
        clear c
        go_enter Tryz.func46, Tryz.ntmps46
        go_wp2_with fail
        go_ret
        exact ⟨rfl, rfl⟩
      · have t3 : decide (3 ≤ d) = false := by simpa using h3
        have hne : nm.toList.isEmpty = true := by
          cases e : nm.toList.isEmpty
          · exact absurd ⟨by omega, by omega, e⟩ c
          · rfl
        have hnl : nm.toList = [] := by simpa using hne
        clear c h0 h3
        go_enter Tryz.func46, Tryz.ntmps46
        go_wp2_with fail
        go_ret
        exact ⟨rfl, rfl⟩
section
variable {g : Nat} {m k : Img}
set_option maxHeartbeats 4000000 in
set_option maxRecDepth 100000 in
theorem bSame_any (w : World) (hm : HasAt w g 0 m) (hok : m.check = 0) (d : Int) (s : ByteArray) (e : Int) (u : ByteArray) :
    Calls Tryz.prog 25 #[.pointer (some ⟨g, 0, none⟩), .int .i64 d, .string s, .int .i64 e, .string u] w fun r w' => r = .returned (.bool (Img.ssame m d s e u)) ∧ Below w.heap.size w w' := by
  have BD := hide ((Below.refl w.heap.size w).drew)
  have HMD := hide (hm.below (unhide BD) hm.lt)
  by_cases h1 : m.findAt d s.toList < 0
  · have E : Img.ssame m d s e u = false := by unfold Img.ssame; rw [show decide (0 ≤ Img.inoOf m d s) = false by have := (Img.inoOf_neg hok).2 h1; simpa using this]; rfl
    rw [E]
    obtain ⟨v1, hv1⟩ : ∃ v1, v1 = m.findAt d s.toList := ⟨_, rfl⟩
    have HV1 := hide hv1.symm
    obtain ⟨v2, hv2⟩ : ∃ v2, v2 = m.findAt e u.toList := ⟨_, rfl⟩
    have HV2 := hide hv2.symm
    have U1 := hide (show decide (0 ≤ v1) = false by rw [hv1]; simpa using h1)
    clear hv1 hv2 h1 E hok hm
    go_enter Tryz.func25, Tryz.ntmps25
    go_wp2_with fail
    refine wp_region_held_drew (S := fun W' => HasAt W' g 0 m) (by kernel_rfl) (unhide HMD) (fun hS => ?_)
    refine tkP (i := 0) (oi := ⟨some 13, .move (.tmp 0), 44, "base.go:667", #[], none⟩) (v := .pointer (some ⟨g, 0, none⟩)) hS ?_
    try simp only [Act.put, z1, z2, z3]
    refine tkP (i := 1) (oi := ⟨some 14, .nilCheck (.tmp 13), 0, "base.go:667", #[⟨0, .data⟩], none⟩) (v := .pointer (some ⟨g, 0, none⟩)) hS ?_
    try simp only [Act.put, z1, z2, z3]
    refine tkP (i := 2) (oi := ⟨some 15, .fieldAddr 48 (.tmp 14) 0, 0, "base.go:667", #[⟨1, .data⟩], none⟩) (v := .pointer (some ⟨g, 0, none⟩)) hS ?_
    try simp only [Act.put, z1, z2, z3]
    refine tkP (i := 3) (oi := ⟨some 16, .move (.tmp 1), 3, "base.go:667", #[], none⟩) (v := .int .i64 d) hS ?_
    try simp only [Act.put, z1, z2, z3]
    refine tkP (i := 4) (oi := ⟨some 17, .move (.tmp 2), 9, "base.go:667", #[], none⟩) (v := .string s) hS ?_
    try simp only [Act.put, z1, z2, z3]
    refine tkP (i := 6) (oi := ⟨some 19, .move (.tmp 0), 44, "base.go:667", #[], none⟩) (v := .pointer (some ⟨g, 0, none⟩)) hS ?_
    try simp only [Act.put, z1, z2, z3]
    refine tkP (i := 7) (oi := ⟨some 20, .nilCheck (.tmp 19), 0, "base.go:667", #[⟨6, .data⟩], none⟩) (v := .pointer (some ⟨g, 0, none⟩)) hS ?_
    try simp only [Act.put, z1, z2, z3]
    refine tkP (i := 8) (oi := ⟨some 21, .fieldAddr 48 (.tmp 20) 0, 0, "base.go:667", #[⟨7, .data⟩], none⟩) (v := .pointer (some ⟨g, 0, none⟩)) hS ?_
    try simp only [Act.put, z1, z2, z3]
    refine tkP (i := 9) (oi := ⟨some 22, .move (.tmp 3), 3, "base.go:667", #[], none⟩) (v := .int .i64 e) hS ?_
    try simp only [Act.put, z1, z2, z3]
    refine tkP (i := 10) (oi := ⟨some 23, .move (.tmp 4), 9, "base.go:667", #[], none⟩) (v := .string u) hS ?_
    try simp only [Act.put, z1, z2, z3]
    generalize World.drew _ = W0 at hS BD HMD ⊢
    refine wpAnyH_ready (rs := [5]) (by kernel_rfl) (by simp) ?_
    refine AllReadyH.cons (o := ⟨some 18, .call { callee := .value (.func 46), args := #[.tmp 15, .tmp 16, .tmp 17], argTypes := #[50, 3, 9] }, 3, "base.go:667", #[⟨2, .data⟩, ⟨3, .data⟩, ⟨4, .data⟩], none⟩) rfl (fun K hK => ?_) AllReadyH.nil
    rw [if_pos (by kernel_rfl)]
    go_simp
    refine (rSlotOf_any g m d s W0 hS).mono ?_
    rintro e1 wq ⟨rfl, e9⟩
    rw [e9]
    clear e9 wq
    rw [unhide HV1]
    go_wp2_with fail
    refine hK.out _ _ (hS) (fun hS2 => ?_)
    clear hK K
    try simp only [Act.put, z1, z2, z3]
    refine wpAnyH_ready (rs := [11]) (by kernel_rfl) (by simp) ?_
    refine AllReadyH.cons (o := ⟨some 24, .call { callee := .value (.func 46), args := #[.tmp 21, .tmp 22, .tmp 23], argTypes := #[50, 3, 9] }, 3, "base.go:667", #[⟨8, .data⟩, ⟨9, .data⟩, ⟨10, .data⟩, ⟨5, .chain⟩], none⟩) rfl (fun K hK => ?_) AllReadyH.nil
    rw [if_pos (by kernel_rfl)]
    go_simp
    refine (rSlotOf_any g m e u W0 hS).mono ?_
    rintro e1 wq ⟨rfl, e9⟩
    rw [e9]
    clear e9 wq
    rw [unhide HV2]
    go_wp2_with fail
    refine hK.out _ _ (hS2) (fun hS3 => ?_)
    clear hK K
    try simp only [Act.put, z1, z2, z3]
    refine tkP (i := 12) (oi := { dst := some 11, op := Op.assign (Operand.tmp 18), type := 3, pos := "base.go:667", after := #[⟨5, .data⟩, ⟨11, .chain⟩, ⟨0, .phase⟩, ⟨1, .phase⟩, ⟨2, .phase⟩, ⟨3, .phase⟩, ⟨4, .phase⟩, ⟨5, .phase⟩, { on := 6, ground := Ground.textOnly Departure.lateStores }, { on := 7, ground := Ground.textOnly Departure.lateStores }, { on := 8, ground := Ground.textOnly Departure.lateStores }, { on := 9, ground := Ground.textOnly Departure.lateStores }, { on := 10, ground := Ground.textOnly Departure.lateStores }, { on := 11, ground := Ground.textOnly Departure.lateStoresUnsure }], guard := none }) (v := .int .i64 v1) hS3 ?_
    try simp only [Act.put, z1, z2, z3]
    refine tkP (i := 13) (oi := ⟨some 12, .assign (.tmp 24), 3, "base.go:667", #[⟨11, .data⟩, ⟨12, .chain⟩, ⟨0, .phase⟩, ⟨1, .phase⟩, ⟨2, .phase⟩, ⟨3, .phase⟩, ⟨4, .phase⟩, ⟨5, .phase⟩, ⟨6, .phase⟩, ⟨7, .phase⟩, ⟨8, .phase⟩, ⟨9, .phase⟩, ⟨10, .phase⟩, ⟨11, .phase⟩, ⟨12, .phase⟩], none⟩) (v := .int .i64 v2) hS3 ?_
    try simp only [Act.put, z1, z2, z3]
    refine wpAnyH_done (by kernel_rfl) ?_ _
    clear hS hS2 hS3
    have BD2 := hide ((unhide BD).drew)
    have HMD2 := hide ((unhide HMD).below (Below.refl _ _).drew (unhide HMD).lt)
    go_wp2_with fail
    refine wp_region_held_drew (S := fun W' => HasAt W' g 0 m) (by kernel_rfl) (unhide HMD2) (fun hS => ?_)
    refine tkP (i := 0) (oi := ⟨some 25, .move (.tmp 11), 3, "base.go:668", #[], none⟩) (v := .int .i64 v1) hS ?_
    try simp only [Act.put, z1, z2, z3]
    refine tkH (i := 1) (oi := ⟨some 26, .binOp .geq 3 (.tmp 25) (.const (.int .i64 0)) 3, 4, "base.go:668", #[⟨0, .data⟩], none⟩) (v := .bool false) (fun W h => (by rw [← unhide U1]; exact Op1.geq0 (.tmp 25) (by kernel_rfl) (by kernel_rfl) (by kernel_rfl) W)) hS ?_
    try simp only [Act.put, z1, z2, z3]
    refine tkP (i := 2) (oi := ⟨some 27, .move (.tmp 26), 4, "base.go:668", #[⟨1, .data⟩], none⟩) (v := .bool false) hS ?_
    try simp only [Act.put, z1, z2, z3]
    refine wpAnyH_take (i := 3) (oi := ⟨some 28, .move (.tmp 12), 3, "base.go:668", #[⟨2, .guard⟩], some (2, true)⟩) (v := undef) rfl (by kernel_rfl) (by kernel_rfl) (by kernel_rfl) (fun _ _ _ h => h) (Or.inr ⟨by kernel_rfl, rfl⟩) hS ?_
    try simp only [Act.put, z1, z2, z3]
    refine wpAnyH_take (i := 4) (oi := ⟨some 29, .binOp .geq 3 (.tmp 28) (.const (.int .i64 0)) 3, 4, "base.go:668", #[⟨3, .data⟩, ⟨2, .guard⟩], some (2, true)⟩) (v := undef) rfl (by kernel_rfl) (by kernel_rfl) (by kernel_rfl) (fun _ _ _ h => h) (Or.inr ⟨by kernel_rfl, rfl⟩) hS ?_
    try simp only [Act.put, z1, z2, z3]
    refine tkP (i := 5) (oi := ⟨some 30, .pick (.tmp 27) (.tmp 29) (.const (.bool false)), 4, "base.go:668", #[⟨2, .data⟩, ⟨4, .data⟩], none⟩) (v := .bool false) hS ?_
    try simp only [Act.put, z1, z2, z3]
    refine tkP (i := 6) (oi := ⟨some 31, .move (.tmp 30), 4, "base.go:668", #[⟨5, .data⟩, ⟨2, .chain⟩], none⟩) (v := .bool false) hS ?_
    try simp only [Act.put, z1, z2, z3]
    refine wpAnyH_take (i := 7) (oi := ⟨some 32, .move (.tmp 0), 44, "base.go:668", #[⟨6, .guard⟩], some (6, true)⟩) (v := undef) rfl (by kernel_rfl) (by kernel_rfl) (by kernel_rfl) (fun _ _ _ h => h) (Or.inr ⟨by kernel_rfl, rfl⟩) hS ?_
    try simp only [Act.put, z1, z2, z3]
    refine wpAnyH_take (i := 8) (oi := ⟨some 33, .move (.tmp 1), 3, "base.go:668", #[⟨6, .guard⟩], some (6, true)⟩) (v := undef) rfl (by kernel_rfl) (by kernel_rfl) (by kernel_rfl) (fun _ _ _ h => h) (Or.inr ⟨by kernel_rfl, rfl⟩) hS ?_
    try simp only [Act.put, z1, z2, z3]
    refine wpAnyH_take (i := 9) (oi := ⟨some 34, .move (.tmp 11), 3, "base.go:668", #[⟨6, .guard⟩], some (6, true)⟩) (v := undef) rfl (by kernel_rfl) (by kernel_rfl) (by kernel_rfl) (fun _ _ _ h => h) (Or.inr ⟨by kernel_rfl, rfl⟩) hS ?_
    try simp only [Act.put, z1, z2, z3]
    refine wpAnyH_take (i := 10) (oi := ⟨some 35, .nilCheck (.tmp 32), 0, "base.go:668", #[⟨7, .data⟩, ⟨6, .guard⟩], some (6, true)⟩) (v := undef) rfl (by kernel_rfl) (by kernel_rfl) (by kernel_rfl) (fun _ _ _ h => h) (Or.inr ⟨by kernel_rfl, rfl⟩) hS ?_
    try simp only [Act.put, z1, z2, z3]
    refine wpAnyH_take (i := 11) (oi := ⟨some 36, .fieldAddr 48 (.tmp 35) 0, 0, "base.go:668", #[⟨10, .data⟩, ⟨6, .guard⟩], some (6, true)⟩) (v := undef) rfl (by kernel_rfl) (by kernel_rfl) (by kernel_rfl) (fun _ _ _ h => h) (Or.inr ⟨by kernel_rfl, rfl⟩) hS ?_
    try simp only [Act.put, z1, z2, z3]
    refine wpAnyH_take (i := 12) (oi := ⟨some 37, .fieldAddr 34 (.tmp 36) 1, 0, "base.go:668", #[⟨11, .data⟩, ⟨6, .guard⟩], some (6, true)⟩) (v := undef) rfl (by kernel_rfl) (by kernel_rfl) (by kernel_rfl) (fun _ _ _ h => h) (Or.inr ⟨by kernel_rfl, rfl⟩) hS ?_
    try simp only [Act.put, z1, z2, z3]
    refine wpAnyH_take (i := 13) (oi := ⟨some 38, .indexAddr 29 (.tmp 37) (.tmp 33), 0, "base.go:668", #[⟨12, .data⟩, ⟨8, .data⟩, ⟨6, .guard⟩], some (6, true)⟩) (v := undef) rfl (by kernel_rfl) (by kernel_rfl) (by kernel_rfl) (fun _ _ _ h => h) (Or.inr ⟨by kernel_rfl, rfl⟩) hS ?_
    try simp only [Act.put, z1, z2, z3]
    refine wpAnyH_take (i := 14) (oi := ⟨some 39, .indexAddr 28 (.tmp 38) (.tmp 34), 0, "base.go:668", #[⟨13, .data⟩, ⟨9, .data⟩, ⟨6, .guard⟩], some (6, true)⟩) (v := undef) rfl (by kernel_rfl) (by kernel_rfl) (by kernel_rfl) (fun _ _ _ h => h) (Or.inr ⟨by kernel_rfl, rfl⟩) hS ?_
    try simp only [Act.put, z1, z2, z3]
    refine wpAnyH_take (i := 15) (oi := ⟨some 40, .fieldAddr 27 (.tmp 39) 1, 0, "base.go:668", #[⟨14, .data⟩, ⟨6, .guard⟩], some (6, true)⟩) (v := undef) rfl (by kernel_rfl) (by kernel_rfl) (by kernel_rfl) (fun _ _ _ h => h) (Or.inr ⟨by kernel_rfl, rfl⟩) hS ?_
    try simp only [Act.put, z1, z2, z3]
    refine wpAnyH_take (i := 16) (oi := ⟨some 41, .load 3 (.tmp 40), 3, "base.go:668", #[⟨15, .data⟩, ⟨6, .guard⟩], some (6, true)⟩) (v := undef) rfl (by kernel_rfl) (by kernel_rfl) (by kernel_rfl) (fun _ _ _ h => h) (Or.inr ⟨by kernel_rfl, rfl⟩) hS ?_
    try simp only [Act.put, z1, z2, z3]
    refine wpAnyH_take (i := 17) (oi := ⟨some 42, .move (.tmp 0), 44, "base.go:668", #[⟨6, .guard⟩], some (6, true)⟩) (v := undef) rfl (by kernel_rfl) (by kernel_rfl) (by kernel_rfl) (fun _ _ _ h => h) (Or.inr ⟨by kernel_rfl, rfl⟩) hS ?_
    try simp only [Act.put, z1, z2, z3]
    refine wpAnyH_take (i := 18) (oi := ⟨some 43, .move (.tmp 3), 3, "base.go:668", #[⟨6, .guard⟩], some (6, true)⟩) (v := undef) rfl (by kernel_rfl) (by kernel_rfl) (by kernel_rfl) (fun _ _ _ h => h) (Or.inr ⟨by kernel_rfl, rfl⟩) hS ?_
    try simp only [Act.put, z1, z2, z3]
    refine wpAnyH_take (i := 19) (oi := ⟨some 44, .move (.tmp 12), 3, "base.go:668", #[⟨6, .guard⟩], some (6, true)⟩) (v := undef) rfl (by kernel_rfl) (by kernel_rfl) (by kernel_rfl) (fun _ _ _ h => h) (Or.inr ⟨by kernel_rfl, rfl⟩) hS ?_
    try simp only [Act.put, z1, z2, z3]
    refine wpAnyH_take (i := 20) (oi := ⟨some 45, .nilCheck (.tmp 42), 0, "base.go:668", #[⟨17, .data⟩, ⟨6, .guard⟩], some (6, true)⟩) (v := undef) rfl (by kernel_rfl) (by kernel_rfl) (by kernel_rfl) (fun _ _ _ h => h) (Or.inr ⟨by kernel_rfl, rfl⟩) hS ?_
    try simp only [Act.put, z1, z2, z3]
    refine wpAnyH_take (i := 21) (oi := ⟨some 46, .fieldAddr 48 (.tmp 45) 0, 0, "base.go:668", #[⟨20, .data⟩, ⟨6, .guard⟩], some (6, true)⟩) (v := undef) rfl (by kernel_rfl) (by kernel_rfl) (by kernel_rfl) (fun _ _ _ h => h) (Or.inr ⟨by kernel_rfl, rfl⟩) hS ?_
    try simp only [Act.put, z1, z2, z3]
    refine wpAnyH_take (i := 22) (oi := ⟨some 47, .fieldAddr 34 (.tmp 46) 1, 0, "base.go:668", #[⟨21, .data⟩, ⟨6, .guard⟩], some (6, true)⟩) (v := undef) rfl (by kernel_rfl) (by kernel_rfl) (by kernel_rfl) (fun _ _ _ h => h) (Or.inr ⟨by kernel_rfl, rfl⟩) hS ?_
    try simp only [Act.put, z1, z2, z3]
    refine wpAnyH_take (i := 23) (oi := ⟨some 48, .indexAddr 29 (.tmp 47) (.tmp 43), 0, "base.go:668", #[⟨22, .data⟩, ⟨18, .data⟩, ⟨6, .guard⟩], some (6, true)⟩) (v := undef) rfl (by kernel_rfl) (by kernel_rfl) (by kernel_rfl) (fun _ _ _ h => h) (Or.inr ⟨by kernel_rfl, rfl⟩) hS ?_
    try simp only [Act.put, z1, z2, z3]
    refine wpAnyH_take (i := 24) (oi := ⟨some 49, .indexAddr 28 (.tmp 48) (.tmp 44), 0, "base.go:668", #[⟨23, .data⟩, ⟨19, .data⟩, ⟨6, .guard⟩], some (6, true)⟩) (v := undef) rfl (by kernel_rfl) (by kernel_rfl) (by kernel_rfl) (fun _ _ _ h => h) (Or.inr ⟨by kernel_rfl, rfl⟩) hS ?_
    try simp only [Act.put, z1, z2, z3]
    refine wpAnyH_take (i := 25) (oi := ⟨some 50, .fieldAddr 27 (.tmp 49) 1, 0, "base.go:668", #[⟨24, .data⟩, ⟨6, .guard⟩], some (6, true)⟩) (v := undef) rfl (by kernel_rfl) (by kernel_rfl) (by kernel_rfl) (fun _ _ _ h => h) (Or.inr ⟨by kernel_rfl, rfl⟩) hS ?_
    try simp only [Act.put, z1, z2, z3]
    refine wpAnyH_take (i := 26) (oi := ⟨some 51, .load 3 (.tmp 50), 3, "base.go:668", #[⟨25, .data⟩, ⟨6, .guard⟩], some (6, true)⟩) (v := undef) rfl (by kernel_rfl) (by kernel_rfl) (by kernel_rfl) (fun _ _ _ h => h) (Or.inr ⟨by kernel_rfl, rfl⟩) hS ?_
    try simp only [Act.put, z1, z2, z3]
    refine wpAnyH_take (i := 27) (oi := ⟨some 52, .binOp .eql 3 (.tmp 41) (.tmp 51) 3, 4, "base.go:668", #[⟨16, .data⟩, ⟨26, .data⟩, ⟨6, .guard⟩], some (6, true)⟩) (v := undef) rfl (by kernel_rfl) (by kernel_rfl) (by kernel_rfl) (fun _ _ _ h => h) (Or.inr ⟨by kernel_rfl, rfl⟩) hS ?_
    try simp only [Act.put, z1, z2, z3]
    refine tkP (i := 28) (oi := ⟨some 53, .pick (.tmp 31) (.tmp 52) (.const (.bool false)), 4, "base.go:668", #[⟨6, .data⟩, ⟨27, .data⟩], none⟩) (v := .bool false) hS ?_
    try simp only [Act.put, z1, z2, z3]
    refine tkP (i := 29) (oi := ⟨some 10, .assign (.tmp 53), 4, "base.go:668", #[⟨28, .data⟩, ⟨6, .chain⟩, ⟨0, .phase⟩, ⟨1, .phase⟩, ⟨2, .phase⟩, ⟨3, .phase⟩, ⟨4, .phase⟩, ⟨5, .phase⟩, ⟨6, .phase⟩, ⟨7, .phase⟩, ⟨8, .phase⟩, ⟨9, .phase⟩, ⟨10, .phase⟩, ⟨11, .phase⟩, ⟨12, .phase⟩, ⟨13, .phase⟩, ⟨14, .phase⟩, ⟨15, .phase⟩, ⟨16, .phase⟩, ⟨17, .phase⟩, ⟨18, .phase⟩, ⟨19, .phase⟩, ⟨20, .phase⟩, ⟨21, .phase⟩, ⟨22, .phase⟩, ⟨23, .phase⟩, ⟨24, .phase⟩, ⟨25, .phase⟩, ⟨26, .phase⟩, ⟨27, .phase⟩, ⟨28, .phase⟩], none⟩) (v := .bool false) hS ?_
    try simp only [Act.put, z1, z2, z3]
    refine wpAnyH_done (by kernel_rfl) ?_ _
    clear hS
    go_wp2_with fail
    go_ret
    exact ⟨rfl, unhide BD2⟩
  · obtain ⟨j, n, hT⟩ := Img.there hok (d := d) (s := s) (by have := (Img.inoOf_neg hok (d := d) (s := s)); omega)
    by_cases h2 : m.findAt e u.toList < 0
    · have E : Img.ssame m d s e u = false := by
        unfold Img.ssame
        have := (Img.inoOf_neg hok).2 h2
        rw [hT.of, show ((n : Int) == Img.inoOf m e u) = false by simp; omega, Bool.and_false]
      rw [E]
      have HV1 := hide hT.at_
      obtain ⟨v2, hv2⟩ : ∃ v2, v2 = m.findAt e u.toList := ⟨_, rfl⟩
      have HV2 := hide hv2.symm
      have U2 := hide (show decide (0 ≤ v2) = false by rw [hv2]; simpa using h2)
      have U1 := hide (show decide (0 ≤ (j : Int)) = true by simp)
      clear hv2 h1 h2 E hok hm hT
      go_enter Tryz.func25, Tryz.ntmps25
      go_wp2_with fail
      refine wp_region_held_drew (S := fun W' => HasAt W' g 0 m) (by kernel_rfl) (unhide HMD) (fun hS => ?_)
      refine tkP (i := 0) (oi := ⟨some 13, .move (.tmp 0), 44, "base.go:667", #[], none⟩) (v := .pointer (some ⟨g, 0, none⟩)) hS ?_
      try simp only [Act.put, z1, z2, z3]
      refine tkP (i := 1) (oi := ⟨some 14, .nilCheck (.tmp 13), 0, "base.go:667", #[⟨0, .data⟩], none⟩) (v := .pointer (some ⟨g, 0, none⟩)) hS ?_
      try simp only [Act.put, z1, z2, z3]
      refine tkP (i := 2) (oi := ⟨some 15, .fieldAddr 48 (.tmp 14) 0, 0, "base.go:667", #[⟨1, .data⟩], none⟩) (v := .pointer (some ⟨g, 0, none⟩)) hS ?_
      try simp only [Act.put, z1, z2, z3]
      refine tkP (i := 3) (oi := ⟨some 16, .move (.tmp 1), 3, "base.go:667", #[], none⟩) (v := .int .i64 d) hS ?_
      try simp only [Act.put, z1, z2, z3]
      refine tkP (i := 4) (oi := ⟨some 17, .move (.tmp 2), 9, "base.go:667", #[], none⟩) (v := .string s) hS ?_
      try simp only [Act.put, z1, z2, z3]
      refine tkP (i := 6) (oi := ⟨some 19, .move (.tmp 0), 44, "base.go:667", #[], none⟩) (v := .pointer (some ⟨g, 0, none⟩)) hS ?_
      try simp only [Act.put, z1, z2, z3]
      refine tkP (i := 7) (oi := ⟨some 20, .nilCheck (.tmp 19), 0, "base.go:667", #[⟨6, .data⟩], none⟩) (v := .pointer (some ⟨g, 0, none⟩)) hS ?_
      try simp only [Act.put, z1, z2, z3]
      refine tkP (i := 8) (oi := ⟨some 21, .fieldAddr 48 (.tmp 20) 0, 0, "base.go:667", #[⟨7, .data⟩], none⟩) (v := .pointer (some ⟨g, 0, none⟩)) hS ?_
      try simp only [Act.put, z1, z2, z3]
      refine tkP (i := 9) (oi := ⟨some 22, .move (.tmp 3), 3, "base.go:667", #[], none⟩) (v := .int .i64 e) hS ?_
      try simp only [Act.put, z1, z2, z3]
      refine tkP (i := 10) (oi := ⟨some 23, .move (.tmp 4), 9, "base.go:667", #[], none⟩) (v := .string u) hS ?_
      try simp only [Act.put, z1, z2, z3]
      generalize World.drew _ = W0 at hS BD HMD ⊢
      refine wpAnyH_ready (rs := [5]) (by kernel_rfl) (by simp) ?_
      refine AllReadyH.cons (o := ⟨some 18, .call { callee := .value (.func 46), args := #[.tmp 15, .tmp 16, .tmp 17], argTypes := #[50, 3, 9] }, 3, "base.go:667", #[⟨2, .data⟩, ⟨3, .data⟩, ⟨4, .data⟩], none⟩) rfl (fun K hK => ?_) AllReadyH.nil
      rw [if_pos (by kernel_rfl)]
      go_simp
      refine (rSlotOf_any g m d s W0 hS).mono ?_
      rintro e1 wq ⟨rfl, e9⟩
      rw [e9]
      clear e9 wq
      rw [unhide HV1]
      go_wp2_with fail
      refine hK.out _ _ (hS) (fun hS2 => ?_)
      clear hK K
      try simp only [Act.put, z1, z2, z3]
      refine wpAnyH_ready (rs := [11]) (by kernel_rfl) (by simp) ?_
      refine AllReadyH.cons (o := ⟨some 24, .call { callee := .value (.func 46), args := #[.tmp 21, .tmp 22, .tmp 23], argTypes := #[50, 3, 9] }, 3, "base.go:667", #[⟨8, .data⟩, ⟨9, .data⟩, ⟨10, .data⟩, ⟨5, .chain⟩], none⟩) rfl (fun K hK => ?_) AllReadyH.nil
      rw [if_pos (by kernel_rfl)]
      go_simp
      refine (rSlotOf_any g m e u W0 hS).mono ?_
      rintro e1 wq ⟨rfl, e9⟩
      rw [e9]
      clear e9 wq
      rw [unhide HV2]
      go_wp2_with fail
      refine hK.out _ _ (hS2) (fun hS3 => ?_)
      clear hK K
      try simp only [Act.put, z1, z2, z3]
      refine tkP (i := 12) (oi := { dst := some 11, op := Op.assign (Operand.tmp 18), type := 3, pos := "base.go:667", after := #[⟨5, .data⟩, ⟨11, .chain⟩, ⟨0, .phase⟩, ⟨1, .phase⟩, ⟨2, .phase⟩, ⟨3, .phase⟩, ⟨4, .phase⟩, ⟨5, .phase⟩, { on := 6, ground := Ground.textOnly Departure.lateStores }, { on := 7, ground := Ground.textOnly Departure.lateStores }, { on := 8, ground := Ground.textOnly Departure.lateStores }, { on := 9, ground := Ground.textOnly Departure.lateStores }, { on := 10, ground := Ground.textOnly Departure.lateStores }, { on := 11, ground := Ground.textOnly Departure.lateStoresUnsure }], guard := none }) (v := .int .i64 (j : Int)) hS3 ?_
      try simp only [Act.put, z1, z2, z3]
      refine tkP (i := 13) (oi := ⟨some 12, .assign (.tmp 24), 3, "base.go:667", #[⟨11, .data⟩, ⟨12, .chain⟩, ⟨0, .phase⟩, ⟨1, .phase⟩, ⟨2, .phase⟩, ⟨3, .phase⟩, ⟨4, .phase⟩, ⟨5, .phase⟩, ⟨6, .phase⟩, ⟨7, .phase⟩, ⟨8, .phase⟩, ⟨9, .phase⟩, ⟨10, .phase⟩, ⟨11, .phase⟩, ⟨12, .phase⟩], none⟩) (v := .int .i64 v2) hS3 ?_
      try simp only [Act.put, z1, z2, z3]
      refine wpAnyH_done (by kernel_rfl) ?_ _
      clear hS hS2 hS3
      have BD2 := hide ((unhide BD).drew)
      have HMD2 := hide ((unhide HMD).below (Below.refl _ _).drew (unhide HMD).lt)
      go_wp2_with fail
      refine wp_region_held_drew (S := fun W' => HasAt W' g 0 m) (by kernel_rfl) (unhide HMD2) (fun hS => ?_)
      refine tkP (i := 0) (oi := ⟨some 25, .move (.tmp 11), 3, "base.go:668", #[], none⟩) (v := .int .i64 (j : Int)) hS ?_
      try simp only [Act.put, z1, z2, z3]
      refine tkH (i := 1) (oi := ⟨some 26, .binOp .geq 3 (.tmp 25) (.const (.int .i64 0)) 3, 4, "base.go:668", #[⟨0, .data⟩], none⟩) (v := .bool true) (fun W h => (by rw [← unhide U1]; exact Op1.geq0 (.tmp 25) (by kernel_rfl) (by kernel_rfl) (by kernel_rfl) W)) hS ?_
      try simp only [Act.put, z1, z2, z3]
      refine tkP (i := 2) (oi := ⟨some 27, .move (.tmp 26), 4, "base.go:668", #[⟨1, .data⟩], none⟩) (v := .bool true) hS ?_
      try simp only [Act.put, z1, z2, z3]
      refine tkP (i := 3) (oi := ⟨some 28, .move (.tmp 12), 3, "base.go:668", #[⟨2, .guard⟩], some (2, true)⟩) (v := .int .i64 v2) hS ?_
      try simp only [Act.put, z1, z2, z3]
      refine tkH (i := 4) (oi := ⟨some 29, .binOp .geq 3 (.tmp 28) (.const (.int .i64 0)) 3, 4, "base.go:668", #[⟨3, .data⟩, ⟨2, .guard⟩], some (2, true)⟩) (v := .bool false) (fun W h => (by rw [← unhide U2]; exact Op1.geq0 (.tmp 28) (by kernel_rfl) (by kernel_rfl) (by kernel_rfl) W)) hS ?_
      try simp only [Act.put, z1, z2, z3]
      refine tkP (i := 5) (oi := ⟨some 30, .pick (.tmp 27) (.tmp 29) (.const (.bool false)), 4, "base.go:668", #[⟨2, .data⟩, ⟨4, .data⟩], none⟩) (v := .bool false) hS ?_
      try simp only [Act.put, z1, z2, z3]
      refine tkP (i := 6) (oi := ⟨some 31, .move (.tmp 30), 4, "base.go:668", #[⟨5, .data⟩, ⟨2, .chain⟩], none⟩) (v := .bool false) hS ?_
      try simp only [Act.put, z1, z2, z3]
      refine wpAnyH_take (i := 7) (oi := ⟨some 32, .move (.tmp 0), 44, "base.go:668", #[⟨6, .guard⟩], some (6, true)⟩) (v := undef) rfl (by kernel_rfl) (by kernel_rfl) (by kernel_rfl) (fun _ _ _ h => h) (Or.inr ⟨by kernel_rfl, rfl⟩) hS ?_
      try simp only [Act.put, z1, z2, z3]
      refine wpAnyH_take (i := 8) (oi := ⟨some 33, .move (.tmp 1), 3, "base.go:668", #[⟨6, .guard⟩], some (6, true)⟩) (v := undef) rfl (by kernel_rfl) (by kernel_rfl) (by kernel_rfl) (fun _ _ _ h => h) (Or.inr ⟨by kernel_rfl, rfl⟩) hS ?_
      try simp only [Act.put, z1, z2, z3]
      refine wpAnyH_take (i := 9) (oi := ⟨some 34, .move (.tmp 11), 3, "base.go:668", #[⟨6, .guard⟩], some (6, true)⟩) (v := undef) rfl (by kernel_rfl) (by kernel_rfl) (by kernel_rfl) (fun _ _ _ h => h) (Or.inr ⟨by kernel_rfl, rfl⟩) hS ?_
      try simp only [Act.put, z1, z2, z3]
      refine wpAnyH_take (i := 10) (oi := ⟨some 35, .nilCheck (.tmp 32), 0, "base.go:668", #[⟨7, .data⟩, ⟨6, .guard⟩], some (6, true)⟩) (v := undef) rfl (by kernel_rfl) (by kernel_rfl) (by kernel_rfl) (fun _ _ _ h => h) (Or.inr ⟨by kernel_rfl, rfl⟩) hS ?_
      try simp only [Act.put, z1, z2, z3]
      refine wpAnyH_take (i := 11) (oi := ⟨some 36, .fieldAddr 48 (.tmp 35) 0, 0, "base.go:668", #[⟨10, .data⟩, ⟨6, .guard⟩], some (6, true)⟩) (v := undef) rfl (by kernel_rfl) (by kernel_rfl) (by kernel_rfl) (fun _ _ _ h => h) (Or.inr ⟨by kernel_rfl, rfl⟩) hS ?_
      try simp only [Act.put, z1, z2, z3]
      refine wpAnyH_take (i := 12) (oi := ⟨some 37, .fieldAddr 34 (.tmp 36) 1, 0, "base.go:668", #[⟨11, .data⟩, ⟨6, .guard⟩], some (6, true)⟩) (v := undef) rfl (by kernel_rfl) (by kernel_rfl) (by kernel_rfl) (fun _ _ _ h => h) (Or.inr ⟨by kernel_rfl, rfl⟩) hS ?_
      try simp only [Act.put, z1, z2, z3]
      refine wpAnyH_take (i := 13) (oi := ⟨some 38, .indexAddr 29 (.tmp 37) (.tmp 33), 0, "base.go:668", #[⟨12, .data⟩, ⟨8, .data⟩, ⟨6, .guard⟩], some (6, true)⟩) (v := undef) rfl (by kernel_rfl) (by kernel_rfl) (by kernel_rfl) (fun _ _ _ h => h) (Or.inr ⟨by kernel_rfl, rfl⟩) hS ?_
      try simp only [Act.put, z1, z2, z3]
      refine wpAnyH_take (i := 14) (oi := ⟨some 39, .indexAddr 28 (.tmp 38) (.tmp 34), 0, "base.go:668", #[⟨13, .data⟩, ⟨9, .data⟩, ⟨6, .guard⟩], some (6, true)⟩) (v := undef) rfl (by kernel_rfl) (by kernel_rfl) (by kernel_rfl) (fun _ _ _ h => h) (Or.inr ⟨by kernel_rfl, rfl⟩) hS ?_
      try simp only [Act.put, z1, z2, z3]
      refine wpAnyH_take (i := 15) (oi := ⟨some 40, .fieldAddr 27 (.tmp 39) 1, 0, "base.go:668", #[⟨14, .data⟩, ⟨6, .guard⟩], some (6, true)⟩) (v := undef) rfl (by kernel_rfl) (by kernel_rfl) (by kernel_rfl) (fun _ _ _ h => h) (Or.inr ⟨by kernel_rfl, rfl⟩) hS ?_
      try simp only [Act.put, z1, z2, z3]
      refine wpAnyH_take (i := 16) (oi := ⟨some 41, .load 3 (.tmp 40), 3, "base.go:668", #[⟨15, .data⟩, ⟨6, .guard⟩], some (6, true)⟩) (v := undef) rfl (by kernel_rfl) (by kernel_rfl) (by kernel_rfl) (fun _ _ _ h => h) (Or.inr ⟨by kernel_rfl, rfl⟩) hS ?_
      try simp only [Act.put, z1, z2, z3]
      refine wpAnyH_take (i := 17) (oi := ⟨some 42, .move (.tmp 0), 44, "base.go:668", #[⟨6, .guard⟩], some (6, true)⟩) (v := undef) rfl (by kernel_rfl) (by kernel_rfl) (by kernel_rfl) (fun _ _ _ h => h) (Or.inr ⟨by kernel_rfl, rfl⟩) hS ?_
      try simp only [Act.put, z1, z2, z3]
      refine wpAnyH_take (i := 18) (oi := ⟨some 43, .move (.tmp 3), 3, "base.go:668", #[⟨6, .guard⟩], some (6, true)⟩) (v := undef) rfl (by kernel_rfl) (by kernel_rfl) (by kernel_rfl) (fun _ _ _ h => h) (Or.inr ⟨by kernel_rfl, rfl⟩) hS ?_
      try simp only [Act.put, z1, z2, z3]
      refine wpAnyH_take (i := 19) (oi := ⟨some 44, .move (.tmp 12), 3, "base.go:668", #[⟨6, .guard⟩], some (6, true)⟩) (v := undef) rfl (by kernel_rfl) (by kernel_rfl) (by kernel_rfl) (fun _ _ _ h => h) (Or.inr ⟨by kernel_rfl, rfl⟩) hS ?_
      try simp only [Act.put, z1, z2, z3]
      refine wpAnyH_take (i := 20) (oi := ⟨some 45, .nilCheck (.tmp 42), 0, "base.go:668", #[⟨17, .data⟩, ⟨6, .guard⟩], some (6, true)⟩) (v := undef) rfl (by kernel_rfl) (by kernel_rfl) (by kernel_rfl) (fun _ _ _ h => h) (Or.inr ⟨by kernel_rfl, rfl⟩) hS ?_
      try simp only [Act.put, z1, z2, z3]
      refine wpAnyH_take (i := 21) (oi := ⟨some 46, .fieldAddr 48 (.tmp 45) 0, 0, "base.go:668", #[⟨20, .data⟩, ⟨6, .guard⟩], some (6, true)⟩) (v := undef) rfl (by kernel_rfl) (by kernel_rfl) (by kernel_rfl) (fun _ _ _ h => h) (Or.inr ⟨by kernel_rfl, rfl⟩) hS ?_
      try simp only [Act.put, z1, z2, z3]
      refine wpAnyH_take (i := 22) (oi := ⟨some 47, .fieldAddr 34 (.tmp 46) 1, 0, "base.go:668", #[⟨21, .data⟩, ⟨6, .guard⟩], some (6, true)⟩) (v := undef) rfl (by kernel_rfl) (by kernel_rfl) (by kernel_rfl) (fun _ _ _ h => h) (Or.inr ⟨by kernel_rfl, rfl⟩) hS ?_
      try simp only [Act.put, z1, z2, z3]
      refine wpAnyH_take (i := 23) (oi := ⟨some 48, .indexAddr 29 (.tmp 47) (.tmp 43), 0, "base.go:668", #[⟨22, .data⟩, ⟨18, .data⟩, ⟨6, .guard⟩], some (6, true)⟩) (v := undef) rfl (by kernel_rfl) (by kernel_rfl) (by kernel_rfl) (fun _ _ _ h => h) (Or.inr ⟨by kernel_rfl, rfl⟩) hS ?_
      try simp only [Act.put, z1, z2, z3]
      refine wpAnyH_take (i := 24) (oi := ⟨some 49, .indexAddr 28 (.tmp 48) (.tmp 44), 0, "base.go:668", #[⟨23, .data⟩, ⟨19, .data⟩, ⟨6, .guard⟩], some (6, true)⟩) (v := undef) rfl (by kernel_rfl) (by kernel_rfl) (by kernel_rfl) (fun _ _ _ h => h) (Or.inr ⟨by kernel_rfl, rfl⟩) hS ?_
      try simp only [Act.put, z1, z2, z3]
      refine wpAnyH_take (i := 25) (oi := ⟨some 50, .fieldAddr 27 (.tmp 49) 1, 0, "base.go:668", #[⟨24, .data⟩, ⟨6, .guard⟩], some (6, true)⟩) (v := undef) rfl (by kernel_rfl) (by kernel_rfl) (by kernel_rfl) (fun _ _ _ h => h) (Or.inr ⟨by kernel_rfl, rfl⟩) hS ?_
      try simp only [Act.put, z1, z2, z3]
      refine wpAnyH_take (i := 26) (oi := ⟨some 51, .load 3 (.tmp 50), 3, "base.go:668", #[⟨25, .data⟩, ⟨6, .guard⟩], some (6, true)⟩) (v := undef) rfl (by kernel_rfl) (by kernel_rfl) (by kernel_rfl) (fun _ _ _ h => h) (Or.inr ⟨by kernel_rfl, rfl⟩) hS ?_
      try simp only [Act.put, z1, z2, z3]
      refine wpAnyH_take (i := 27) (oi := ⟨some 52, .binOp .eql 3 (.tmp 41) (.tmp 51) 3, 4, "base.go:668", #[⟨16, .data⟩, ⟨26, .data⟩, ⟨6, .guard⟩], some (6, true)⟩) (v := undef) rfl (by kernel_rfl) (by kernel_rfl) (by kernel_rfl) (fun _ _ _ h => h) (Or.inr ⟨by kernel_rfl, rfl⟩) hS ?_
      try simp only [Act.put, z1, z2, z3]
      refine tkP (i := 28) (oi := ⟨some 53, .pick (.tmp 31) (.tmp 52) (.const (.bool false)), 4, "base.go:668", #[⟨6, .data⟩, ⟨27, .data⟩], none⟩) (v := .bool false) hS ?_
      try simp only [Act.put, z1, z2, z3]
      refine tkP (i := 29) (oi := ⟨some 10, .assign (.tmp 53), 4, "base.go:668", #[⟨28, .data⟩, ⟨6, .chain⟩, ⟨0, .phase⟩, ⟨1, .phase⟩, ⟨2, .phase⟩, ⟨3, .phase⟩, ⟨4, .phase⟩, ⟨5, .phase⟩, ⟨6, .phase⟩, ⟨7, .phase⟩, ⟨8, .phase⟩, ⟨9, .phase⟩, ⟨10, .phase⟩, ⟨11, .phase⟩, ⟨12, .phase⟩, ⟨13, .phase⟩, ⟨14, .phase⟩, ⟨15, .phase⟩, ⟨16, .phase⟩, ⟨17, .phase⟩, ⟨18, .phase⟩, ⟨19, .phase⟩, ⟨20, .phase⟩, ⟨21, .phase⟩, ⟨22, .phase⟩, ⟨23, .phase⟩, ⟨24, .phase⟩, ⟨25, .phase⟩, ⟨26, .phase⟩, ⟨27, .phase⟩, ⟨28, .phase⟩], none⟩) (v := .bool false) hS ?_
      try simp only [Act.put, z1, z2, z3]
      refine wpAnyH_done (by kernel_rfl) ?_ _
      clear hS
      go_wp2_with fail
      go_ret
      exact ⟨rfl, unhide BD2⟩
    · obtain ⟨j2, n2, hT2⟩ := Img.there hok (d := e) (s := u) (by have := (Img.inoOf_neg hok (d := e) (s := u)); omega)
      have E : Img.ssame m d s e u = ((n : Int) == (n2 : Int)) := by
        unfold Img.ssame
        rw [hT.of, hT2.of, show decide (0 ≤ (n : Int)) = true by simp, Bool.true_and]
      rw [E]
      have HV1 := hide hT.at_
      have HV2 := hide hT2.at_
      have U1 := hide (show decide (0 ≤ (j : Int)) = true by simp)
      have U2 := hide (show decide (0 ≤ (j2 : Int)) = true by simp)
      have hj4 := hT.k4
      have hj2 := hT2.k4
      have a0 := hT.d0
      have a3 := hT.d3
      have b0 := hT2.d0
      have b3 := hT2.d3
      obtain ⟨d, rfl⟩ := Int.eq_ofNat_of_zero_le a0
      obtain ⟨e, rfl⟩ := Int.eq_ofNat_of_zero_le b0
      have hd3 : d < 3 := by omega
      have he3 : e < 3 := by omega
      have HI1 := hide (show m.ino d j = (n : Int) from hT.ino)
      have HI2 := hide (show m.ino e j2 = (n2 : Int) from hT2.ino)
      clear h1 h2 E hok hm hT hT2 a0 a3 b0 b3
      go_enter Tryz.func25, Tryz.ntmps25
      go_wp2_with fail
      refine wp_region_held_drew (S := fun W' => HasAt W' g 0 m) (by kernel_rfl) (unhide HMD) (fun hS => ?_)
      refine tkP (i := 0) (oi := ⟨some 13, .move (.tmp 0), 44, "base.go:667", #[], none⟩) (v := .pointer (some ⟨g, 0, none⟩)) hS ?_
      try simp only [Act.put, z1, z2, z3]
      refine tkP (i := 1) (oi := ⟨some 14, .nilCheck (.tmp 13), 0, "base.go:667", #[⟨0, .data⟩], none⟩) (v := .pointer (some ⟨g, 0, none⟩)) hS ?_
      try simp only [Act.put, z1, z2, z3]
      refine tkP (i := 2) (oi := ⟨some 15, .fieldAddr 48 (.tmp 14) 0, 0, "base.go:667", #[⟨1, .data⟩], none⟩) (v := .pointer (some ⟨g, 0, none⟩)) hS ?_
      try simp only [Act.put, z1, z2, z3]
      refine tkP (i := 3) (oi := ⟨some 16, .move (.tmp 1), 3, "base.go:667", #[], none⟩) (v := .int .i64 (d : Int)) hS ?_
      try simp only [Act.put, z1, z2, z3]
      refine tkP (i := 4) (oi := ⟨some 17, .move (.tmp 2), 9, "base.go:667", #[], none⟩) (v := .string s) hS ?_
      try simp only [Act.put, z1, z2, z3]
      refine tkP (i := 6) (oi := ⟨some 19, .move (.tmp 0), 44, "base.go:667", #[], none⟩) (v := .pointer (some ⟨g, 0, none⟩)) hS ?_
      try simp only [Act.put, z1, z2, z3]
      refine tkP (i := 7) (oi := ⟨some 20, .nilCheck (.tmp 19), 0, "base.go:667", #[⟨6, .data⟩], none⟩) (v := .pointer (some ⟨g, 0, none⟩)) hS ?_
      try simp only [Act.put, z1, z2, z3]
      refine tkP (i := 8) (oi := ⟨some 21, .fieldAddr 48 (.tmp 20) 0, 0, "base.go:667", #[⟨7, .data⟩], none⟩) (v := .pointer (some ⟨g, 0, none⟩)) hS ?_
      try simp only [Act.put, z1, z2, z3]
      refine tkP (i := 9) (oi := ⟨some 22, .move (.tmp 3), 3, "base.go:667", #[], none⟩) (v := .int .i64 (e : Int)) hS ?_
      try simp only [Act.put, z1, z2, z3]
      refine tkP (i := 10) (oi := ⟨some 23, .move (.tmp 4), 9, "base.go:667", #[], none⟩) (v := .string u) hS ?_
      try simp only [Act.put, z1, z2, z3]
      generalize World.drew _ = W0 at hS BD HMD ⊢
      refine wpAnyH_ready (rs := [5]) (by kernel_rfl) (by simp) ?_
      refine AllReadyH.cons (o := ⟨some 18, .call { callee := .value (.func 46), args := #[.tmp 15, .tmp 16, .tmp 17], argTypes := #[50, 3, 9] }, 3, "base.go:667", #[⟨2, .data⟩, ⟨3, .data⟩, ⟨4, .data⟩], none⟩) rfl (fun K hK => ?_) AllReadyH.nil
      rw [if_pos (by kernel_rfl)]
      go_simp
      refine (rSlotOf_any g m (d : Int) s W0 hS).mono ?_
      rintro e1 wq ⟨rfl, e9⟩
      rw [e9]
      clear e9 wq
      rw [unhide HV1]
      go_wp2_with fail
      refine hK.out _ _ (hS) (fun hS2 => ?_)
      clear hK K
      try simp only [Act.put, z1, z2, z3]
      refine wpAnyH_ready (rs := [11]) (by kernel_rfl) (by simp) ?_
      refine AllReadyH.cons (o := ⟨some 24, .call { callee := .value (.func 46), args := #[.tmp 21, .tmp 22, .tmp 23], argTypes := #[50, 3, 9] }, 3, "base.go:667", #[⟨8, .data⟩, ⟨9, .data⟩, ⟨10, .data⟩, ⟨5, .chain⟩], none⟩) rfl (fun K hK => ?_) AllReadyH.nil
      rw [if_pos (by kernel_rfl)]
      go_simp
      refine (rSlotOf_any g m (e : Int) u W0 hS).mono ?_
      rintro e1 wq ⟨rfl, e9⟩
      rw [e9]
      clear e9 wq
      rw [unhide HV2]
      go_wp2_with fail
      refine hK.out _ _ (hS2) (fun hS3 => ?_)
      clear hK K
      try simp only [Act.put, z1, z2, z3]
      refine tkP (i := 12) (oi := { dst := some 11, op := Op.assign (Operand.tmp 18), type := 3, pos := "base.go:667", after := #[⟨5, .data⟩, ⟨11, .chain⟩, ⟨0, .phase⟩, ⟨1, .phase⟩, ⟨2, .phase⟩, ⟨3, .phase⟩, ⟨4, .phase⟩, ⟨5, .phase⟩, { on := 6, ground := Ground.textOnly Departure.lateStores }, { on := 7, ground := Ground.textOnly Departure.lateStores }, { on := 8, ground := Ground.textOnly Departure.lateStores }, { on := 9, ground := Ground.textOnly Departure.lateStores }, { on := 10, ground := Ground.textOnly Departure.lateStores }, { on := 11, ground := Ground.textOnly Departure.lateStoresUnsure }], guard := none }) (v := .int .i64 (j : Int)) hS3 ?_
      try simp only [Act.put, z1, z2, z3]
      refine tkP (i := 13) (oi := ⟨some 12, .assign (.tmp 24), 3, "base.go:667", #[⟨11, .data⟩, ⟨12, .chain⟩, ⟨0, .phase⟩, ⟨1, .phase⟩, ⟨2, .phase⟩, ⟨3, .phase⟩, ⟨4, .phase⟩, ⟨5, .phase⟩, ⟨6, .phase⟩, ⟨7, .phase⟩, ⟨8, .phase⟩, ⟨9, .phase⟩, ⟨10, .phase⟩, ⟨11, .phase⟩, ⟨12, .phase⟩], none⟩) (v := .int .i64 (j2 : Int)) hS3 ?_
      try simp only [Act.put, z1, z2, z3]
      refine wpAnyH_done (by kernel_rfl) ?_ _
      clear hS hS2 hS3
      have BD2 := hide ((unhide BD).drew)
      have HMD2 := hide ((unhide HMD).below (Below.refl _ _).drew (unhide HMD).lt)
      go_wp2_with fail
      refine wp_region_held_drew (S := fun W' => HasAt W' g 0 m) (by kernel_rfl) (unhide HMD2) (fun hS => ?_)
      refine tkP (i := 0) (oi := ⟨some 25, .move (.tmp 11), 3, "base.go:668", #[], none⟩) (v := .int .i64 (j : Int)) hS ?_
      try simp only [Act.put, z1, z2, z3]
      refine tkH (i := 1) (oi := ⟨some 26, .binOp .geq 3 (.tmp 25) (.const (.int .i64 0)) 3, 4, "base.go:668", #[⟨0, .data⟩], none⟩) (v := .bool true) (fun W h => (by rw [← unhide U1]; exact Op1.geq0 (.tmp 25) (by kernel_rfl) (by kernel_rfl) (by kernel_rfl) W)) hS ?_
      try simp only [Act.put, z1, z2, z3]
      refine tkP (i := 2) (oi := ⟨some 27, .move (.tmp 26), 4, "base.go:668", #[⟨1, .data⟩], none⟩) (v := .bool true) hS ?_
      try simp only [Act.put, z1, z2, z3]
      refine tkP (i := 3) (oi := ⟨some 28, .move (.tmp 12), 3, "base.go:668", #[⟨2, .guard⟩], some (2, true)⟩) (v := .int .i64 (j2 : Int)) hS ?_
      try simp only [Act.put, z1, z2, z3]
      refine tkH (i := 4) (oi := ⟨some 29, .binOp .geq 3 (.tmp 28) (.const (.int .i64 0)) 3, 4, "base.go:668", #[⟨3, .data⟩, ⟨2, .guard⟩], some (2, true)⟩) (v := .bool true) (fun W h => (by rw [← unhide U2]; exact Op1.geq0 (.tmp 28) (by kernel_rfl) (by kernel_rfl) (by kernel_rfl) W)) hS ?_
      try simp only [Act.put, z1, z2, z3]
      refine tkP (i := 5) (oi := ⟨some 30, .pick (.tmp 27) (.tmp 29) (.const (.bool false)), 4, "base.go:668", #[⟨2, .data⟩, ⟨4, .data⟩], none⟩) (v := .bool true) hS ?_
      try simp only [Act.put, z1, z2, z3]
      refine tkP (i := 6) (oi := ⟨some 31, .move (.tmp 30), 4, "base.go:668", #[⟨5, .data⟩, ⟨2, .chain⟩], none⟩) (v := .bool true) hS ?_
      try simp only [Act.put, z1, z2, z3]
      refine tkP (i := 7) (oi := ⟨some 32, .move (.tmp 0), 44, "base.go:668", #[⟨6, .guard⟩], some (6, true)⟩) (v := .pointer (some ⟨g, 0, none⟩)) hS ?_
      try simp only [Act.put, z1, z2, z3]
      refine tkP (i := 8) (oi := ⟨some 33, .move (.tmp 1), 3, "base.go:668", #[⟨6, .guard⟩], some (6, true)⟩) (v := .int .i64 (d : Int)) hS ?_
      try simp only [Act.put, z1, z2, z3]
      refine tkP (i := 9) (oi := ⟨some 34, .move (.tmp 11), 3, "base.go:668", #[⟨6, .guard⟩], some (6, true)⟩) (v := .int .i64 (j : Int)) hS ?_
      try simp only [Act.put, z1, z2, z3]
      refine tkP (i := 10) (oi := ⟨some 35, .nilCheck (.tmp 32), 0, "base.go:668", #[⟨7, .data⟩, ⟨6, .guard⟩], some (6, true)⟩) (v := .pointer (some ⟨g, 0, none⟩)) hS ?_
      try simp only [Act.put, z1, z2, z3]
      refine tkP (i := 11) (oi := ⟨some 36, .fieldAddr 48 (.tmp 35) 0, 0, "base.go:668", #[⟨10, .data⟩, ⟨6, .guard⟩], some (6, true)⟩) (v := .pointer (some ⟨g, 0, none⟩)) hS ?_
      try simp only [Act.put, z1, z2, z3]
      refine tkP (i := 12) (oi := ⟨some 37, .fieldAddr 34 (.tmp 36) 1, 0, "base.go:668", #[⟨11, .data⟩, ⟨6, .guard⟩], some (6, true)⟩) (v := .pointer (some ⟨g, 40, none⟩)) hS ?_
      try simp only [Act.put, z1, z2, z3]
      refine tkH (i := 13) (oi := ⟨some 38, .indexAddr 29 (.tmp 37) (.tmp 33), 0, "base.go:668", #[⟨12, .data⟩, ⟨8, .data⟩, ⟨6, .guard⟩], some (6, true)⟩) (v := .pointer (some ⟨g, 40 + d * 12, none⟩)) (fun W h => Op1.ix_dir (.tmp 37) (.tmp 33) (by kernel_rfl) (by kernel_rfl) (by kernel_rfl) (hd3) W) hS ?_
      try simp only [Act.put, z1, z2, z3]
      refine tkH (i := 14) (oi := ⟨some 39, .indexAddr 28 (.tmp 38) (.tmp 34), 0, "base.go:668", #[⟨13, .data⟩, ⟨9, .data⟩, ⟨6, .guard⟩], some (6, true)⟩) (v := .pointer (some ⟨g, 40 + d * 12 + j * 3, none⟩)) (fun W h => Op1.ix_slot (.tmp 38) (.tmp 34) (by kernel_rfl) (by kernel_rfl) (by kernel_rfl) (hj4) W) hS ?_
      try simp only [Act.put, z1, z2, z3]
      refine tkP (i := 15) (oi := ⟨some 40, .fieldAddr 27 (.tmp 39) 1, 0, "base.go:668", #[⟨14, .data⟩, ⟨6, .guard⟩], some (6, true)⟩) (v := .pointer (some ⟨g, 40 + d * 12 + j * 3 + 1, none⟩)) hS ?_
      try simp only [Act.put, z1, z2, z3]
      refine tkH (i := 16) (oi := ⟨some 41, .load 3 (.tmp 40), 3, "base.go:668", #[⟨15, .data⟩, ⟨6, .guard⟩], some (6, true)⟩) (v := .int .i64 (n : Int)) (fun W h => Op1.ld_int (.tmp 40) (by kernel_rfl) (by kernel_rfl) W (by have := h.ino d j hd3 hj4; rw [unhide HI1, Nat.zero_add] at this; exact this)) hS ?_
      try simp only [Act.put, z1, z2, z3]
      refine tkP (i := 17) (oi := ⟨some 42, .move (.tmp 0), 44, "base.go:668", #[⟨6, .guard⟩], some (6, true)⟩) (v := .pointer (some ⟨g, 0, none⟩)) hS ?_
      try simp only [Act.put, z1, z2, z3]
      refine tkP (i := 18) (oi := ⟨some 43, .move (.tmp 3), 3, "base.go:668", #[⟨6, .guard⟩], some (6, true)⟩) (v := .int .i64 (e : Int)) hS ?_
      try simp only [Act.put, z1, z2, z3]
      refine tkP (i := 19) (oi := ⟨some 44, .move (.tmp 12), 3, "base.go:668", #[⟨6, .guard⟩], some (6, true)⟩) (v := .int .i64 (j2 : Int)) hS ?_
      try simp only [Act.put, z1, z2, z3]
      refine tkP (i := 20) (oi := ⟨some 45, .nilCheck (.tmp 42), 0, "base.go:668", #[⟨17, .data⟩, ⟨6, .guard⟩], some (6, true)⟩) (v := .pointer (some ⟨g, 0, none⟩)) hS ?_
      try simp only [Act.put, z1, z2, z3]
      refine tkP (i := 21) (oi := ⟨some 46, .fieldAddr 48 (.tmp 45) 0, 0, "base.go:668", #[⟨20, .data⟩, ⟨6, .guard⟩], some (6, true)⟩) (v := .pointer (some ⟨g, 0, none⟩)) hS ?_
      try simp only [Act.put, z1, z2, z3]
      refine tkP (i := 22) (oi := ⟨some 47, .fieldAddr 34 (.tmp 46) 1, 0, "base.go:668", #[⟨21, .data⟩, ⟨6, .guard⟩], some (6, true)⟩) (v := .pointer (some ⟨g, 40, none⟩)) hS ?_
      try simp only [Act.put, z1, z2, z3]
      refine tkH (i := 23) (oi := ⟨some 48, .indexAddr 29 (.tmp 47) (.tmp 43), 0, "base.go:668", #[⟨22, .data⟩, ⟨18, .data⟩, ⟨6, .guard⟩], some (6, true)⟩) (v := .pointer (some ⟨g, 40 + e * 12, none⟩)) (fun W h => Op1.ix_dir (.tmp 47) (.tmp 43) (by kernel_rfl) (by kernel_rfl) (by kernel_rfl) (he3) W) hS ?_
      try simp only [Act.put, z1, z2, z3]
      refine tkH (i := 24) (oi := ⟨some 49, .indexAddr 28 (.tmp 48) (.tmp 44), 0, "base.go:668", #[⟨23, .data⟩, ⟨19, .data⟩, ⟨6, .guard⟩], some (6, true)⟩) (v := .pointer (some ⟨g, 40 + e * 12 + j2 * 3, none⟩)) (fun W h => Op1.ix_slot (.tmp 48) (.tmp 44) (by kernel_rfl) (by kernel_rfl) (by kernel_rfl) (hj2) W) hS ?_
      try simp only [Act.put, z1, z2, z3]
      refine tkP (i := 25) (oi := ⟨some 50, .fieldAddr 27 (.tmp 49) 1, 0, "base.go:668", #[⟨24, .data⟩, ⟨6, .guard⟩], some (6, true)⟩) (v := .pointer (some ⟨g, 40 + e * 12 + j2 * 3 + 1, none⟩)) hS ?_
      try simp only [Act.put, z1, z2, z3]
      refine tkH (i := 26) (oi := ⟨some 51, .load 3 (.tmp 50), 3, "base.go:668", #[⟨25, .data⟩, ⟨6, .guard⟩], some (6, true)⟩) (v := .int .i64 (n2 : Int)) (fun W h => Op1.ld_int (.tmp 50) (by kernel_rfl) (by kernel_rfl) W (by have := h.ino e j2 he3 hj2; rw [unhide HI2, Nat.zero_add] at this; exact this)) hS ?_
      try simp only [Act.put, z1, z2, z3]
      refine tkH (i := 27) (oi := ⟨some 52, .binOp .eql 3 (.tmp 41) (.tmp 51) 3, 4, "base.go:668", #[⟨16, .data⟩, ⟨26, .data⟩, ⟨6, .guard⟩], some (6, true)⟩) (v := .bool ((n : Int) == (n2 : Int))) (fun W h => Op1.eqlI (.tmp 41) (.tmp 51) (by kernel_rfl) (by kernel_rfl) (by kernel_rfl) W) hS ?_
      try simp only [Act.put, z1, z2, z3]
      refine tkP (i := 28) (oi := ⟨some 53, .pick (.tmp 31) (.tmp 52) (.const (.bool false)), 4, "base.go:668", #[⟨6, .data⟩, ⟨27, .data⟩], none⟩) (v := .bool ((n : Int) == (n2 : Int))) hS ?_
      try simp only [Act.put, z1, z2, z3]
      refine tkP (i := 29) (oi := ⟨some 10, .assign (.tmp 53), 4, "base.go:668", #[⟨28, .data⟩, ⟨6, .chain⟩, ⟨0, .phase⟩, ⟨1, .phase⟩, ⟨2, .phase⟩, ⟨3, .phase⟩, ⟨4, .phase⟩, ⟨5, .phase⟩, ⟨6, .phase⟩, ⟨7, .phase⟩, ⟨8, .phase⟩, ⟨9, .phase⟩, ⟨10, .phase⟩, ⟨11, .phase⟩, ⟨12, .phase⟩, ⟨13, .phase⟩, ⟨14, .phase⟩, ⟨15, .phase⟩, ⟨16, .phase⟩, ⟨17, .phase⟩, ⟨18, .phase⟩, ⟨19, .phase⟩, ⟨20, .phase⟩, ⟨21, .phase⟩, ⟨22, .phase⟩, ⟨23, .phase⟩, ⟨24, .phase⟩, ⟨25, .phase⟩, ⟨26, .phase⟩, ⟨27, .phase⟩, ⟨28, .phase⟩], none⟩) (v := .bool ((n : Int) == (n2 : Int))) hS ?_
      try simp only [Act.put, z1, z2, z3]
      refine wpAnyH_done (by kernel_rfl) ?_ _
      clear hS
      go_wp2_with fail
      go_ret
      exact ⟨rfl, unhide BD2⟩
set_option maxHeartbeats 4000000 in
set_option maxRecDepth 100000 in
theorem bSure_any (w : World) (hm : HasAt w g 0 m) (hk : HasAt w g 94 k) (d : Int) (s : ByteArray) :
    Calls Tryz.prog 27 #[.pointer (some ⟨g, 0, none⟩), .int .i64 d, .string s] w fun r w' => r = .returned (.bool (Img.ssure m k d s)) ∧ Below w.heap.size w w' := by
  have C1 := hide (rSlotOf_any g m d s w hm)
  have BD := hide ((Below.refl w.heap.size w).drew)
  have HMD := hide (And.intro (hm.below (unhide BD) hm.lt) (hk.below (unhide BD) hk.lt))
  by_cases hf : m.findAt d s.toList < 0
  · have e1 : Img.ssure m k d s = false := by unfold Img.ssure; rw [show decide (0 ≤ m.findAt d s.toList) = false by simp; omega]; rfl
    rw [e1]
    have U1 := hide (show decide (0 ≤ m.findAt d s.toList) = false by simp; omega)
    generalize m.findAt d s.toList = v at C1 U1
    clear hf hm hk e1
    go_enter Tryz.func27, Tryz.ntmps27
    go_wp2_with fail
    refine (unhide C1).mono ?_
    rintro e wq ⟨rfl, e9⟩
    rw [e9]
    clear e9 wq
    go_wp2_with fail
    refine wp_region_held_drew (S := fun W' => HasAt W' g 0 m ∧ HasAt W' g 94 k) (by kernel_rfl) (unhide HMD) (fun hS => ?_)
    refine tkP (i := 0) (oi := ⟨some 14, .move (.tmp 7), 3, "base.go:673", #[], none⟩) (v := .int .i64 v) hS ?_
    try simp only [Act.put, z1, z2, z3]
    refine tkH (i := 1) (oi := ⟨some 15, .binOp .geq 3 (.tmp 14) (.const (.int .i64 0)) 3, 4, "base.go:673", #[⟨0, .data⟩], none⟩) (v := .bool false) (fun W h => (by rw [← unhide U1]; exact Op1.geq0 (.tmp 14) (by kernel_rfl) (by kernel_rfl) (by kernel_rfl) W)) hS ?_
    try simp only [Act.put, z1, z2, z3]
    refine tkP (i := 2) (oi := ⟨some 16, .move (.tmp 15), 4, "base.go:673", #[⟨1, .data⟩], none⟩) (v := .bool false) hS ?_
    try simp only [Act.put, z1, z2, z3]
    refine wpAnyH_take (i := 3) (oi := ⟨some 17, .move (.tmp 0), 44, "base.go:673", #[⟨2, .guard⟩], some (2, true)⟩) (v := undef) rfl (by kernel_rfl) (by kernel_rfl) (by kernel_rfl) (fun _ _ _ h => h) (Or.inr ⟨by kernel_rfl, rfl⟩) hS ?_
    try simp only [Act.put, z1, z2, z3]
    refine wpAnyH_take (i := 4) (oi := ⟨some 18, .move (.tmp 1), 3, "base.go:673", #[⟨2, .guard⟩], some (2, true)⟩) (v := undef) rfl (by kernel_rfl) (by kernel_rfl) (by kernel_rfl) (fun _ _ _ h => h) (Or.inr ⟨by kernel_rfl, rfl⟩) hS ?_
    try simp only [Act.put, z1, z2, z3]
    refine wpAnyH_take (i := 5) (oi := ⟨some 19, .move (.tmp 7), 3, "base.go:673", #[⟨2, .guard⟩], some (2, true)⟩) (v := undef) rfl (by kernel_rfl) (by kernel_rfl) (by kernel_rfl) (fun _ _ _ h => h) (Or.inr ⟨by kernel_rfl, rfl⟩) hS ?_
    try simp only [Act.put, z1, z2, z3]
    refine wpAnyH_take (i := 6) (oi := ⟨some 20, .nilCheck (.tmp 17), 0, "base.go:673", #[⟨3, .data⟩, ⟨2, .guard⟩], some (2, true)⟩) (v := undef) rfl (by kernel_rfl) (by kernel_rfl) (by kernel_rfl) (fun _ _ _ h => h) (Or.inr ⟨by kernel_rfl, rfl⟩) hS ?_
    try simp only [Act.put, z1, z2, z3]
    refine wpAnyH_take (i := 7) (oi := ⟨some 21, .fieldAddr 48 (.tmp 20) 0, 0, "base.go:673", #[⟨6, .data⟩, ⟨2, .guard⟩], some (2, true)⟩) (v := undef) rfl (by kernel_rfl) (by kernel_rfl) (by kernel_rfl) (fun _ _ _ h => h) (Or.inr ⟨by kernel_rfl, rfl⟩) hS ?_
    try simp only [Act.put, z1, z2, z3]
    refine wpAnyH_take (i := 8) (oi := ⟨some 22, .fieldAddr 34 (.tmp 21) 1, 0, "base.go:673", #[⟨7, .data⟩, ⟨2, .guard⟩], some (2, true)⟩) (v := undef) rfl (by kernel_rfl) (by kernel_rfl) (by kernel_rfl) (fun _ _ _ h => h) (Or.inr ⟨by kernel_rfl, rfl⟩) hS ?_
    try simp only [Act.put, z1, z2, z3]
    refine wpAnyH_take (i := 9) (oi := ⟨some 23, .indexAddr 29 (.tmp 22) (.tmp 18), 0, "base.go:673", #[⟨8, .data⟩, ⟨4, .data⟩, ⟨2, .guard⟩], some (2, true)⟩) (v := undef) rfl (by kernel_rfl) (by kernel_rfl) (by kernel_rfl) (fun _ _ _ h => h) (Or.inr ⟨by kernel_rfl, rfl⟩) hS ?_
    try simp only [Act.put, z1, z2, z3]
    refine wpAnyH_take (i := 10) (oi := ⟨some 24, .indexAddr 28 (.tmp 23) (.tmp 19), 0, "base.go:673", #[⟨9, .data⟩, ⟨5, .data⟩, ⟨2, .guard⟩], some (2, true)⟩) (v := undef) rfl (by kernel_rfl) (by kernel_rfl) (by kernel_rfl) (fun _ _ _ h => h) (Or.inr ⟨by kernel_rfl, rfl⟩) hS ?_
    try simp only [Act.put, z1, z2, z3]
    refine wpAnyH_take (i := 11) (oi := ⟨some 25, .load 27 (.tmp 24), 27, "base.go:673", #[⟨10, .data⟩, ⟨2, .guard⟩], some (2, true)⟩) (v := undef) rfl (by kernel_rfl) (by kernel_rfl) (by kernel_rfl) (fun _ _ _ h => h) (Or.inr ⟨by kernel_rfl, rfl⟩) hS ?_
    try simp only [Act.put, z1, z2, z3]
    refine wpAnyH_take (i := 12) (oi := ⟨some 26, .move (.tmp 0), 44, "base.go:673", #[⟨2, .guard⟩], some (2, true)⟩) (v := undef) rfl (by kernel_rfl) (by kernel_rfl) (by kernel_rfl) (fun _ _ _ h => h) (Or.inr ⟨by kernel_rfl, rfl⟩) hS ?_
    try simp only [Act.put, z1, z2, z3]
    refine wpAnyH_take (i := 13) (oi := ⟨some 27, .move (.tmp 1), 3, "base.go:673", #[⟨2, .guard⟩], some (2, true)⟩) (v := undef) rfl (by kernel_rfl) (by kernel_rfl) (by kernel_rfl) (fun _ _ _ h => h) (Or.inr ⟨by kernel_rfl, rfl⟩) hS ?_
    try simp only [Act.put, z1, z2, z3]
    refine wpAnyH_take (i := 14) (oi := ⟨some 28, .move (.tmp 7), 3, "base.go:673", #[⟨2, .guard⟩], some (2, true)⟩) (v := undef) rfl (by kernel_rfl) (by kernel_rfl) (by kernel_rfl) (fun _ _ _ h => h) (Or.inr ⟨by kernel_rfl, rfl⟩) hS ?_
    try simp only [Act.put, z1, z2, z3]
    refine wpAnyH_take (i := 15) (oi := ⟨some 29, .nilCheck (.tmp 26), 0, "base.go:673", #[⟨12, .data⟩, ⟨2, .guard⟩], some (2, true)⟩) (v := undef) rfl (by kernel_rfl) (by kernel_rfl) (by kernel_rfl) (fun _ _ _ h => h) (Or.inr ⟨by kernel_rfl, rfl⟩) hS ?_
    try simp only [Act.put, z1, z2, z3]
    refine wpAnyH_take (i := 16) (oi := ⟨some 30, .fieldAddr 48 (.tmp 29) 1, 0, "base.go:673", #[⟨15, .data⟩, ⟨2, .guard⟩], some (2, true)⟩) (v := undef) rfl (by kernel_rfl) (by kernel_rfl) (by kernel_rfl) (fun _ _ _ h => h) (Or.inr ⟨by kernel_rfl, rfl⟩) hS ?_
    try simp only [Act.put, z1, z2, z3]
    refine wpAnyH_take (i := 17) (oi := ⟨some 31, .fieldAddr 34 (.tmp 30) 1, 0, "base.go:673", #[⟨16, .data⟩, ⟨2, .guard⟩], some (2, true)⟩) (v := undef) rfl (by kernel_rfl) (by kernel_rfl) (by kernel_rfl) (fun _ _ _ h => h) (Or.inr ⟨by kernel_rfl, rfl⟩) hS ?_
    try simp only [Act.put, z1, z2, z3]
    refine wpAnyH_take (i := 18) (oi := ⟨some 32, .indexAddr 29 (.tmp 31) (.tmp 27), 0, "base.go:673", #[⟨17, .data⟩, ⟨13, .data⟩, ⟨2, .guard⟩], some (2, true)⟩) (v := undef) rfl (by kernel_rfl) (by kernel_rfl) (by kernel_rfl) (fun _ _ _ h => h) (Or.inr ⟨by kernel_rfl, rfl⟩) hS ?_
    try simp only [Act.put, z1, z2, z3]
    refine wpAnyH_take (i := 19) (oi := ⟨some 33, .indexAddr 28 (.tmp 32) (.tmp 28), 0, "base.go:673", #[⟨18, .data⟩, ⟨14, .data⟩, ⟨2, .guard⟩], some (2, true)⟩) (v := undef) rfl (by kernel_rfl) (by kernel_rfl) (by kernel_rfl) (fun _ _ _ h => h) (Or.inr ⟨by kernel_rfl, rfl⟩) hS ?_
    try simp only [Act.put, z1, z2, z3]
    refine wpAnyH_take (i := 20) (oi := ⟨some 34, .load 27 (.tmp 33), 27, "base.go:673", #[⟨19, .data⟩, ⟨2, .guard⟩], some (2, true)⟩) (v := undef) rfl (by kernel_rfl) (by kernel_rfl) (by kernel_rfl) (fun _ _ _ h => h) (Or.inr ⟨by kernel_rfl, rfl⟩) hS ?_
    try simp only [Act.put, z1, z2, z3]
    refine wpAnyH_take (i := 21) (oi := ⟨some 35, .binOp .eql 27 (.tmp 25) (.tmp 34) 27, 4, "base.go:673", #[⟨11, .data⟩, ⟨20, .data⟩, ⟨2, .guard⟩], some (2, true)⟩) (v := undef) rfl (by kernel_rfl) (by kernel_rfl) (by kernel_rfl) (fun _ _ _ h => h) (Or.inr ⟨by kernel_rfl, rfl⟩) hS ?_
    try simp only [Act.put, z1, z2, z3]
    refine tkP (i := 22) (oi := ⟨some 36, .pick (.tmp 16) (.tmp 35) (.const (.bool false)), 4, "base.go:673", #[⟨2, .data⟩, ⟨21, .data⟩], none⟩) (v := .bool false) hS ?_
    try simp only [Act.put, z1, z2, z3]
    refine tkP (i := 23) (oi := ⟨some 6, .assign (.tmp 36), 4, "base.go:673", #[⟨22, .data⟩, ⟨2, .chain⟩, ⟨0, .phase⟩, ⟨1, .phase⟩, ⟨2, .phase⟩, ⟨3, .phase⟩, ⟨4, .phase⟩, ⟨5, .phase⟩, ⟨6, .phase⟩, ⟨7, .phase⟩, ⟨8, .phase⟩, ⟨9, .phase⟩, ⟨10, .phase⟩, ⟨11, .phase⟩, ⟨12, .phase⟩, ⟨13, .phase⟩, ⟨14, .phase⟩, ⟨15, .phase⟩, ⟨16, .phase⟩, ⟨17, .phase⟩, ⟨18, .phase⟩, ⟨19, .phase⟩, ⟨20, .phase⟩, ⟨21, .phase⟩, ⟨22, .phase⟩], none⟩) (v := .bool false) hS ?_
    try simp only [Act.put, z1, z2, z3]
    refine wpAnyH_done (by kernel_rfl) ?_ _
    clear hS
    go_wp2_with fail
    go_ret
    exact ⟨rfl, unhide BD⟩
  · obtain ⟨⟨d0, d3⟩, _, j, hj, e1, _, _⟩ := Img.findAt_some (Int.not_lt.1 hf)
    obtain ⟨dd, rfl⟩ := Int.eq_ofNat_of_zero_le d0
    have hd : dd < 3 := by omega
    have e2 : Img.ssure m k (dd : Int) s = ((m.name dd j).toList == (k.name dd j).toList && m.ino dd j == k.ino dd j && m.est dd j == k.est dd j) := by unfold Img.ssure; rw [e1, Int.toNat_natCast, Int.toNat_natCast, show decide (0 ≤ (j : Int)) = true by simp, Bool.true_and]; rfl
    rw [e2]
    rw [e1] at C1
    have U1 := hide (show decide (0 ≤ (j : Int)) = true by simp)
    clear hf hm hk e1 e2 d0 d3
    go_enter Tryz.func27, Tryz.ntmps27
    go_wp2_with fail
    refine (unhide C1).mono ?_
    rintro e wq ⟨rfl, e9⟩
    rw [e9]
    clear e9 wq
    go_wp2_with fail
    refine wp_region_held_drew (S := fun W' => HasAt W' g 0 m ∧ HasAt W' g 94 k) (by kernel_rfl) (unhide HMD) (fun hS => ?_)
    refine tkP (i := 0) (oi := ⟨some 14, .move (.tmp 7), 3, "base.go:673", #[], none⟩) (v := .int .i64 (j : Int)) hS ?_
    try simp only [Act.put, z1, z2, z3]
    refine tkH (i := 1) (oi := ⟨some 15, .binOp .geq 3 (.tmp 14) (.const (.int .i64 0)) 3, 4, "base.go:673", #[⟨0, .data⟩], none⟩) (v := .bool true) (fun W h => (by rw [← unhide U1]; exact Op1.geq0 (.tmp 14) (by kernel_rfl) (by kernel_rfl) (by kernel_rfl) W)) hS ?_
    try simp only [Act.put, z1, z2, z3]
    refine tkP (i := 2) (oi := ⟨some 16, .move (.tmp 15), 4, "base.go:673", #[⟨1, .data⟩], none⟩) (v := .bool true) hS ?_
    try simp only [Act.put, z1, z2, z3]
    refine tkP (i := 3) (oi := ⟨some 17, .move (.tmp 0), 44, "base.go:673", #[⟨2, .guard⟩], some (2, true)⟩) (v := .pointer (some ⟨g, 0, none⟩)) hS ?_
    try simp only [Act.put, z1, z2, z3]
    refine tkP (i := 4) (oi := ⟨some 18, .move (.tmp 1), 3, "base.go:673", #[⟨2, .guard⟩], some (2, true)⟩) (v := .int .i64 (dd : Int)) hS ?_
    try simp only [Act.put, z1, z2, z3]
    refine tkP (i := 5) (oi := ⟨some 19, .move (.tmp 7), 3, "base.go:673", #[⟨2, .guard⟩], some (2, true)⟩) (v := .int .i64 (j : Int)) hS ?_
    try simp only [Act.put, z1, z2, z3]
    refine tkP (i := 6) (oi := ⟨some 20, .nilCheck (.tmp 17), 0, "base.go:673", #[⟨3, .data⟩, ⟨2, .guard⟩], some (2, true)⟩) (v := .pointer (some ⟨g, 0, none⟩)) hS ?_
    try simp only [Act.put, z1, z2, z3]
    refine tkP (i := 7) (oi := ⟨some 21, .fieldAddr 48 (.tmp 20) 0, 0, "base.go:673", #[⟨6, .data⟩, ⟨2, .guard⟩], some (2, true)⟩) (v := .pointer (some ⟨g, 0, none⟩)) hS ?_
    try simp only [Act.put, z1, z2, z3]
    refine tkP (i := 8) (oi := ⟨some 22, .fieldAddr 34 (.tmp 21) 1, 0, "base.go:673", #[⟨7, .data⟩, ⟨2, .guard⟩], some (2, true)⟩) (v := .pointer (some ⟨g, 40, none⟩)) hS ?_
    try simp only [Act.put, z1, z2, z3]
    refine tkH (i := 9) (oi := ⟨some 23, .indexAddr 29 (.tmp 22) (.tmp 18), 0, "base.go:673", #[⟨8, .data⟩, ⟨4, .data⟩, ⟨2, .guard⟩], some (2, true)⟩) (v := .pointer (some ⟨g, 40 + dd * 12, none⟩)) (fun W h => Op1.ix_dir (.tmp 22) (.tmp 18) (by kernel_rfl) (by kernel_rfl) (by kernel_rfl) (hd) W) hS ?_
    try simp only [Act.put, z1, z2, z3]
    refine tkH (i := 10) (oi := ⟨some 24, .indexAddr 28 (.tmp 23) (.tmp 19), 0, "base.go:673", #[⟨9, .data⟩, ⟨5, .data⟩, ⟨2, .guard⟩], some (2, true)⟩) (v := .pointer (some ⟨g, 40 + dd * 12 + j * 3, none⟩)) (fun W h => Op1.ix_slot (.tmp 23) (.tmp 19) (by kernel_rfl) (by kernel_rfl) (by kernel_rfl) (hj) W) hS ?_
    try simp only [Act.put, z1, z2, z3]
    refine tkH (i := 11) (oi := ⟨some 25, .load 27 (.tmp 24), 27, "base.go:673", #[⟨10, .data⟩, ⟨2, .guard⟩], some (2, true)⟩) (v := .agg #[.string (m.name dd j), .int .i64 (m.ino dd j), .int .i64 (m.est dd j)]) (fun W h => Op1.ld_ent (.tmp 24) (by kernel_rfl) (by kernel_rfl) W (by have := h.1.name dd j hd hj; simpa using this) (by have := h.1.ino dd j hd hj; simpa using this) (by have := h.1.est dd j hd hj; simpa using this)) hS ?_
    try simp only [Act.put, z1, z2, z3]
    refine tkP (i := 12) (oi := ⟨some 26, .move (.tmp 0), 44, "base.go:673", #[⟨2, .guard⟩], some (2, true)⟩) (v := .pointer (some ⟨g, 0, none⟩)) hS ?_
    try simp only [Act.put, z1, z2, z3]
    refine tkP (i := 13) (oi := ⟨some 27, .move (.tmp 1), 3, "base.go:673", #[⟨2, .guard⟩], some (2, true)⟩) (v := .int .i64 (dd : Int)) hS ?_
    try simp only [Act.put, z1, z2, z3]
    refine tkP (i := 14) (oi := ⟨some 28, .move (.tmp 7), 3, "base.go:673", #[⟨2, .guard⟩], some (2, true)⟩) (v := .int .i64 (j : Int)) hS ?_
    try simp only [Act.put, z1, z2, z3]
    refine tkP (i := 15) (oi := ⟨some 29, .nilCheck (.tmp 26), 0, "base.go:673", #[⟨12, .data⟩, ⟨2, .guard⟩], some (2, true)⟩) (v := .pointer (some ⟨g, 0, none⟩)) hS ?_
    try simp only [Act.put, z1, z2, z3]
    refine tkP (i := 16) (oi := ⟨some 30, .fieldAddr 48 (.tmp 29) 1, 0, "base.go:673", #[⟨15, .data⟩, ⟨2, .guard⟩], some (2, true)⟩) (v := .pointer (some ⟨g, 94, none⟩)) hS ?_
    try simp only [Act.put, z1, z2, z3]
    refine tkP (i := 17) (oi := ⟨some 31, .fieldAddr 34 (.tmp 30) 1, 0, "base.go:673", #[⟨16, .data⟩, ⟨2, .guard⟩], some (2, true)⟩) (v := .pointer (some ⟨g, 134, none⟩)) hS ?_
    try simp only [Act.put, z1, z2, z3]
    refine tkH (i := 18) (oi := ⟨some 32, .indexAddr 29 (.tmp 31) (.tmp 27), 0, "base.go:673", #[⟨17, .data⟩, ⟨13, .data⟩, ⟨2, .guard⟩], some (2, true)⟩) (v := .pointer (some ⟨g, 134 + dd * 12, none⟩)) (fun W h => Op1.ix_dir (.tmp 31) (.tmp 27) (by kernel_rfl) (by kernel_rfl) (by kernel_rfl) (hd) W) hS ?_
    try simp only [Act.put, z1, z2, z3]
    refine tkH (i := 19) (oi := ⟨some 33, .indexAddr 28 (.tmp 32) (.tmp 28), 0, "base.go:673", #[⟨18, .data⟩, ⟨14, .data⟩, ⟨2, .guard⟩], some (2, true)⟩) (v := .pointer (some ⟨g, 134 + dd * 12 + j * 3, none⟩)) (fun W h => Op1.ix_slot (.tmp 32) (.tmp 28) (by kernel_rfl) (by kernel_rfl) (by kernel_rfl) (hj) W) hS ?_
    try simp only [Act.put, z1, z2, z3]
    refine tkH (i := 20) (oi := ⟨some 34, .load 27 (.tmp 33), 27, "base.go:673", #[⟨19, .data⟩, ⟨2, .guard⟩], some (2, true)⟩) (v := .agg #[.string (k.name dd j), .int .i64 (k.ino dd j), .int .i64 (k.est dd j)]) (fun W h => Op1.ld_ent (.tmp 33) (by kernel_rfl) (by kernel_rfl) W (by have := h.2.name dd j hd hj; simpa using this) (by have := h.2.ino dd j hd hj; simpa using this) (by have := h.2.est dd j hd hj; simpa using this)) hS ?_
    try simp only [Act.put, z1, z2, z3]
    refine tkH (i := 21) (oi := ⟨some 35, .binOp .eql 27 (.tmp 25) (.tmp 34) 27, 4, "base.go:673", #[⟨11, .data⟩, ⟨20, .data⟩, ⟨2, .guard⟩], some (2, true)⟩) (v := .bool ((m.name dd j).toList == (k.name dd j).toList && m.ino dd j == k.ino dd j && m.est dd j == k.est dd j)) (fun W h => Op1.eq_ent (.tmp 25) (.tmp 34) (by kernel_rfl) (by kernel_rfl) (by kernel_rfl) W) hS ?_
    try simp only [Act.put, z1, z2, z3]
    refine tkP (i := 22) (oi := ⟨some 36, .pick (.tmp 16) (.tmp 35) (.const (.bool false)), 4, "base.go:673", #[⟨2, .data⟩, ⟨21, .data⟩], none⟩) (v := .bool ((m.name dd j).toList == (k.name dd j).toList && m.ino dd j == k.ino dd j && m.est dd j == k.est dd j)) hS ?_
    try simp only [Act.put, z1, z2, z3]
    refine tkP (i := 23) (oi := ⟨some 6, .assign (.tmp 36), 4, "base.go:673", #[⟨22, .data⟩, ⟨2, .chain⟩, ⟨0, .phase⟩, ⟨1, .phase⟩, ⟨2, .phase⟩, ⟨3, .phase⟩, ⟨4, .phase⟩, ⟨5, .phase⟩, ⟨6, .phase⟩, ⟨7, .phase⟩, ⟨8, .phase⟩, ⟨9, .phase⟩, ⟨10, .phase⟩, ⟨11, .phase⟩, ⟨12, .phase⟩, ⟨13, .phase⟩, ⟨14, .phase⟩, ⟨15, .phase⟩, ⟨16, .phase⟩, ⟨17, .phase⟩, ⟨18, .phase⟩, ⟨19, .phase⟩, ⟨20, .phase⟩, ⟨21, .phase⟩, ⟨22, .phase⟩], none⟩) (v := .bool ((m.name dd j).toList == (k.name dd j).toList && m.ino dd j == k.ino dd j && m.est dd j == k.est dd j)) hS ?_
    try simp only [Act.put, z1, z2, z3]
    refine wpAnyH_done (by kernel_rfl) ?_ _
    clear hS
    go_wp2_with fail
    go_ret
    exact ⟨rfl, unhide BD⟩
set_option maxHeartbeats 4000000 in
set_option maxRecDepth 100000 in
theorem bRead_any (w : World) (hm : HasAt w g 0 m) (hok : m.check = 0) (d : Int) (s : ByteArray) (hs : s.size ≤ maxLen) (p : Int) :
    Calls Tryz.prog 23 #[.pointer (some ⟨g, 0, none⟩), .int .i64 d, .string s, .int .i64 p] w fun r w' => r = .returned (.tuple #[.string (Img.sreadT m d s p), .bool (Img.sreadB m d s p), .int .i64 (Img.sreadC m d s p)]) ∧ Below w.heap.size w w' := by
  have C1 := hide (Idl.stepFault_any (Idl.cut d s p) hs (Nat.zero_le _) (Nat.zero_le _) w)
  have HB := hide fun W (bW : Below w.heap.size w W) => hm.below bW hm.lt
  by_cases hc0 : chk (Idl.cut d s p) = 0
  · rw [hc0] at C1
    by_cases hf : m.findAt d s.toList < 0
    · have hi := (Img.inoOf_neg hok (d := d) (s := s)).2 hf
      have eC : Img.sreadC m d s p = 5 := by
        unfold Img.sreadC Img.scheck
        rw [if_neg (by rw [hc0]; simp), if_neg (by show ¬ (6 : Int) = 1; omega), if_pos (show Img.inoOf m (Idl.cut d s p).dir (Idl.cut d s p).name < 0 from hi)]
      have eB : Img.sreadB m d s p = false := by unfold Img.sreadB; rw [if_pos (by rw [eC]; simp)]
      have eT : Img.sreadT m d s p = ⟨#[]⟩ := by unfold Img.sreadT; rw [if_pos (by rw [eC]; simp)]
      rw [eC, eB, eT]
      have C2 := hide fun W (bW : Below w.heap.size w W) => rSlotOf_any g m d s W (unhide HB W bW)
      obtain ⟨v, hv⟩ : ∃ v, v = m.findAt d s.toList := ⟨_, rfl⟩
      rw [← hv] at C2 hf
      have u1 : decide (v < 0) = true := by simpa using hf
      simp only [Idl.cut, stpA, Idl.none0] at C1
      clear eC eB eT hi hv hok hm hc0 hf
      go_enter Tryz.func23, Tryz.ntmps23
      go_wp2_with fail
      refine (unhide C1).mono ?_
      rintro e w1 ⟨rfl, b1⟩
      have B1 := hide b1
      clear b1
      go_wp2_with fail
      refine (unhide C2 _ (unhide B1)).mono ?_
      rintro e wq ⟨rfl, e9⟩
      rw [e9]
      clear e9 wq
      go_wp2_with fail
      go_ret3
      exact ⟨rfl, unhide B1⟩
    · obtain ⟨j, n, hT⟩ := Img.there hok (d := d) (s := s) (by have := (Img.inoOf_neg hok (d := d) (s := s)); omega)
      obtain ⟨_, _, _, _, _, a6⟩ := Img.chk_names hc0
      have a7 : 0 ≤ p ∧ p < 2 := a6 (.inr rfl)
      obtain ⟨q, rfl⟩ := Int.eq_ofNat_of_zero_le a7.1
      have hq : q < 2 := by omega
      have eC : Img.sreadC m d s (q : Int) = 0 := by
        unfold Img.sreadC Img.scheck
        rw [if_neg (by rw [hc0]; simp), if_neg (by show ¬ (6 : Int) = 1; omega), if_neg (show ¬ Img.inoOf m (Idl.cut d s (q : Int)).dir (Idl.cut d s (q : Int)).name < 0 by show ¬ Img.inoOf m d s < 0; rw [hT.of]; omega), if_neg (fun z => by rcases z.1 with z | z <;> (revert z; show ¬ (6 : Int) = _; omega))]
      have e1 : Img.spart m d s (q : Int) = m.part n q := by unfold Img.spart; rw [hT.of, Int.toNat_natCast, Int.toNat_natCast]
      have eB : Img.sreadB m d s (q : Int) = !decide (m.part n q < 0) := by unfold Img.sreadB; rw [if_neg (by rw [eC]; simp), e1]
      have eT : Img.sreadT m d s (q : Int) = if m.part n q < 0 then ⟨#[]⟩ else m.text (m.part n q).toNat := by unfold Img.sreadT; rw [if_neg (by rw [eC]; simp), e1]
      rw [eC, eB, eT]
      have hpt := (Img.checkPart_iff.1 ((Img.inode_parts_ok hok hT.n8 hT.live).2.2 q hq))
      have C2 := hide fun W (bW : Below w.heap.size w W) => rSlotOf_any g m d s W (unhide HB W bW)
      rw [hT.at_] at C2
      have hj4 := hT.k4
      have hn8 := hT.n8
      have d0 := hT.d0
      have d3 := hT.d3
      obtain ⟨d, rfl⟩ := Int.eq_ofNat_of_zero_le d0
      have hd3 : d < 3 := by omega
      have HI := hide (show m.ino d j = (n : Int) from hT.ino)
      have jn : decide ((j : Int) < 0) = false := by simp
      simp only [Idl.cut, stpA, Idl.none0] at C1
      clear eC eB eT e1 hT hok hm hc0 hf d0 d3 a6 a7
      obtain ⟨pv, hpv⟩ : ∃ pv, pv = m.part n q := ⟨_, rfl⟩
      have HP := hide hpv.symm
      rw [← hpv] at hpt ⊢
      clear hpv
      go_enter Tryz.func23, Tryz.ntmps23
      go_wp2_with fail
      refine (unhide C1).mono ?_
      rintro e w1 ⟨rfl, b1⟩
      have B1 := hide b1
      have BD := hide b1.drew
      clear b1
      go_wp2_with fail
      refine (unhide C2 _ (unhide B1)).mono ?_
      rintro e wq ⟨rfl, e9⟩
      rw [e9]
      clear e9 wq
      go_wp2_with fail
      refine wp_region_held_drew (S := fun W' => HasAt W' g 0 m) (by kernel_rfl) (unhide HB _ (unhide BD)) (fun hS => ?_)
      refine tkP (i := 0) (oi := ⟨some 30, .move (.tmp 0), 44, "base.go:646", #[], none⟩) (v := .pointer (some ⟨g, 0, none⟩)) hS ?_
      try simp only [Act.put, z1, z2, z3]
      refine tkP (i := 1) (oi := ⟨some 31, .move (.tmp 0), 44, "base.go:646", #[], none⟩) (v := .pointer (some ⟨g, 0, none⟩)) hS ?_
      try simp only [Act.put, z1, z2, z3]
      refine tkP (i := 2) (oi := ⟨some 32, .move (.tmp 1), 3, "base.go:646", #[], none⟩) (v := .int .i64 (d : Int)) hS ?_
      try simp only [Act.put, z1, z2, z3]
      refine tkP (i := 3) (oi := ⟨some 33, .move (.tmp 12), 3, "base.go:646", #[], none⟩) (v := .int .i64 (j : Int)) hS ?_
      try simp only [Act.put, z1, z2, z3]
      refine tkP (i := 4) (oi := ⟨some 34, .nilCheck (.tmp 31), 0, "base.go:646", #[⟨1, .data⟩], none⟩) (v := .pointer (some ⟨g, 0, none⟩)) hS ?_
      try simp only [Act.put, z1, z2, z3]
      refine tkP (i := 5) (oi := ⟨some 35, .fieldAddr 48 (.tmp 34) 0, 0, "base.go:646", #[⟨4, .data⟩], none⟩) (v := .pointer (some ⟨g, 0, none⟩)) hS ?_
      try simp only [Act.put, z1, z2, z3]
      refine tkP (i := 6) (oi := ⟨some 36, .fieldAddr 34 (.tmp 35) 1, 0, "base.go:646", #[⟨5, .data⟩], none⟩) (v := .pointer (some ⟨g, 40, none⟩)) hS ?_
      try simp only [Act.put, z1, z2, z3]
      refine tkH (i := 7) (oi := ⟨some 37, .indexAddr 29 (.tmp 36) (.tmp 32), 0, "base.go:646", #[⟨6, .data⟩, ⟨2, .data⟩], none⟩) (v := .pointer (some ⟨g, 40 + d * 12, none⟩)) (fun W h => Op1.ix_dir (.tmp 36) (.tmp 32) (by kernel_rfl) (by kernel_rfl) (by kernel_rfl) (hd3) W) hS ?_
      try simp only [Act.put, z1, z2, z3]
      refine tkH (i := 8) (oi := ⟨some 38, .indexAddr 28 (.tmp 37) (.tmp 33), 0, "base.go:646", #[⟨7, .data⟩, ⟨3, .data⟩], none⟩) (v := .pointer (some ⟨g, 40 + d * 12 + j * 3, none⟩)) (fun W h => Op1.ix_slot (.tmp 37) (.tmp 33) (by kernel_rfl) (by kernel_rfl) (by kernel_rfl) (hj4) W) hS ?_
      try simp only [Act.put, z1, z2, z3]
      refine tkP (i := 9) (oi := ⟨some 39, .fieldAddr 27 (.tmp 38) 1, 0, "base.go:646", #[⟨8, .data⟩], none⟩) (v := .pointer (some ⟨g, 40 + d * 12 + j * 3 + 1, none⟩)) hS ?_
      try simp only [Act.put, z1, z2, z3]
      refine tkH (i := 10) (oi := ⟨some 40, .load 3 (.tmp 39), 3, "base.go:646", #[⟨9, .data⟩], none⟩) (v := .int .i64 (n : Int)) (fun W h => Op1.ld_int (.tmp 39) (by kernel_rfl) (by kernel_rfl) W (by have := h.ino d j hd3 hj4; rw [unhide HI, Nat.zero_add] at this; exact this)) hS ?_
      try simp only [Act.put, z1, z2, z3]
      refine tkP (i := 11) (oi := ⟨some 41, .move (.tmp 3), 3, "base.go:646", #[], none⟩) (v := .int .i64 (q : Int)) hS ?_
      try simp only [Act.put, z1, z2, z3]
      refine tkP (i := 12) (oi := ⟨some 42, .nilCheck (.tmp 30), 0, "base.go:646", #[⟨0, .data⟩], none⟩) (v := .pointer (some ⟨g, 0, none⟩)) hS ?_
      try simp only [Act.put, z1, z2, z3]
      refine tkP (i := 13) (oi := ⟨some 43, .fieldAddr 48 (.tmp 42) 0, 0, "base.go:646", #[⟨12, .data⟩], none⟩) (v := .pointer (some ⟨g, 0, none⟩)) hS ?_
      try simp only [Act.put, z1, z2, z3]
      refine tkP (i := 14) (oi := ⟨some 44, .fieldAddr 34 (.tmp 43) 0, 0, "base.go:646", #[⟨13, .data⟩], none⟩) (v := .pointer (some ⟨g, 0, none⟩)) hS ?_
      try simp only [Act.put, z1, z2, z3]
      refine tkH (i := 15) (oi := ⟨some 45, .indexAddr 25 (.tmp 44) (.tmp 40), 0, "base.go:646", #[⟨14, .data⟩, ⟨10, .data⟩], none⟩) (v := .pointer (some ⟨g, n * 5, none⟩)) (fun W h => Op1.ix_ino (.tmp 44) (.tmp 40) (by kernel_rfl) (by kernel_rfl) (by kernel_rfl) (hn8) W) hS ?_
      try simp only [Act.put, z1, z2, z3]
      refine tkP (i := 16) (oi := ⟨some 46, .fieldAddr 24 (.tmp 45) 3, 0, "base.go:646", #[⟨15, .data⟩], none⟩) (v := .pointer (some ⟨g, n * 5 + 3, none⟩)) hS ?_
      try simp only [Act.put, z1, z2, z3]
      refine tkH (i := 17) (oi := ⟨some 47, .indexAddr 22 (.tmp 46) (.tmp 41), 0, "base.go:646", #[⟨16, .data⟩, ⟨11, .data⟩], none⟩) (v := .pointer (some ⟨g, n * 5 + 3 + q, none⟩)) (fun W h => Op1.ix_part (.tmp 46) (.tmp 41) (by kernel_rfl) (by kernel_rfl) (by kernel_rfl) (hq) W) hS ?_
      try simp only [Act.put, z1, z2, z3]
      refine tkH (i := 18) (oi := ⟨some 48, .load 3 (.tmp 47), 3, "base.go:646", #[⟨17, .data⟩], none⟩) (v := .int .i64 pv) (fun W h => Op1.ld_int (.tmp 47) (by kernel_rfl) (by kernel_rfl) W (by have := h.part n q hn8 hq; rw [unhide HP, Nat.zero_add] at this; exact this)) hS ?_
      try simp only [Act.put, z1, z2, z3]
      refine tkP (i := 19) (oi := ⟨some 13, .assign (.tmp 48), 3, "base.go:646", #[⟨18, .data⟩, ⟨0, .phase⟩, ⟨1, .phase⟩, ⟨2, .phase⟩, ⟨3, .phase⟩, ⟨4, .phase⟩, ⟨5, .phase⟩, ⟨6, .phase⟩, ⟨7, .phase⟩, ⟨8, .phase⟩, ⟨9, .phase⟩, ⟨10, .phase⟩, ⟨11, .phase⟩, ⟨12, .phase⟩, ⟨13, .phase⟩, ⟨14, .phase⟩, ⟨15, .phase⟩, ⟨16, .phase⟩, ⟨17, .phase⟩, ⟨18, .phase⟩], none⟩) (v := .int .i64 pv) hS ?_
      try simp only [Act.put, z1, z2, z3]
      refine wpAnyH_done (by kernel_rfl) ?_ _
      clear hS
      generalize w1.drew = W0 at BD ⊢
      rcases hpt with rfl | ⟨z, _⟩
      · go_wp2_with fail
        go_ret3
        exact ⟨rfl, unhide BD⟩
      · have hb : 0 ≤ pv ∧ pv < 9 := by simpa [Img.isD] using z
        obtain ⟨x, rfl⟩ := Int.eq_ofNat_of_zero_le hb.1
        have hx9 : x < 9 := by omega
        have xz : (x : Int) < 9 := by omega
        have xn : decide ((x : Int) < 0) = false := by simp
        have tx : W0.cell? ⟨g, 76 + x * 2 + 1, none⟩ = some (.string (m.text x)) := by
          have := (unhide HB _ (unhide BD)).text x hx9
          simpa using this
        have XT := hide (show Ending.returned (.tuple #[.string (m.text x), .bool true, .int .i64 0]) = Ending.returned (.tuple #[.string (if (x : Int) < 0 then (⟨#[]⟩ : ByteArray) else m.text (x : Int).toNat), .bool (!decide ((x : Int) < 0)), .int .i64 0]) by rw [if_neg (show ¬ (x : Int) < 0 by omega), Int.toNat_natCast, xn]; rfl)
        clear z hb
        go_wp2_with fail
        go_ret3
        exact ⟨unhide XT, unhide BD⟩
  · have eC : Img.sreadC m d s p = chk (Idl.cut d s p) := by
      unfold Img.sreadC Img.scheck
      rw [if_pos hc0]
    have eB : Img.sreadB m d s p = false := by unfold Img.sreadB; rw [if_pos (by rw [eC]; exact hc0)]
    have eT : Img.sreadT m d s p = ⟨#[]⟩ := by unfold Img.sreadT; rw [if_pos (by rw [eC]; exact hc0)]
    rw [eC, eB, eT]
    have u1 : (chk (Idl.cut d s p) != 0) = true := by simpa using hc0
    generalize chk (Idl.cut d s p) = cd at C1 u1
    simp only [Idl.cut, stpA, Idl.none0] at C1
    clear eC eB eT hok hm hc0
    go_enter Tryz.func23, Tryz.ntmps23
    go_wp2_with fail
    refine (unhide C1).mono ?_
    rintro e w1 ⟨rfl, b1⟩
    have B1 := hide b1
    clear b1
    go_wp2_with fail
    go_ret3
    exact ⟨rfl, unhide B1⟩
end
end Go.Proofs.YtmbpckmpnnmnmabGreat
namespace Go.Proofs.YtmbpckmpnnmnmabGreat
open Go.RowKit
open Idl (Stp chk stpA)
theorem Op1.ld_boolF {o : Oper} {ρ : Operand → Value} (x : Operand) (ho : o.op = .load 4 x) {g o0 : Nat} (hx : ρ x = .pointer (some ⟨g, o0, none⟩)) {v : Bool} (w : World) (h : w.cell? ⟨g, o0, none⟩ = some (.bool v)) : (execOp ρ o).run Tryz.prog w = .ok (.value (.bool v)) w := by
  unfold execOp
  rw [ho]
  go_simp
theorem Op1.lss1 {o : Oper} {ρ : Operand → Value} (x : Operand) (ho : o.op = .binOp .lss 3 x (.const (.int .i64 1)) 3) {v : Int} (hx : ρ x = .int .i64 v) (hy : ρ (.const (.int .i64 1)) = .int .i64 1) (w : World) : (execOp ρ o).run Tryz.prog w = .ok (.value (.bool (decide (v < 1)))) w := by
  unfold execOp
  rw [ho]
  go_simp
theorem Op1.neqI {o : Oper} {ρ : Operand → Value} (x y : Operand) (ho : o.op = .binOp .neq 3 x y 3) {u v : Int} (hx : ρ x = .int .i64 u) (hy : ρ y = .int .i64 v) (w : World) : (execOp ρ o).run Tryz.prog w = .ok (.value (.bool (u != v))) w := by
  unfold execOp
  rw [ho]
  go_simp
set_option maxHeartbeats 4000000 in
set_option maxRecDepth 100000 in
theorem isExact_any {g : Nat} {m : Img} (w : World) (hm : HasAt w g 0 m) :
    Calls Tryz.prog 16 #[.pointer (some ⟨g, 0, none⟩)] w fun e w' => (∃ v : Bool, e = .returned (.bool v) ∧ (v = true → Img.Ex m)) ∧ Below w.heap.size w w' := by
  have C1 := hide (fault_any g m w (Sft.HasAt.img hm))
  have HB := hide fun W (bW : Below w.heap.size w W) => hm.below bW hm.lt
  by_cases hc : m.check = 0
  · have HC := hide hc
    clear hc hm
    go_enter Tryz.func16, Tryz.ntmps16
    go_wp2_with fail
    refine (unhide C1).mono ?_
    rintro e w1 ⟨⟨c0, rfl, hc0⟩, b1⟩
    have B1 := hide b1
    have c0z : c0 = 0 := hc0.2 (unhide HC)
    subst c0z
    clear b1 C1 hc0
    go_wp2_with fail
    go_loopw [3] (fun i wr => ∃ j : Nat, j ≤ 8 ∧ i = .int .i64 j ∧ Hid (Below w.heap.size w wr) ∧ Hid (∀ n, n < j → m.live n = true → m.links n = (m.refs n : Int) ∧ 1 ≤ m.links n)) (fun i _ => 8 - (intOf i).toNat)
    case atStart => exact ⟨0, by omega, rfl, B1, hide fun n hn => by omega⟩
    case round =>
      clear B1
      obtain ⟨j, hj, rfl, BR, HA⟩ := hrel
      by_cases hlt : j < 8
      case neg =>
        have t8 : decide ((j : Int) < 8) = false := by simp; omega
        have FIN := hide (show Img.Ex m from ⟨unhide HC, fun n hn hl => unhide HA n (by omega) hl⟩)
        go_wp2_with fail
        go_ret
        exact ⟨⟨_, rfl, fun _ => unhide FIN⟩, unhide BR⟩
      have t8 : decide ((j : Int) < 8) = true := by simp; omega
      have BD := hide (unhide BR).drew
      have HAT := hide (unhide HB _ (unhide BD))
      cases hl : m.live j
      · have HL := hide hl
        clear hl
        go_wp2_with fail
        refine wp_region_held_drew (S := fun W' => HasAt W' g 0 m) (by kernel_rfl) (unhide HAT) (fun hS => ?_)
        refine tkP (i := 0) (oi := ⟨some 11, .move (.tmp 0), 50, "base.go:206", #[], none⟩) (v := .pointer (some ⟨g, 0, none⟩)) hS ?_
        try simp only [Act.put, z1, z2, z3]
        refine tkP (i := 1) (oi := ⟨some 12, .move (.tmp 3), 3, "base.go:206", #[], none⟩) (v := .int .i64 (j : Int)) hS ?_
        try simp only [Act.put, z1, z2, z3]
        refine tkP (i := 2) (oi := ⟨some 13, .nilCheck (.tmp 11), 0, "base.go:206", #[⟨0, .data⟩], none⟩) (v := .pointer (some ⟨g, 0, none⟩)) hS ?_
        try simp only [Act.put, z1, z2, z3]
        refine tkP (i := 3) (oi := ⟨some 14, .fieldAddr 34 (.tmp 13) 0, 0, "base.go:206", #[⟨2, .data⟩], none⟩) (v := .pointer (some ⟨g, 0, none⟩)) hS ?_
        try simp only [Act.put, z1, z2, z3]
        refine tkH (i := 4) (oi := ⟨some 15, .indexAddr 25 (.tmp 14) (.tmp 12), 0, "base.go:206", #[⟨3, .data⟩, ⟨1, .data⟩], none⟩) (v := .pointer (some ⟨g, j * 5, none⟩)) (fun W h => Op1.ix_ino (.tmp 14) (.tmp 12) (by kernel_rfl) (by kernel_rfl) (by kernel_rfl) (hlt) W) hS ?_
        try simp only [Act.put, z1, z2, z3]
        refine tkP (i := 5) (oi := ⟨some 16, .fieldAddr 24 (.tmp 15) 0, 0, "base.go:206", #[⟨4, .data⟩], none⟩) (v := .pointer (some ⟨g, j * 5, none⟩)) hS ?_
        try simp only [Act.put, z1, z2, z3]
        refine tkH (i := 6) (oi := ⟨some 17, .load 4 (.tmp 16), 4, "base.go:206", #[⟨5, .data⟩], none⟩) (v := .bool false) (fun W h => Op1.ld_boolF (.tmp 16) (by kernel_rfl) (by kernel_rfl) W (by have := h.live j hlt; rw [unhide HL, Nat.zero_add] at this; exact this)) hS ?_
        try simp only [Act.put, z1, z2, z3]
        refine tkP (i := 7) (oi := ⟨some 18, .move (.tmp 17), 4, "base.go:206", #[⟨6, .data⟩], none⟩) (v := .bool false) hS ?_
        try simp only [Act.put, z1, z2, z3]
        refine wpAnyH_take (i := 8) (oi := ⟨some 19, .move (.tmp 0), 50, "base.go:206", #[⟨7, .guard⟩], some (7, true)⟩) (v := undef) rfl (by kernel_rfl) (by kernel_rfl) (by kernel_rfl) (fun _ _ _ h => h) (Or.inr ⟨by kernel_rfl, rfl⟩) hS ?_
        try simp only [Act.put, z1, z2, z3]
        refine wpAnyH_take (i := 9) (oi := ⟨some 20, .move (.tmp 3), 3, "base.go:206", #[⟨7, .guard⟩], some (7, true)⟩) (v := undef) rfl (by kernel_rfl) (by kernel_rfl) (by kernel_rfl) (fun _ _ _ h => h) (Or.inr ⟨by kernel_rfl, rfl⟩) hS ?_
        try simp only [Act.put, z1, z2, z3]
        refine wpAnyH_take (i := 10) (oi := ⟨some 21, .nilCheck (.tmp 19), 0, "base.go:206", #[⟨8, .data⟩, ⟨7, .guard⟩], some (7, true)⟩) (v := undef) rfl (by kernel_rfl) (by kernel_rfl) (by kernel_rfl) (fun _ _ _ h => h) (Or.inr ⟨by kernel_rfl, rfl⟩) hS ?_
        try simp only [Act.put, z1, z2, z3]
        refine wpAnyH_take (i := 11) (oi := ⟨some 22, .fieldAddr 34 (.tmp 21) 0, 0, "base.go:206", #[⟨10, .data⟩, ⟨7, .guard⟩], some (7, true)⟩) (v := undef) rfl (by kernel_rfl) (by kernel_rfl) (by kernel_rfl) (fun _ _ _ h => h) (Or.inr ⟨by kernel_rfl, rfl⟩) hS ?_
        try simp only [Act.put, z1, z2, z3]
        refine wpAnyH_take (i := 12) (oi := ⟨some 23, .indexAddr 25 (.tmp 22) (.tmp 20), 0, "base.go:206", #[⟨11, .data⟩, ⟨9, .data⟩, ⟨7, .guard⟩], some (7, true)⟩) (v := undef) rfl (by kernel_rfl) (by kernel_rfl) (by kernel_rfl) (fun _ _ _ h => h) (Or.inr ⟨by kernel_rfl, rfl⟩) hS ?_
        try simp only [Act.put, z1, z2, z3]
        refine wpAnyH_take (i := 13) (oi := ⟨some 24, .fieldAddr 24 (.tmp 23) 2, 0, "base.go:206", #[⟨12, .data⟩, ⟨7, .guard⟩], some (7, true)⟩) (v := undef) rfl (by kernel_rfl) (by kernel_rfl) (by kernel_rfl) (fun _ _ _ h => h) (Or.inr ⟨by kernel_rfl, rfl⟩) hS ?_
        try simp only [Act.put, z1, z2, z3]
        refine wpAnyH_take (i := 14) (oi := ⟨some 25, .load 3 (.tmp 24), 3, "base.go:206", #[⟨13, .data⟩, ⟨7, .guard⟩], some (7, true)⟩) (v := undef) rfl (by kernel_rfl) (by kernel_rfl) (by kernel_rfl) (fun _ _ _ h => h) (Or.inr ⟨by kernel_rfl, rfl⟩) hS ?_
        try simp only [Act.put, z1, z2, z3]
        refine wpAnyH_take (i := 15) (oi := ⟨some 26, .binOp .lss 3 (.tmp 25) (.const (.int .i64 1)) 3, 4, "base.go:206", #[⟨14, .data⟩, ⟨7, .guard⟩], some (7, true)⟩) (v := undef) rfl (by kernel_rfl) (by kernel_rfl) (by kernel_rfl) (fun _ _ _ h => h) (Or.inr ⟨by kernel_rfl, rfl⟩) hS ?_
        try simp only [Act.put, z1, z2, z3]
        refine wpAnyH_take (i := 16) (oi := ⟨some 27, .move (.tmp 26), 4, "base.go:206", #[⟨15, .data⟩, ⟨7, .chain⟩, ⟨7, .guard⟩], some (7, true)⟩) (v := undef) rfl (by kernel_rfl) (by kernel_rfl) (by kernel_rfl) (fun _ _ _ h => h) (Or.inr ⟨by kernel_rfl, rfl⟩) hS ?_
        try simp only [Act.put, z1, z2, z3]
        refine wpAnyH_take (i := 17) (oi := ⟨some 28, .move (.tmp 0), 50, "base.go:206", #[⟨16, .guard⟩], some (16, false)⟩) (v := undef) rfl (by kernel_rfl) (by kernel_rfl) (by kernel_rfl) (fun _ _ _ h => h) (Or.inr ⟨by kernel_rfl, rfl⟩) hS ?_
        try simp only [Act.put, z1, z2, z3]
        refine wpAnyH_take (i := 18) (oi := ⟨some 29, .move (.tmp 3), 3, "base.go:206", #[⟨16, .guard⟩], some (16, false)⟩) (v := undef) rfl (by kernel_rfl) (by kernel_rfl) (by kernel_rfl) (fun _ _ _ h => h) (Or.inr ⟨by kernel_rfl, rfl⟩) hS ?_
        try simp only [Act.put, z1, z2, z3]
        refine wpAnyH_take (i := 19) (oi := ⟨some 30, .nilCheck (.tmp 28), 0, "base.go:206", #[⟨17, .data⟩, ⟨16, .guard⟩], some (16, false)⟩) (v := undef) rfl (by kernel_rfl) (by kernel_rfl) (by kernel_rfl) (fun _ _ _ h => h) (Or.inr ⟨by kernel_rfl, rfl⟩) hS ?_
        try simp only [Act.put, z1, z2, z3]
        refine wpAnyH_take (i := 20) (oi := ⟨some 31, .fieldAddr 34 (.tmp 30) 0, 0, "base.go:206", #[⟨19, .data⟩, ⟨16, .guard⟩], some (16, false)⟩) (v := undef) rfl (by kernel_rfl) (by kernel_rfl) (by kernel_rfl) (fun _ _ _ h => h) (Or.inr ⟨by kernel_rfl, rfl⟩) hS ?_
        try simp only [Act.put, z1, z2, z3]
        refine wpAnyH_take (i := 21) (oi := ⟨some 32, .indexAddr 25 (.tmp 31) (.tmp 29), 0, "base.go:206", #[⟨20, .data⟩, ⟨18, .data⟩, ⟨16, .guard⟩], some (16, false)⟩) (v := undef) rfl (by kernel_rfl) (by kernel_rfl) (by kernel_rfl) (fun _ _ _ h => h) (Or.inr ⟨by kernel_rfl, rfl⟩) hS ?_
        try simp only [Act.put, z1, z2, z3]
        refine wpAnyH_take (i := 22) (oi := ⟨some 33, .fieldAddr 24 (.tmp 32) 2, 0, "base.go:206", #[⟨21, .data⟩, ⟨16, .guard⟩], some (16, false)⟩) (v := undef) rfl (by kernel_rfl) (by kernel_rfl) (by kernel_rfl) (fun _ _ _ h => h) (Or.inr ⟨by kernel_rfl, rfl⟩) hS ?_
        try simp only [Act.put, z1, z2, z3]
        refine wpAnyH_take (i := 23) (oi := ⟨some 34, .load 3 (.tmp 33), 3, "base.go:206", #[⟨22, .data⟩, ⟨16, .guard⟩], some (16, false)⟩) (v := undef) rfl (by kernel_rfl) (by kernel_rfl) (by kernel_rfl) (fun _ _ _ h => h) (Or.inr ⟨by kernel_rfl, rfl⟩) hS ?_
        try simp only [Act.put, z1, z2, z3]
        refine wpAnyH_take (i := 24) (oi := ⟨some 35, .move (.tmp 0), 50, "base.go:206", #[⟨16, .guard⟩], some (16, false)⟩) (v := undef) rfl (by kernel_rfl) (by kernel_rfl) (by kernel_rfl) (fun _ _ _ h => h) (Or.inr ⟨by kernel_rfl, rfl⟩) hS ?_
        try simp only [Act.put, z1, z2, z3]
        refine wpAnyH_take (i := 25) (oi := ⟨some 36, .move (.tmp 3), 3, "base.go:206", #[⟨16, .guard⟩], some (16, false)⟩) (v := undef) rfl (by kernel_rfl) (by kernel_rfl) (by kernel_rfl) (fun _ _ _ h => h) (Or.inr ⟨by kernel_rfl, rfl⟩) hS ?_
        try simp only [Act.put, z1, z2, z3]
        refine wpAnyH_take (i := 26) (oi := ⟨some 37, .call { callee := .value (.func 48), args := #[.tmp 35, .tmp 36], argTypes := #[50, 3] }, 3, "base.go:206", #[⟨24, .data⟩, ⟨25, .data⟩, ⟨16, .chain⟩, ⟨16, .guard⟩], some (16, false)⟩) (v := undef) rfl (by kernel_rfl) (by kernel_rfl) (by kernel_rfl) (fun _ _ _ h => h) (Or.inr ⟨by kernel_rfl, rfl⟩) hS ?_
        try simp only [Act.put, z1, z2, z3]
        refine wpAnyH_take (i := 27) (oi := ⟨some 38, .binOp .neq 3 (.tmp 34) (.tmp 37) 3, 4, "base.go:206", #[⟨23, .data⟩, ⟨26, .data⟩, ⟨16, .guard⟩], some (16, false)⟩) (v := undef) rfl (by kernel_rfl) (by kernel_rfl) (by kernel_rfl) (fun _ _ _ h => h) (Or.inr ⟨by kernel_rfl, rfl⟩) hS ?_
        try simp only [Act.put, z1, z2, z3]
        refine wpAnyH_take (i := 28) (oi := ⟨some 39, .pick (.tmp 27) (.const (.bool true)) (.tmp 38), 4, "base.go:206", #[⟨16, .data⟩, ⟨27, .data⟩, ⟨7, .guard⟩], some (7, true)⟩) (v := undef) rfl (by kernel_rfl) (by kernel_rfl) (by kernel_rfl) (fun _ _ _ h => h) (Or.inr ⟨by kernel_rfl, rfl⟩) hS ?_
        try simp only [Act.put, z1, z2, z3]
        refine tkP (i := 29) (oi := ⟨some 40, .pick (.tmp 18) (.tmp 39) (.const (.bool false)), 4, "base.go:206", #[⟨7, .data⟩, ⟨28, .data⟩], none⟩) (v := .bool false) hS ?_
        try simp only [Act.put, z1, z2, z3]
        refine wpAnyH_done (by kernel_rfl) ?_ _
        clear hS
        go_wp2_with fail
        go_roundw
        case rel => exact ⟨j + 1, by omega, by go_num, BD, hide fun n hn hln => by
          by_cases e : n = j
          · subst e; rw [unhide HL] at hln; cases hln
          · exact unhide HA n (by omega) hln⟩
        case measure => simp [intOf]; omega
      · have HL := hide hl
        clear hl
        by_cases h1 : m.links j < 1
        · have U1 := hide (show decide (m.links j < 1) = true by simpa using h1)
          clear h1
          go_wp2_with fail
          refine wp_region_held_drew (S := fun W' => HasAt W' g 0 m) (by kernel_rfl) (unhide HAT) (fun hS => ?_)
          refine tkP (i := 0) (oi := ⟨some 11, .move (.tmp 0), 50, "base.go:206", #[], none⟩) (v := .pointer (some ⟨g, 0, none⟩)) hS ?_
          try simp only [Act.put, z1, z2, z3]
          refine tkP (i := 1) (oi := ⟨some 12, .move (.tmp 3), 3, "base.go:206", #[], none⟩) (v := .int .i64 (j : Int)) hS ?_
          try simp only [Act.put, z1, z2, z3]
          refine tkP (i := 2) (oi := ⟨some 13, .nilCheck (.tmp 11), 0, "base.go:206", #[⟨0, .data⟩], none⟩) (v := .pointer (some ⟨g, 0, none⟩)) hS ?_
          try simp only [Act.put, z1, z2, z3]
          refine tkP (i := 3) (oi := ⟨some 14, .fieldAddr 34 (.tmp 13) 0, 0, "base.go:206", #[⟨2, .data⟩], none⟩) (v := .pointer (some ⟨g, 0, none⟩)) hS ?_
          try simp only [Act.put, z1, z2, z3]
          refine tkH (i := 4) (oi := ⟨some 15, .indexAddr 25 (.tmp 14) (.tmp 12), 0, "base.go:206", #[⟨3, .data⟩, ⟨1, .data⟩], none⟩) (v := .pointer (some ⟨g, j * 5, none⟩)) (fun W h => Op1.ix_ino (.tmp 14) (.tmp 12) (by kernel_rfl) (by kernel_rfl) (by kernel_rfl) (hlt) W) hS ?_
          try simp only [Act.put, z1, z2, z3]
          refine tkP (i := 5) (oi := ⟨some 16, .fieldAddr 24 (.tmp 15) 0, 0, "base.go:206", #[⟨4, .data⟩], none⟩) (v := .pointer (some ⟨g, j * 5, none⟩)) hS ?_
          try simp only [Act.put, z1, z2, z3]
          refine tkH (i := 6) (oi := ⟨some 17, .load 4 (.tmp 16), 4, "base.go:206", #[⟨5, .data⟩], none⟩) (v := .bool true) (fun W h => Op1.ld_boolF (.tmp 16) (by kernel_rfl) (by kernel_rfl) W (by have := h.live j hlt; rw [unhide HL, Nat.zero_add] at this; exact this)) hS ?_
          try simp only [Act.put, z1, z2, z3]
          refine tkP (i := 7) (oi := ⟨some 18, .move (.tmp 17), 4, "base.go:206", #[⟨6, .data⟩], none⟩) (v := .bool true) hS ?_
          try simp only [Act.put, z1, z2, z3]
          refine tkP (i := 8) (oi := ⟨some 19, .move (.tmp 0), 50, "base.go:206", #[⟨7, .guard⟩], some (7, true)⟩) (v := .pointer (some ⟨g, 0, none⟩)) hS ?_
          try simp only [Act.put, z1, z2, z3]
          refine tkP (i := 9) (oi := ⟨some 20, .move (.tmp 3), 3, "base.go:206", #[⟨7, .guard⟩], some (7, true)⟩) (v := .int .i64 (j : Int)) hS ?_
          try simp only [Act.put, z1, z2, z3]
          refine tkP (i := 10) (oi := ⟨some 21, .nilCheck (.tmp 19), 0, "base.go:206", #[⟨8, .data⟩, ⟨7, .guard⟩], some (7, true)⟩) (v := .pointer (some ⟨g, 0, none⟩)) hS ?_
          try simp only [Act.put, z1, z2, z3]
          refine tkP (i := 11) (oi := ⟨some 22, .fieldAddr 34 (.tmp 21) 0, 0, "base.go:206", #[⟨10, .data⟩, ⟨7, .guard⟩], some (7, true)⟩) (v := .pointer (some ⟨g, 0, none⟩)) hS ?_
          try simp only [Act.put, z1, z2, z3]
          refine tkH (i := 12) (oi := ⟨some 23, .indexAddr 25 (.tmp 22) (.tmp 20), 0, "base.go:206", #[⟨11, .data⟩, ⟨9, .data⟩, ⟨7, .guard⟩], some (7, true)⟩) (v := .pointer (some ⟨g, j * 5, none⟩)) (fun W h => Op1.ix_ino (.tmp 22) (.tmp 20) (by kernel_rfl) (by kernel_rfl) (by kernel_rfl) (hlt) W) hS ?_
          try simp only [Act.put, z1, z2, z3]
          refine tkP (i := 13) (oi := ⟨some 24, .fieldAddr 24 (.tmp 23) 2, 0, "base.go:206", #[⟨12, .data⟩, ⟨7, .guard⟩], some (7, true)⟩) (v := .pointer (some ⟨g, j * 5 + 2, none⟩)) hS ?_
          try simp only [Act.put, z1, z2, z3]
          refine tkH (i := 14) (oi := ⟨some 25, .load 3 (.tmp 24), 3, "base.go:206", #[⟨13, .data⟩, ⟨7, .guard⟩], some (7, true)⟩) (v := .int .i64 (m.links j)) (fun W h => Op1.ld_int (.tmp 24) (by kernel_rfl) (by kernel_rfl) W (by have := h.links j hlt; rw [Nat.zero_add] at this; exact this)) hS ?_
          try simp only [Act.put, z1, z2, z3]
          refine tkH (i := 15) (oi := ⟨some 26, .binOp .lss 3 (.tmp 25) (.const (.int .i64 1)) 3, 4, "base.go:206", #[⟨14, .data⟩, ⟨7, .guard⟩], some (7, true)⟩) (v := .bool true) (fun W h => (by rw [← unhide U1]; exact Op1.lss1 (.tmp 25) (by kernel_rfl) (by kernel_rfl) (by kernel_rfl) W)) hS ?_
          try simp only [Act.put, z1, z2, z3]
          refine tkP (i := 16) (oi := ⟨some 27, .move (.tmp 26), 4, "base.go:206", #[⟨15, .data⟩, ⟨7, .chain⟩, ⟨7, .guard⟩], some (7, true)⟩) (v := .bool true) hS ?_
          try simp only [Act.put, z1, z2, z3]
          refine wpAnyH_take (i := 17) (oi := ⟨some 28, .move (.tmp 0), 50, "base.go:206", #[⟨16, .guard⟩], some (16, false)⟩) (v := undef) rfl (by kernel_rfl) (by kernel_rfl) (by kernel_rfl) (fun _ _ _ h => h) (Or.inr ⟨by kernel_rfl, rfl⟩) hS ?_
          try simp only [Act.put, z1, z2, z3]
          refine wpAnyH_take (i := 18) (oi := ⟨some 29, .move (.tmp 3), 3, "base.go:206", #[⟨16, .guard⟩], some (16, false)⟩) (v := undef) rfl (by kernel_rfl) (by kernel_rfl) (by kernel_rfl) (fun _ _ _ h => h) (Or.inr ⟨by kernel_rfl, rfl⟩) hS ?_
          try simp only [Act.put, z1, z2, z3]
          refine wpAnyH_take (i := 19) (oi := ⟨some 30, .nilCheck (.tmp 28), 0, "base.go:206", #[⟨17, .data⟩, ⟨16, .guard⟩], some (16, false)⟩) (v := undef) rfl (by kernel_rfl) (by kernel_rfl) (by kernel_rfl) (fun _ _ _ h => h) (Or.inr ⟨by kernel_rfl, rfl⟩) hS ?_
          try simp only [Act.put, z1, z2, z3]
          refine wpAnyH_take (i := 20) (oi := ⟨some 31, .fieldAddr 34 (.tmp 30) 0, 0, "base.go:206", #[⟨19, .data⟩, ⟨16, .guard⟩], some (16, false)⟩) (v := undef) rfl (by kernel_rfl) (by kernel_rfl) (by kernel_rfl) (fun _ _ _ h => h) (Or.inr ⟨by kernel_rfl, rfl⟩) hS ?_
          try simp only [Act.put, z1, z2, z3]
          refine wpAnyH_take (i := 21) (oi := ⟨some 32, .indexAddr 25 (.tmp 31) (.tmp 29), 0, "base.go:206", #[⟨20, .data⟩, ⟨18, .data⟩, ⟨16, .guard⟩], some (16, false)⟩) (v := undef) rfl (by kernel_rfl) (by kernel_rfl) (by kernel_rfl) (fun _ _ _ h => h) (Or.inr ⟨by kernel_rfl, rfl⟩) hS ?_
          try simp only [Act.put, z1, z2, z3]
          refine wpAnyH_take (i := 22) (oi := ⟨some 33, .fieldAddr 24 (.tmp 32) 2, 0, "base.go:206", #[⟨21, .data⟩, ⟨16, .guard⟩], some (16, false)⟩) (v := undef) rfl (by kernel_rfl) (by kernel_rfl) (by kernel_rfl) (fun _ _ _ h => h) (Or.inr ⟨by kernel_rfl, rfl⟩) hS ?_
          try simp only [Act.put, z1, z2, z3]
          refine wpAnyH_take (i := 23) (oi := ⟨some 34, .load 3 (.tmp 33), 3, "base.go:206", #[⟨22, .data⟩, ⟨16, .guard⟩], some (16, false)⟩) (v := undef) rfl (by kernel_rfl) (by kernel_rfl) (by kernel_rfl) (fun _ _ _ h => h) (Or.inr ⟨by kernel_rfl, rfl⟩) hS ?_
          try simp only [Act.put, z1, z2, z3]
          refine wpAnyH_take (i := 24) (oi := ⟨some 35, .move (.tmp 0), 50, "base.go:206", #[⟨16, .guard⟩], some (16, false)⟩) (v := undef) rfl (by kernel_rfl) (by kernel_rfl) (by kernel_rfl) (fun _ _ _ h => h) (Or.inr ⟨by kernel_rfl, rfl⟩) hS ?_
          try simp only [Act.put, z1, z2, z3]
          refine wpAnyH_take (i := 25) (oi := ⟨some 36, .move (.tmp 3), 3, "base.go:206", #[⟨16, .guard⟩], some (16, false)⟩) (v := undef) rfl (by kernel_rfl) (by kernel_rfl) (by kernel_rfl) (fun _ _ _ h => h) (Or.inr ⟨by kernel_rfl, rfl⟩) hS ?_
          try simp only [Act.put, z1, z2, z3]
          refine wpAnyH_take (i := 26) (oi := ⟨some 37, .call { callee := .value (.func 48), args := #[.tmp 35, .tmp 36], argTypes := #[50, 3] }, 3, "base.go:206", #[⟨24, .data⟩, ⟨25, .data⟩, ⟨16, .chain⟩, ⟨16, .guard⟩], some (16, false)⟩) (v := undef) rfl (by kernel_rfl) (by kernel_rfl) (by kernel_rfl) (fun _ _ _ h => h) (Or.inr ⟨by kernel_rfl, rfl⟩) hS ?_
          try simp only [Act.put, z1, z2, z3]
          refine wpAnyH_take (i := 27) (oi := ⟨some 38, .binOp .neq 3 (.tmp 34) (.tmp 37) 3, 4, "base.go:206", #[⟨23, .data⟩, ⟨26, .data⟩, ⟨16, .guard⟩], some (16, false)⟩) (v := undef) rfl (by kernel_rfl) (by kernel_rfl) (by kernel_rfl) (fun _ _ _ h => h) (Or.inr ⟨by kernel_rfl, rfl⟩) hS ?_
          try simp only [Act.put, z1, z2, z3]
          refine tkP (i := 28) (oi := ⟨some 39, .pick (.tmp 27) (.const (.bool true)) (.tmp 38), 4, "base.go:206", #[⟨16, .data⟩, ⟨27, .data⟩, ⟨7, .guard⟩], some (7, true)⟩) (v := .bool true) hS ?_
          try simp only [Act.put, z1, z2, z3]
          refine tkP (i := 29) (oi := ⟨some 40, .pick (.tmp 18) (.tmp 39) (.const (.bool false)), 4, "base.go:206", #[⟨7, .data⟩, ⟨28, .data⟩], none⟩) (v := .bool true) hS ?_
          try simp only [Act.put, z1, z2, z3]
          refine wpAnyH_done (by kernel_rfl) ?_ _
          clear hS
          go_wp2_with fail
          go_ret
          exact ⟨⟨_, rfl, fun z => by cases z⟩, unhide BD⟩
        · have U1 := hide (show decide (m.links j < 1) = false by simpa using h1)
          have H1 := hide h1
          clear h1
          go_wp2_with fail
          refine wp_region_held_drew (S := fun W' => HasAt W' g 0 m) (by kernel_rfl) (unhide HAT) (fun hS => ?_)
          refine tkP (i := 0) (oi := ⟨some 11, .move (.tmp 0), 50, "base.go:206", #[], none⟩) (v := .pointer (some ⟨g, 0, none⟩)) hS ?_
          try simp only [Act.put, z1, z2, z3]
          refine tkP (i := 1) (oi := ⟨some 12, .move (.tmp 3), 3, "base.go:206", #[], none⟩) (v := .int .i64 (j : Int)) hS ?_
          try simp only [Act.put, z1, z2, z3]
          refine tkP (i := 2) (oi := ⟨some 13, .nilCheck (.tmp 11), 0, "base.go:206", #[⟨0, .data⟩], none⟩) (v := .pointer (some ⟨g, 0, none⟩)) hS ?_
          try simp only [Act.put, z1, z2, z3]
          refine tkP (i := 3) (oi := ⟨some 14, .fieldAddr 34 (.tmp 13) 0, 0, "base.go:206", #[⟨2, .data⟩], none⟩) (v := .pointer (some ⟨g, 0, none⟩)) hS ?_
          try simp only [Act.put, z1, z2, z3]
          refine tkH (i := 4) (oi := ⟨some 15, .indexAddr 25 (.tmp 14) (.tmp 12), 0, "base.go:206", #[⟨3, .data⟩, ⟨1, .data⟩], none⟩) (v := .pointer (some ⟨g, j * 5, none⟩)) (fun W h => Op1.ix_ino (.tmp 14) (.tmp 12) (by kernel_rfl) (by kernel_rfl) (by kernel_rfl) (hlt) W) hS ?_
          try simp only [Act.put, z1, z2, z3]
          refine tkP (i := 5) (oi := ⟨some 16, .fieldAddr 24 (.tmp 15) 0, 0, "base.go:206", #[⟨4, .data⟩], none⟩) (v := .pointer (some ⟨g, j * 5, none⟩)) hS ?_
          try simp only [Act.put, z1, z2, z3]
          refine tkH (i := 6) (oi := ⟨some 17, .load 4 (.tmp 16), 4, "base.go:206", #[⟨5, .data⟩], none⟩) (v := .bool true) (fun W h => Op1.ld_boolF (.tmp 16) (by kernel_rfl) (by kernel_rfl) W (by have := h.live j hlt; rw [unhide HL, Nat.zero_add] at this; exact this)) hS ?_
          try simp only [Act.put, z1, z2, z3]
          refine tkP (i := 7) (oi := ⟨some 18, .move (.tmp 17), 4, "base.go:206", #[⟨6, .data⟩], none⟩) (v := .bool true) hS ?_
          try simp only [Act.put, z1, z2, z3]
          refine tkP (i := 8) (oi := ⟨some 19, .move (.tmp 0), 50, "base.go:206", #[⟨7, .guard⟩], some (7, true)⟩) (v := .pointer (some ⟨g, 0, none⟩)) hS ?_
          try simp only [Act.put, z1, z2, z3]
          refine tkP (i := 9) (oi := ⟨some 20, .move (.tmp 3), 3, "base.go:206", #[⟨7, .guard⟩], some (7, true)⟩) (v := .int .i64 (j : Int)) hS ?_
          try simp only [Act.put, z1, z2, z3]
          refine tkP (i := 10) (oi := ⟨some 21, .nilCheck (.tmp 19), 0, "base.go:206", #[⟨8, .data⟩, ⟨7, .guard⟩], some (7, true)⟩) (v := .pointer (some ⟨g, 0, none⟩)) hS ?_
          try simp only [Act.put, z1, z2, z3]
          refine tkP (i := 11) (oi := ⟨some 22, .fieldAddr 34 (.tmp 21) 0, 0, "base.go:206", #[⟨10, .data⟩, ⟨7, .guard⟩], some (7, true)⟩) (v := .pointer (some ⟨g, 0, none⟩)) hS ?_
          try simp only [Act.put, z1, z2, z3]
          refine tkH (i := 12) (oi := ⟨some 23, .indexAddr 25 (.tmp 22) (.tmp 20), 0, "base.go:206", #[⟨11, .data⟩, ⟨9, .data⟩, ⟨7, .guard⟩], some (7, true)⟩) (v := .pointer (some ⟨g, j * 5, none⟩)) (fun W h => Op1.ix_ino (.tmp 22) (.tmp 20) (by kernel_rfl) (by kernel_rfl) (by kernel_rfl) (hlt) W) hS ?_
          try simp only [Act.put, z1, z2, z3]
          refine tkP (i := 13) (oi := ⟨some 24, .fieldAddr 24 (.tmp 23) 2, 0, "base.go:206", #[⟨12, .data⟩, ⟨7, .guard⟩], some (7, true)⟩) (v := .pointer (some ⟨g, j * 5 + 2, none⟩)) hS ?_
          try simp only [Act.put, z1, z2, z3]
          refine tkH (i := 14) (oi := ⟨some 25, .load 3 (.tmp 24), 3, "base.go:206", #[⟨13, .data⟩, ⟨7, .guard⟩], some (7, true)⟩) (v := .int .i64 (m.links j)) (fun W h => Op1.ld_int (.tmp 24) (by kernel_rfl) (by kernel_rfl) W (by have := h.links j hlt; rw [Nat.zero_add] at this; exact this)) hS ?_
          try simp only [Act.put, z1, z2, z3]
          refine tkH (i := 15) (oi := ⟨some 26, .binOp .lss 3 (.tmp 25) (.const (.int .i64 1)) 3, 4, "base.go:206", #[⟨14, .data⟩, ⟨7, .guard⟩], some (7, true)⟩) (v := .bool false) (fun W h => (by rw [← unhide U1]; exact Op1.lss1 (.tmp 25) (by kernel_rfl) (by kernel_rfl) (by kernel_rfl) W)) hS ?_
          try simp only [Act.put, z1, z2, z3]
          refine tkP (i := 16) (oi := ⟨some 27, .move (.tmp 26), 4, "base.go:206", #[⟨15, .data⟩, ⟨7, .chain⟩, ⟨7, .guard⟩], some (7, true)⟩) (v := .bool false) hS ?_
          try simp only [Act.put, z1, z2, z3]
          refine tkP (i := 17) (oi := ⟨some 28, .move (.tmp 0), 50, "base.go:206", #[⟨16, .guard⟩], some (16, false)⟩) (v := .pointer (some ⟨g, 0, none⟩)) hS ?_
          try simp only [Act.put, z1, z2, z3]
          refine tkP (i := 18) (oi := ⟨some 29, .move (.tmp 3), 3, "base.go:206", #[⟨16, .guard⟩], some (16, false)⟩) (v := .int .i64 (j : Int)) hS ?_
          try simp only [Act.put, z1, z2, z3]
          refine tkP (i := 19) (oi := ⟨some 30, .nilCheck (.tmp 28), 0, "base.go:206", #[⟨17, .data⟩, ⟨16, .guard⟩], some (16, false)⟩) (v := .pointer (some ⟨g, 0, none⟩)) hS ?_
          try simp only [Act.put, z1, z2, z3]
          refine tkP (i := 20) (oi := ⟨some 31, .fieldAddr 34 (.tmp 30) 0, 0, "base.go:206", #[⟨19, .data⟩, ⟨16, .guard⟩], some (16, false)⟩) (v := .pointer (some ⟨g, 0, none⟩)) hS ?_
          try simp only [Act.put, z1, z2, z3]
          refine tkH (i := 21) (oi := ⟨some 32, .indexAddr 25 (.tmp 31) (.tmp 29), 0, "base.go:206", #[⟨20, .data⟩, ⟨18, .data⟩, ⟨16, .guard⟩], some (16, false)⟩) (v := .pointer (some ⟨g, j * 5, none⟩)) (fun W h => Op1.ix_ino (.tmp 31) (.tmp 29) (by kernel_rfl) (by kernel_rfl) (by kernel_rfl) (hlt) W) hS ?_
          try simp only [Act.put, z1, z2, z3]
          refine tkP (i := 22) (oi := ⟨some 33, .fieldAddr 24 (.tmp 32) 2, 0, "base.go:206", #[⟨21, .data⟩, ⟨16, .guard⟩], some (16, false)⟩) (v := .pointer (some ⟨g, j * 5 + 2, none⟩)) hS ?_
          try simp only [Act.put, z1, z2, z3]
          refine tkH (i := 23) (oi := ⟨some 34, .load 3 (.tmp 33), 3, "base.go:206", #[⟨22, .data⟩, ⟨16, .guard⟩], some (16, false)⟩) (v := .int .i64 (m.links j)) (fun W h => Op1.ld_int (.tmp 33) (by kernel_rfl) (by kernel_rfl) W (by have := h.links j hlt; rw [Nat.zero_add] at this; exact this)) hS ?_
          try simp only [Act.put, z1, z2, z3]
          refine tkP (i := 24) (oi := ⟨some 35, .move (.tmp 0), 50, "base.go:206", #[⟨16, .guard⟩], some (16, false)⟩) (v := .pointer (some ⟨g, 0, none⟩)) hS ?_
          try simp only [Act.put, z1, z2, z3]
          refine tkP (i := 25) (oi := ⟨some 36, .move (.tmp 3), 3, "base.go:206", #[⟨16, .guard⟩], some (16, false)⟩) (v := .int .i64 (j : Int)) hS ?_
          try simp only [Act.put, z1, z2, z3]
          generalize World.drew _ = W0 at hS BD HAT ⊢
          refine wpAnyH_ready (rs := [26]) (by kernel_rfl) (by simp) ?_
          refine AllReadyH.cons (o := ⟨some 37, .call { callee := .value (.func 48), args := #[.tmp 35, .tmp 36], argTypes := #[50, 3] }, 3, "base.go:206", #[⟨24, .data⟩, ⟨25, .data⟩, ⟨16, .chain⟩, ⟨16, .guard⟩], some (16, false)⟩) rfl (fun K hK => ?_) AllReadyH.nil
          rw [if_pos (by kernel_rfl)]
          go_simp
          refine (At.rLeads_any g m (j : Int) W0 hS).mono ?_
          rintro e wq ⟨rfl, e9⟩
          rw [e9]
          clear e9 wq
          go_wp2_with fail
          refine hK.out _ _ (hS) (fun hS2 => ?_)
          clear hK K
          try simp only [Act.put, z1, z2, z3]
          refine tkH (i := 27) (oi := ⟨some 38, .binOp .neq 3 (.tmp 34) (.tmp 37) 3, 4, "base.go:206", #[⟨23, .data⟩, ⟨26, .data⟩, ⟨16, .guard⟩], some (16, false)⟩) (v := .bool (m.links j != (m.refs (j : Int) : Int))) (fun W h => Op1.neqI (.tmp 34) (.tmp 37) (by kernel_rfl) (by kernel_rfl) (by kernel_rfl) W) hS2 ?_
          try simp only [Act.put, z1, z2, z3]
          refine tkP (i := 28) (oi := ⟨some 39, .pick (.tmp 27) (.const (.bool true)) (.tmp 38), 4, "base.go:206", #[⟨16, .data⟩, ⟨27, .data⟩, ⟨7, .guard⟩], some (7, true)⟩) (v := .bool (m.links j != (m.refs (j : Int) : Int))) hS2 ?_
          try simp only [Act.put, z1, z2, z3]
          refine tkP (i := 29) (oi := ⟨some 40, .pick (.tmp 18) (.tmp 39) (.const (.bool false)), 4, "base.go:206", #[⟨7, .data⟩, ⟨28, .data⟩], none⟩) (v := .bool (m.links j != (m.refs (j : Int) : Int))) hS2 ?_
          try simp only [Act.put, z1, z2, z3]
          refine wpAnyH_done (by kernel_rfl) ?_ _
          clear hS hS2
          cases hv : (m.links j != (m.refs (j : Int) : Int))
          · have HV := hide (show m.links j = (m.refs (j : Int) : Int) by simpa using hv)
            clear hv
            go_wp2_with fail
            go_roundw
            case rel => exact ⟨j + 1, by omega, by go_num, BD, hide fun n hn hln => by
              by_cases e : n = j
              · subst e; exact ⟨unhide HV, by have := unhide H1; omega⟩
              · exact unhide HA n (by omega) hln⟩
            case measure => simp [intOf]; omega
          · clear hv
            go_wp2_with fail
            go_ret
            exact ⟨⟨_, rfl, fun z => by cases z⟩, unhide BD⟩
  · have HC := hide hc
    clear hc hm HB
    go_enter Tryz.func16, Tryz.ntmps16
    go_wp2_with fail
    refine (unhide C1).mono ?_
    rintro e w1 ⟨⟨c0, rfl, hc0⟩, b1⟩
    have B1 := hide b1
    have u1 : (c0 != 0) = true := by simpa using fun z => unhide HC (hc0.1 z)
    clear b1 C1 hc0
    go_wp2_with fail
    go_ret
    exact ⟨⟨_, rfl, fun z => by cases z⟩, unhide B1⟩
end Go.Proofs.YtmbpckmpnnmnmabGreat
