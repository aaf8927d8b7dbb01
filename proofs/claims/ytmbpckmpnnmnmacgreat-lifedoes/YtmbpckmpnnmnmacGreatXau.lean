/-
  The walk of (*soft.Files).put. (Written by gendp.py.)
-/
import Derived.Test.YtmbpckmpnnmnmacGreatZz
import Derived.Test.YtmbpckmpnnmnmacGreatXat
namespace Go.Proofs.YtmbpckmpnnmnmacGreat
open Go.RowKit
open Idl (Stp chk stpA)
section
variable {w w0 w1 : World} {bf bc : Nat} {cs ds rows : Array Value} {m k : Img} {last : Int}
set_option maxHeartbeats 2000000 in
set_option maxRecDepth 100000 in
theorem sput_any (h : Fl w bf bc cs ds m k last) {n q x : Nat} (hn : n < 8) (hq : q < 2) (hx : x < 9) (text : ByteArray) (ht : text.size ≤ maxLen) (hc : (m.part n q < 0 ∧ Img.freeData m k = (x : Int)) ∨ m.part n q = (x : Int)) :
    Calls Tryz.prog 70 #[.pointer (some ⟨bf, 0, none⟩), .int .i64 (n : Int), .int .i64 (q : Int), .string text] w fun e w' => e = .returned (.tuple #[]) ∧ Fd w w' bf bc ds (Img.putPart m k n q text) last := by
  have nz : (n : Int) < 8 := by omega
  have qz : (q : Int) < 2 := by omega
  have HM := hide h.now
  have FM0 := hide h.fm
  have p0 := h.ptr
  have l0 := h.flt
  have l1 := h.clt
  have c0 : w.cell? ⟨bc, n * 5 + 3 + q, none⟩ = some (.int .i64 (m.part n q)) := by
    have := h.hasNow.part n q hn hq
    rw [Nat.zero_add] at this; exact this
  rcases hc with ⟨hneg, he⟩ | hpos
  · have e1 : Img.putPart m k n q text = (m.setPart n q (x : Int)).putData x ((m.setPart n q (x : Int)).stamp n) text := by
      unfold Img.putPart
      simp only [if_pos hneg, he]
      rw [Img.setPart_at hq, Int.toNat_natCast]
    have FIN := hide e1
    have C1 := hide fun W (h1 : W.heap[bc]? = some (.cells (cs ++ ds) 57)) => cData_any bc cs ds m k h.now h.disk W h1
    rw [he] at C1
    have u1 : decide (m.part n q < 0) = true := by simpa using hneg
    generalize Img.putPart m k n q text = mf at FIN ⊢
    have HSA := hide (Img.setPart_at (now := m) (n := n) hq (x : Int))
    generalize m.part n q = pt at c0 u1
    clear h he e1 hneg
    go_enter Tryz.func70, Tryz.ntmps70
    go_wp2_with fail
    have FM1 := hide ((unhide FM0).call (Below.refl _ _).drew)
    clear FM0 p0 l0 l1 nz qz c0
    refine wp_region_F (S := PS2 bf bc m) 10 (by kernel_rfl) (PS2.of (unhide FM1) (unhide HM)) (fun hS => ?_)
    refine wpAnyF_take (i := 0) (oi := ⟨some 25, .move (.tmp 8), 100, "soft.go:183", #[], none⟩) (v := .pointer (some ⟨bc, n * 5, none⟩)) rfl (by kernel_rfl) (by kernel_rfl) (by kernel_rfl) (by kernel_rfl) (fun _ _ _ h => h) (Or.inl ⟨by kernel_rfl, fun W h => (by first | kernel_rfl | go_simp)⟩) hS ?_
    try simp only [Act.put, z1, z2, z3]
    refine wpAnyF_take (i := 1) (oi := ⟨some 26, .move (.tmp 2), 3, "soft.go:183", #[], none⟩) (v := .int .i64 (q : Int)) rfl (by kernel_rfl) (by kernel_rfl) (by kernel_rfl) (by kernel_rfl) (fun _ _ _ h => h) (Or.inl ⟨by kernel_rfl, fun W h => (by first | kernel_rfl | go_simp)⟩) hS ?_
    try simp only [Act.put, z1, z2, z3]
    refine wpAnyF_take (i := 2) (oi := ⟨some 27, .move (.tmp 0), 46, "soft.go:183", #[], none⟩) (v := .pointer (some ⟨bf, 0, none⟩)) rfl (by kernel_rfl) (by kernel_rfl) (by kernel_rfl) (by kernel_rfl) (fun _ _ _ h => h) (Or.inl ⟨by kernel_rfl, fun W h => (by first | kernel_rfl | go_simp)⟩) hS ?_
    try simp only [Act.put, z1, z2, z3]
    refine wpAnyF_take (i := 3) (oi := ⟨some 28, .nilCheck (.tmp 27), 0, "soft.go:183", #[⟨2, .data⟩], none⟩) (v := .pointer (some ⟨bf, 0, none⟩)) rfl (by kernel_rfl) (by kernel_rfl) (by kernel_rfl) (by kernel_rfl) (fun _ _ _ h => h) (Or.inl ⟨by kernel_rfl, fun W h => (by first | kernel_rfl | go_simp)⟩) hS ?_
    try simp only [Act.put, z1, z2, z3]
    refine wpAnyF_take (i := 4) (oi := ⟨some 29, .fieldAddr 53 (.tmp 28) 0, 0, "soft.go:183", #[⟨3, .data⟩], none⟩) (v := .pointer (some ⟨bf, 0, none⟩)) rfl (by kernel_rfl) (by kernel_rfl) (by kernel_rfl) (by kernel_rfl) (fun _ _ _ h => h) (Or.inl ⟨by kernel_rfl, fun W h => (by first | kernel_rfl | go_simp)⟩) hS ?_
    try simp only [Act.put, z1, z2, z3]
    refine wpAnyF_take (i := 5) (oi := ⟨some 30, .load 51 (.tmp 29), 51, "soft.go:183", #[⟨4, .data⟩], none⟩) (v := .pointer (some ⟨bc, 0, none⟩)) rfl (by kernel_rfl) (by kernel_rfl) (by kernel_rfl) (by kernel_rfl) (fun _ _ _ h => h) (Or.inl ⟨by kernel_rfl, fun W h => Op1.ld_ptr (.tmp 29) (by kernel_rfl) (by kernel_rfl) W (h.1)⟩) hS ?_
    try simp only [Act.put, z1, z2, z3]
    refine wpAnyF_free (i := 7) (oi := ⟨some 32, .nilCheck (.tmp 25), 0, "soft.go:183", #[⟨0, .data⟩], none⟩) (v := .pointer (some ⟨bc, n * 5, none⟩)) rfl (by kernel_rfl) (by kernel_rfl) (by kernel_rfl) (by kernel_rfl) (fun _ _ _ h => h) (Or.inl ⟨by kernel_rfl, fun W _ => (by first | kernel_rfl | go_simp)⟩) hS ?_
    try simp only [Act.put, z1, z2, z3]
    refine wpAnyF_free (i := 8) (oi := ⟨some 33, .fieldAddr 34 (.tmp 32) 3, 0, "soft.go:183", #[⟨7, .data⟩], none⟩) (v := .pointer (some ⟨bc, n * 5 + 3, none⟩)) rfl (by kernel_rfl) (by kernel_rfl) (by kernel_rfl) (by kernel_rfl) (fun _ _ _ h => h) (Or.inl ⟨by kernel_rfl, fun W _ => (by first | kernel_rfl | go_simp)⟩) hS ?_
    try simp only [Act.put, z1, z2, z3]
    generalize World.drew _ = W0 at hS FM1 ⊢
    refine wpAnyF_one (i := 6) (o := ⟨some 31, .call { callee := .value (.func 100), args := #[.tmp 30], argTypes := #[51] }, 3, "soft.go:183", #[⟨5, .data⟩], none⟩) (by kernel_rfl) rfl (by kernel_rfl) (fun K hK => ?_)
    go_simp
    refine (unhide C1 W0 (unhide FM1).row).mono ?_
    rintro e w1 ⟨rfl, b1⟩
    have FM2 := hide ((unhide FM1).call b1)
    clear b1
    go_wp2_with fail
    have hS1 := PS2.of (unhide FM2) (unhide HM)
    refine hK.out _ _ (fun _ => hS1) ?_
    clear hK K
    try simp only [Act.put, z1, z2, z3]
    refine wpAnyF_take (i := 9) (oi := ⟨some 34, .indexAddr 32 (.tmp 33) (.tmp 26), 0, "soft.go:183", #[⟨8, .data⟩, ⟨1, .data⟩, ⟨0, .phase⟩, ⟨1, .phase⟩, ⟨2, .phase⟩, ⟨3, .phase⟩, ⟨4, .phase⟩, ⟨5, .phase⟩, ⟨6, .phase⟩], none⟩) (v := .pointer (some ⟨bc, n * 5 + 3 + q, none⟩)) rfl (by kernel_rfl) (by kernel_rfl) (by kernel_rfl) (by kernel_rfl) (fun _ _ _ h => h) (Or.inl ⟨by kernel_rfl, fun W h => Op1.ix_part (.tmp 33) (.tmp 26) (by kernel_rfl) (by kernel_rfl) (by kernel_rfl) (hq) W⟩) hS1 ?_
    try simp only [Act.put, z1, z2, z3]
    refine wpAnyF_last (o := ⟨none, .store 3 (.tmp 34) (.tmp 31), 0, "soft.go:183", #[⟨9, .data⟩, ⟨6, .data⟩, ⟨6, .chain⟩, ⟨0, .phase⟩, ⟨1, .phase⟩, ⟨2, .phase⟩, ⟨3, .phase⟩, ⟨4, .phase⟩, ⟨5, .phase⟩, ⟨6, .phase⟩], none⟩) (by kernel_rfl) rfl (by kernel_rfl) (by kernel_rfl) (fun K hK => ?_)
    refine Op1.st_int (v := (x : Int)) (.tmp 34) (.tmp 31) (by kernel_rfl) rfl (by kernel_rfl) (by kernel_rfl) (by have := hS1.2.part n q hn hq; rw [Nat.zero_add] at this; exact this) ((unhide FM2).frozen _) ?_
    refine hK.out _ _ ?_
    clear hK K
    try simp only [Act.put, z1, z2, z3]
    refine wpAnyF_done (by kernel_rfl) ?_ _
    obtain ⟨cs2, f4, hm4⟩ := Fd.part (unhide FM2) (unhide HM) hn hq (x : Int)
    have FM4 := hide f4
    have HM4 := hide hm4
    clear f4 hm4 hS hS1 FM1 FM2 HM C1
    generalize w1.setCell ⟨bc, n * 5 + 3 + q, none⟩ (.int .i64 (x : Int)) = W3 at FM4 ⊢
    generalize m.setPart n q (x : Int) = m1 at HM4 FIN HSA
    have HPX := HSA
    go_wp2_with fail
    have FM5 := hide ((unhide FM4).call (Below.refl _ _).drew)
    clear FM4
    refine wp_region_F (S := PS2 bf bc m1) 20 (by kernel_rfl) (PS2.of (unhide FM5) (unhide HM4)) (fun hS => ?_)
    refine wpAnyF_take (i := 0) (oi := ⟨some 35, .move (.tmp 0), 46, "soft.go:185", #[], none⟩) (v := .pointer (some ⟨bf, 0, none⟩)) rfl (by kernel_rfl) (by kernel_rfl) (by kernel_rfl) (by kernel_rfl) (fun _ _ _ h => h) (Or.inl ⟨by kernel_rfl, fun W h => (by first | kernel_rfl | go_simp)⟩) hS ?_
    try simp only [Act.put, z1, z2, z3]
    refine wpAnyF_take (i := 1) (oi := ⟨some 36, .nilCheck (.tmp 35), 0, "soft.go:185", #[⟨0, .data⟩], none⟩) (v := .pointer (some ⟨bf, 0, none⟩)) rfl (by kernel_rfl) (by kernel_rfl) (by kernel_rfl) (by kernel_rfl) (fun _ _ _ h => h) (Or.inl ⟨by kernel_rfl, fun W h => (by first | kernel_rfl | go_simp)⟩) hS ?_
    try simp only [Act.put, z1, z2, z3]
    refine wpAnyF_take (i := 2) (oi := ⟨some 37, .fieldAddr 53 (.tmp 36) 0, 0, "soft.go:185", #[⟨1, .data⟩], none⟩) (v := .pointer (some ⟨bf, 0, none⟩)) rfl (by kernel_rfl) (by kernel_rfl) (by kernel_rfl) (by kernel_rfl) (fun _ _ _ h => h) (Or.inl ⟨by kernel_rfl, fun W h => (by first | kernel_rfl | go_simp)⟩) hS ?_
    try simp only [Act.put, z1, z2, z3]
    refine wpAnyF_take (i := 3) (oi := ⟨some 38, .load 51 (.tmp 37), 51, "soft.go:185", #[⟨2, .data⟩], none⟩) (v := .pointer (some ⟨bc, 0, none⟩)) rfl (by kernel_rfl) (by kernel_rfl) (by kernel_rfl) (by kernel_rfl) (fun _ _ _ h => h) (Or.inl ⟨by kernel_rfl, fun W h => Op1.ld_ptr (.tmp 37) (by kernel_rfl) (by kernel_rfl) W (h.1)⟩) hS ?_
    try simp only [Act.put, z1, z2, z3]
    refine wpAnyF_take (i := 4) (oi := ⟨some 39, .move (.tmp 8), 100, "soft.go:185", #[], none⟩) (v := .pointer (some ⟨bc, n * 5, none⟩)) rfl (by kernel_rfl) (by kernel_rfl) (by kernel_rfl) (by kernel_rfl) (fun _ _ _ h => h) (Or.inl ⟨by kernel_rfl, fun W h => (by first | kernel_rfl | go_simp)⟩) hS ?_
    try simp only [Act.put, z1, z2, z3]
    refine wpAnyF_take (i := 5) (oi := ⟨some 40, .move (.tmp 2), 3, "soft.go:185", #[], none⟩) (v := .int .i64 (q : Int)) rfl (by kernel_rfl) (by kernel_rfl) (by kernel_rfl) (by kernel_rfl) (fun _ _ _ h => h) (Or.inl ⟨by kernel_rfl, fun W h => (by first | kernel_rfl | go_simp)⟩) hS ?_
    try simp only [Act.put, z1, z2, z3]
    refine wpAnyF_take (i := 6) (oi := ⟨some 41, .nilCheck (.tmp 39), 0, "soft.go:185", #[⟨4, .data⟩], none⟩) (v := .pointer (some ⟨bc, n * 5, none⟩)) rfl (by kernel_rfl) (by kernel_rfl) (by kernel_rfl) (by kernel_rfl) (fun _ _ _ h => h) (Or.inl ⟨by kernel_rfl, fun W h => (by first | kernel_rfl | go_simp)⟩) hS ?_
    try simp only [Act.put, z1, z2, z3]
    refine wpAnyF_take (i := 7) (oi := ⟨some 42, .fieldAddr 34 (.tmp 41) 3, 0, "soft.go:185", #[⟨6, .data⟩], none⟩) (v := .pointer (some ⟨bc, n * 5 + 3, none⟩)) rfl (by kernel_rfl) (by kernel_rfl) (by kernel_rfl) (by kernel_rfl) (fun _ _ _ h => h) (Or.inl ⟨by kernel_rfl, fun W h => (by first | kernel_rfl | go_simp)⟩) hS ?_
    try simp only [Act.put, z1, z2, z3]
    refine wpAnyF_take (i := 8) (oi := ⟨some 43, .indexAddr 32 (.tmp 42) (.tmp 40), 0, "soft.go:185", #[⟨7, .data⟩, ⟨5, .data⟩], none⟩) (v := .pointer (some ⟨bc, n * 5 + 3 + q, none⟩)) rfl (by kernel_rfl) (by kernel_rfl) (by kernel_rfl) (by kernel_rfl) (fun _ _ _ h => h) (Or.inl ⟨by kernel_rfl, fun W h => Op1.ix_part (.tmp 42) (.tmp 40) (by kernel_rfl) (by kernel_rfl) (by kernel_rfl) (hq) W⟩) hS ?_
    try simp only [Act.put, z1, z2, z3]
    refine wpAnyF_take (i := 9) (oi := ⟨some 44, .load 3 (.tmp 43), 3, "soft.go:185", #[⟨8, .data⟩], none⟩) (v := .int .i64 (x : Int)) rfl (by kernel_rfl) (by kernel_rfl) (by kernel_rfl) (by kernel_rfl) (fun _ _ _ h => h) (Or.inl ⟨by kernel_rfl, fun W h => Op1.ld_int (.tmp 43) (by kernel_rfl) (by kernel_rfl) W (by have := h.2.part n q hn hq; rw [Nat.zero_add, unhide HPX] at this; exact this)⟩) hS ?_
    try simp only [Act.put, z1, z2, z3]
    refine wpAnyF_take (i := 10) (oi := ⟨some 45, .move (.tmp 8), 100, "soft.go:185", #[], none⟩) (v := .pointer (some ⟨bc, n * 5, none⟩)) rfl (by kernel_rfl) (by kernel_rfl) (by kernel_rfl) (by kernel_rfl) (fun _ _ _ h => h) (Or.inl ⟨by kernel_rfl, fun W h => (by first | kernel_rfl | go_simp)⟩) hS ?_
    try simp only [Act.put, z1, z2, z3]
    refine wpAnyF_take (i := 11) (oi := ⟨some 46, .nilCheck (.tmp 45), 0, "soft.go:185", #[⟨10, .data⟩], none⟩) (v := .pointer (some ⟨bc, n * 5, none⟩)) rfl (by kernel_rfl) (by kernel_rfl) (by kernel_rfl) (by kernel_rfl) (fun _ _ _ h => h) (Or.inl ⟨by kernel_rfl, fun W h => (by first | kernel_rfl | go_simp)⟩) hS ?_
    try simp only [Act.put, z1, z2, z3]
    refine wpAnyF_take (i := 12) (oi := ⟨some 47, .fieldAddr 34 (.tmp 46) 1, 0, "soft.go:185", #[⟨11, .data⟩], none⟩) (v := .pointer (some ⟨bc, n * 5 + 1, none⟩)) rfl (by kernel_rfl) (by kernel_rfl) (by kernel_rfl) (by kernel_rfl) (fun _ _ _ h => h) (Or.inl ⟨by kernel_rfl, fun W h => (by first | kernel_rfl | go_simp)⟩) hS ?_
    try simp only [Act.put, z1, z2, z3]
    refine wpAnyF_take (i := 13) (oi := ⟨some 48, .load 3 (.tmp 47), 3, "soft.go:185", #[⟨12, .data⟩], none⟩) (v := .int .i64 (m1.stamp n)) rfl (by kernel_rfl) (by kernel_rfl) (by kernel_rfl) (by kernel_rfl) (fun _ _ _ h => h) (Or.inl ⟨by kernel_rfl, fun W h => Op1.ld_int (.tmp 47) (by kernel_rfl) (by kernel_rfl) W (by have := h.2.stamp n hn; rw [Nat.zero_add] at this; exact this)⟩) hS ?_
    try simp only [Act.put, z1, z2, z3]
    refine wpAnyF_take (i := 14) (oi := ⟨some 49, .move (.tmp 3), 9, "soft.go:185", #[], none⟩) (v := .string text) rfl (by kernel_rfl) (by kernel_rfl) (by kernel_rfl) (by kernel_rfl) (fun _ _ _ h => h) (Or.inl ⟨by kernel_rfl, fun W h => (by first | kernel_rfl | go_simp)⟩) hS ?_
    try simp only [Act.put, z1, z2, z3]
    refine wpAnyF_take (i := 15) (oi := ⟨some 50, .build 41 #[(0, .tmp 48), (1, .tmp 49)], 41, "soft.go:185", #[⟨13, .data⟩, ⟨14, .data⟩], none⟩) (v := .agg #[.int .i64 (m1.stamp n), .string text]) rfl (by kernel_rfl) (by kernel_rfl) (by kernel_rfl) (by kernel_rfl) (fun _ _ _ h => h) (Or.inl ⟨by kernel_rfl, fun W h => (by first | kernel_rfl | go_simp)⟩) hS ?_
    try simp only [Act.put, z1, z2, z3]
    refine wpAnyF_free (i := 16) (oi := ⟨some 51, .nilCheck (.tmp 38), 0, "soft.go:185", #[⟨3, .data⟩], none⟩) (v := .pointer (some ⟨bc, 0, none⟩)) rfl (by kernel_rfl) (by kernel_rfl) (by kernel_rfl) (by kernel_rfl) (fun _ _ _ h => h) (Or.inl ⟨by kernel_rfl, fun W _ => (by first | kernel_rfl | go_simp)⟩) hS ?_
    try simp only [Act.put, z1, z2, z3]
    refine wpAnyF_free (i := 17) (oi := ⟨some 52, .fieldAddr 57 (.tmp 51) 0, 0, "soft.go:185", #[⟨16, .data⟩], none⟩) (v := .pointer (some ⟨bc, 0, none⟩)) rfl (by kernel_rfl) (by kernel_rfl) (by kernel_rfl) (by kernel_rfl) (fun _ _ _ h => h) (Or.inl ⟨by kernel_rfl, fun W _ => (by first | kernel_rfl | go_simp)⟩) hS ?_
    try simp only [Act.put, z1, z2, z3]
    refine wpAnyF_free (i := 18) (oi := ⟨some 53, .fieldAddr 44 (.tmp 52) 2, 0, "soft.go:185", #[⟨17, .data⟩], none⟩) (v := .pointer (some ⟨bc, 76, none⟩)) rfl (by kernel_rfl) (by kernel_rfl) (by kernel_rfl) (by kernel_rfl) (fun _ _ _ h => h) (Or.inl ⟨by kernel_rfl, fun W _ => (by first | kernel_rfl | go_simp)⟩) hS ?_
    try simp only [Act.put, z1, z2, z3]
    refine wpAnyF_take (i := 19) (oi := ⟨some 54, .indexAddr 42 (.tmp 53) (.tmp 44), 0, "soft.go:185", #[⟨18, .data⟩, ⟨9, .data⟩, ⟨0, .phase⟩, ⟨1, .phase⟩, ⟨2, .phase⟩, ⟨3, .phase⟩, ⟨4, .phase⟩, ⟨5, .phase⟩, ⟨6, .phase⟩, ⟨7, .phase⟩, ⟨8, .phase⟩, ⟨9, .phase⟩, ⟨10, .phase⟩, ⟨11, .phase⟩, ⟨12, .phase⟩, ⟨13, .phase⟩, ⟨14, .phase⟩, ⟨15, .phase⟩], none⟩) (v := .pointer (some ⟨bc, 76 + x * 2, none⟩)) rfl (by kernel_rfl) (by kernel_rfl) (by kernel_rfl) (by kernel_rfl) (fun _ _ _ h => h) (Or.inl ⟨by kernel_rfl, fun W h => Op1.ix_data (.tmp 53) (.tmp 44) (by kernel_rfl) (by kernel_rfl) (by kernel_rfl) (hx) W⟩) hS ?_
    try simp only [Act.put, z1, z2, z3]
    generalize World.drew _ = W8 at hS FM5 ⊢
    refine wpAnyF_last (o := ⟨none, .store 41 (.tmp 54) (.tmp 50), 0, "soft.go:185", #[⟨19, .data⟩, ⟨15, .data⟩, ⟨0, .phase⟩, ⟨1, .phase⟩, ⟨2, .phase⟩, ⟨3, .phase⟩, ⟨4, .phase⟩, ⟨5, .phase⟩, ⟨6, .phase⟩, ⟨7, .phase⟩, ⟨8, .phase⟩, ⟨9, .phase⟩, ⟨10, .phase⟩, ⟨11, .phase⟩, ⟨12, .phase⟩, ⟨13, .phase⟩, ⟨14, .phase⟩, ⟨15, .phase⟩], none⟩) (by kernel_rfl) rfl (by kernel_rfl) (by kernel_rfl) (fun K hK => ?_)
    refine Op1.st_part (cells := #[.int .i64 (m1.stamp n), .string text]) (o0 := 76 + x * 2) 41 (.tmp 54) (.tmp 50) (by kernel_rfl) rfl (by kernel_rfl) (by kernel_rfl) (unhide FM5).row sz_dat (by have := (unhide HM4).size; simp; omega) (by simp [Value.oneCell']) ?_
    refine hK.out _ _ ?_
    clear hK K
    try simp only [Act.put, z1, z2, z3]
    refine wpAnyF_done (by kernel_rfl) ?_ _
    have DONE := hide (Fd.dat (unhide FM5) (unhide HM4) hx (m1.stamp n) text ht)
    clear hS
    go_wp2_with fail
    go_end0
    exact ⟨rfl, by rw [unhide FIN]; exact unhide DONE⟩
  · have e1 : Img.putPart m k n q text = m.putData x (m.stamp n) text := by
      unfold Img.putPart
      simp only [if_neg (show ¬ m.part n q < 0 by omega)]
      rw [hpos, Int.toNat_natCast]
    have FIN := hide e1
    have HPX := hide hpos
    rw [hpos] at c0
    have u1 : decide ((x : Int) < 0) = false := by simp
    generalize Img.putPart m k n q text = mf at FIN ⊢
    clear h e1 hpos
    go_enter Tryz.func70, Tryz.ntmps70
    go_wp2_with fail
    have FM1 := hide ((unhide FM0).call (Below.refl _ _).drew)
    clear FM0 p0 l0 l1 nz qz c0
    refine wp_region_F (S := PS2 bf bc m) 20 (by kernel_rfl) (PS2.of (unhide FM1) (unhide HM)) (fun hS => ?_)
    refine wpAnyF_take (i := 0) (oi := ⟨some 35, .move (.tmp 0), 46, "soft.go:185", #[], none⟩) (v := .pointer (some ⟨bf, 0, none⟩)) rfl (by kernel_rfl) (by kernel_rfl) (by kernel_rfl) (by kernel_rfl) (fun _ _ _ h => h) (Or.inl ⟨by kernel_rfl, fun W h => (by first | kernel_rfl | go_simp)⟩) hS ?_
    try simp only [Act.put, z1, z2, z3]
    refine wpAnyF_take (i := 1) (oi := ⟨some 36, .nilCheck (.tmp 35), 0, "soft.go:185", #[⟨0, .data⟩], none⟩) (v := .pointer (some ⟨bf, 0, none⟩)) rfl (by kernel_rfl) (by kernel_rfl) (by kernel_rfl) (by kernel_rfl) (fun _ _ _ h => h) (Or.inl ⟨by kernel_rfl, fun W h => (by first | kernel_rfl | go_simp)⟩) hS ?_
    try simp only [Act.put, z1, z2, z3]
    refine wpAnyF_take (i := 2) (oi := ⟨some 37, .fieldAddr 53 (.tmp 36) 0, 0, "soft.go:185", #[⟨1, .data⟩], none⟩) (v := .pointer (some ⟨bf, 0, none⟩)) rfl (by kernel_rfl) (by kernel_rfl) (by kernel_rfl) (by kernel_rfl) (fun _ _ _ h => h) (Or.inl ⟨by kernel_rfl, fun W h => (by first | kernel_rfl | go_simp)⟩) hS ?_
    try simp only [Act.put, z1, z2, z3]
    refine wpAnyF_take (i := 3) (oi := ⟨some 38, .load 51 (.tmp 37), 51, "soft.go:185", #[⟨2, .data⟩], none⟩) (v := .pointer (some ⟨bc, 0, none⟩)) rfl (by kernel_rfl) (by kernel_rfl) (by kernel_rfl) (by kernel_rfl) (fun _ _ _ h => h) (Or.inl ⟨by kernel_rfl, fun W h => Op1.ld_ptr (.tmp 37) (by kernel_rfl) (by kernel_rfl) W (h.1)⟩) hS ?_
    try simp only [Act.put, z1, z2, z3]
    refine wpAnyF_take (i := 4) (oi := ⟨some 39, .move (.tmp 8), 100, "soft.go:185", #[], none⟩) (v := .pointer (some ⟨bc, n * 5, none⟩)) rfl (by kernel_rfl) (by kernel_rfl) (by kernel_rfl) (by kernel_rfl) (fun _ _ _ h => h) (Or.inl ⟨by kernel_rfl, fun W h => (by first | kernel_rfl | go_simp)⟩) hS ?_
    try simp only [Act.put, z1, z2, z3]
    refine wpAnyF_take (i := 5) (oi := ⟨some 40, .move (.tmp 2), 3, "soft.go:185", #[], none⟩) (v := .int .i64 (q : Int)) rfl (by kernel_rfl) (by kernel_rfl) (by kernel_rfl) (by kernel_rfl) (fun _ _ _ h => h) (Or.inl ⟨by kernel_rfl, fun W h => (by first | kernel_rfl | go_simp)⟩) hS ?_
    try simp only [Act.put, z1, z2, z3]
    refine wpAnyF_take (i := 6) (oi := ⟨some 41, .nilCheck (.tmp 39), 0, "soft.go:185", #[⟨4, .data⟩], none⟩) (v := .pointer (some ⟨bc, n * 5, none⟩)) rfl (by kernel_rfl) (by kernel_rfl) (by kernel_rfl) (by kernel_rfl) (fun _ _ _ h => h) (Or.inl ⟨by kernel_rfl, fun W h => (by first | kernel_rfl | go_simp)⟩) hS ?_
    try simp only [Act.put, z1, z2, z3]
    refine wpAnyF_take (i := 7) (oi := ⟨some 42, .fieldAddr 34 (.tmp 41) 3, 0, "soft.go:185", #[⟨6, .data⟩], none⟩) (v := .pointer (some ⟨bc, n * 5 + 3, none⟩)) rfl (by kernel_rfl) (by kernel_rfl) (by kernel_rfl) (by kernel_rfl) (fun _ _ _ h => h) (Or.inl ⟨by kernel_rfl, fun W h => (by first | kernel_rfl | go_simp)⟩) hS ?_
    try simp only [Act.put, z1, z2, z3]
    refine wpAnyF_take (i := 8) (oi := ⟨some 43, .indexAddr 32 (.tmp 42) (.tmp 40), 0, "soft.go:185", #[⟨7, .data⟩, ⟨5, .data⟩], none⟩) (v := .pointer (some ⟨bc, n * 5 + 3 + q, none⟩)) rfl (by kernel_rfl) (by kernel_rfl) (by kernel_rfl) (by kernel_rfl) (fun _ _ _ h => h) (Or.inl ⟨by kernel_rfl, fun W h => Op1.ix_part (.tmp 42) (.tmp 40) (by kernel_rfl) (by kernel_rfl) (by kernel_rfl) (hq) W⟩) hS ?_
    try simp only [Act.put, z1, z2, z3]
    refine wpAnyF_take (i := 9) (oi := ⟨some 44, .load 3 (.tmp 43), 3, "soft.go:185", #[⟨8, .data⟩], none⟩) (v := .int .i64 (x : Int)) rfl (by kernel_rfl) (by kernel_rfl) (by kernel_rfl) (by kernel_rfl) (fun _ _ _ h => h) (Or.inl ⟨by kernel_rfl, fun W h => Op1.ld_int (.tmp 43) (by kernel_rfl) (by kernel_rfl) W (by have := h.2.part n q hn hq; rw [Nat.zero_add, unhide HPX] at this; exact this)⟩) hS ?_
    try simp only [Act.put, z1, z2, z3]
    refine wpAnyF_take (i := 10) (oi := ⟨some 45, .move (.tmp 8), 100, "soft.go:185", #[], none⟩) (v := .pointer (some ⟨bc, n * 5, none⟩)) rfl (by kernel_rfl) (by kernel_rfl) (by kernel_rfl) (by kernel_rfl) (fun _ _ _ h => h) (Or.inl ⟨by kernel_rfl, fun W h => (by first | kernel_rfl | go_simp)⟩) hS ?_
    try simp only [Act.put, z1, z2, z3]
    refine wpAnyF_take (i := 11) (oi := ⟨some 46, .nilCheck (.tmp 45), 0, "soft.go:185", #[⟨10, .data⟩], none⟩) (v := .pointer (some ⟨bc, n * 5, none⟩)) rfl (by kernel_rfl) (by kernel_rfl) (by kernel_rfl) (by kernel_rfl) (fun _ _ _ h => h) (Or.inl ⟨by kernel_rfl, fun W h => (by first | kernel_rfl | go_simp)⟩) hS ?_
    try simp only [Act.put, z1, z2, z3]
    refine wpAnyF_take (i := 12) (oi := ⟨some 47, .fieldAddr 34 (.tmp 46) 1, 0, "soft.go:185", #[⟨11, .data⟩], none⟩) (v := .pointer (some ⟨bc, n * 5 + 1, none⟩)) rfl (by kernel_rfl) (by kernel_rfl) (by kernel_rfl) (by kernel_rfl) (fun _ _ _ h => h) (Or.inl ⟨by kernel_rfl, fun W h => (by first | kernel_rfl | go_simp)⟩) hS ?_
    try simp only [Act.put, z1, z2, z3]
    refine wpAnyF_take (i := 13) (oi := ⟨some 48, .load 3 (.tmp 47), 3, "soft.go:185", #[⟨12, .data⟩], none⟩) (v := .int .i64 (m.stamp n)) rfl (by kernel_rfl) (by kernel_rfl) (by kernel_rfl) (by kernel_rfl) (fun _ _ _ h => h) (Or.inl ⟨by kernel_rfl, fun W h => Op1.ld_int (.tmp 47) (by kernel_rfl) (by kernel_rfl) W (by have := h.2.stamp n hn; rw [Nat.zero_add] at this; exact this)⟩) hS ?_
    try simp only [Act.put, z1, z2, z3]
    refine wpAnyF_take (i := 14) (oi := ⟨some 49, .move (.tmp 3), 9, "soft.go:185", #[], none⟩) (v := .string text) rfl (by kernel_rfl) (by kernel_rfl) (by kernel_rfl) (by kernel_rfl) (fun _ _ _ h => h) (Or.inl ⟨by kernel_rfl, fun W h => (by first | kernel_rfl | go_simp)⟩) hS ?_
    try simp only [Act.put, z1, z2, z3]
    refine wpAnyF_take (i := 15) (oi := ⟨some 50, .build 41 #[(0, .tmp 48), (1, .tmp 49)], 41, "soft.go:185", #[⟨13, .data⟩, ⟨14, .data⟩], none⟩) (v := .agg #[.int .i64 (m.stamp n), .string text]) rfl (by kernel_rfl) (by kernel_rfl) (by kernel_rfl) (by kernel_rfl) (fun _ _ _ h => h) (Or.inl ⟨by kernel_rfl, fun W h => (by first | kernel_rfl | go_simp)⟩) hS ?_
    try simp only [Act.put, z1, z2, z3]
    refine wpAnyF_free (i := 16) (oi := ⟨some 51, .nilCheck (.tmp 38), 0, "soft.go:185", #[⟨3, .data⟩], none⟩) (v := .pointer (some ⟨bc, 0, none⟩)) rfl (by kernel_rfl) (by kernel_rfl) (by kernel_rfl) (by kernel_rfl) (fun _ _ _ h => h) (Or.inl ⟨by kernel_rfl, fun W _ => (by first | kernel_rfl | go_simp)⟩) hS ?_
    try simp only [Act.put, z1, z2, z3]
    refine wpAnyF_free (i := 17) (oi := ⟨some 52, .fieldAddr 57 (.tmp 51) 0, 0, "soft.go:185", #[⟨16, .data⟩], none⟩) (v := .pointer (some ⟨bc, 0, none⟩)) rfl (by kernel_rfl) (by kernel_rfl) (by kernel_rfl) (by kernel_rfl) (fun _ _ _ h => h) (Or.inl ⟨by kernel_rfl, fun W _ => (by first | kernel_rfl | go_simp)⟩) hS ?_
    try simp only [Act.put, z1, z2, z3]
    refine wpAnyF_free (i := 18) (oi := ⟨some 53, .fieldAddr 44 (.tmp 52) 2, 0, "soft.go:185", #[⟨17, .data⟩], none⟩) (v := .pointer (some ⟨bc, 76, none⟩)) rfl (by kernel_rfl) (by kernel_rfl) (by kernel_rfl) (by kernel_rfl) (fun _ _ _ h => h) (Or.inl ⟨by kernel_rfl, fun W _ => (by first | kernel_rfl | go_simp)⟩) hS ?_
    try simp only [Act.put, z1, z2, z3]
    refine wpAnyF_take (i := 19) (oi := ⟨some 54, .indexAddr 42 (.tmp 53) (.tmp 44), 0, "soft.go:185", #[⟨18, .data⟩, ⟨9, .data⟩, ⟨0, .phase⟩, ⟨1, .phase⟩, ⟨2, .phase⟩, ⟨3, .phase⟩, ⟨4, .phase⟩, ⟨5, .phase⟩, ⟨6, .phase⟩, ⟨7, .phase⟩, ⟨8, .phase⟩, ⟨9, .phase⟩, ⟨10, .phase⟩, ⟨11, .phase⟩, ⟨12, .phase⟩, ⟨13, .phase⟩, ⟨14, .phase⟩, ⟨15, .phase⟩], none⟩) (v := .pointer (some ⟨bc, 76 + x * 2, none⟩)) rfl (by kernel_rfl) (by kernel_rfl) (by kernel_rfl) (by kernel_rfl) (fun _ _ _ h => h) (Or.inl ⟨by kernel_rfl, fun W h => Op1.ix_data (.tmp 53) (.tmp 44) (by kernel_rfl) (by kernel_rfl) (by kernel_rfl) (hx) W⟩) hS ?_
    try simp only [Act.put, z1, z2, z3]
    generalize World.drew _ = W8 at hS FM1 ⊢
    refine wpAnyF_last (o := ⟨none, .store 41 (.tmp 54) (.tmp 50), 0, "soft.go:185", #[⟨19, .data⟩, ⟨15, .data⟩, ⟨0, .phase⟩, ⟨1, .phase⟩, ⟨2, .phase⟩, ⟨3, .phase⟩, ⟨4, .phase⟩, ⟨5, .phase⟩, ⟨6, .phase⟩, ⟨7, .phase⟩, ⟨8, .phase⟩, ⟨9, .phase⟩, ⟨10, .phase⟩, ⟨11, .phase⟩, ⟨12, .phase⟩, ⟨13, .phase⟩, ⟨14, .phase⟩, ⟨15, .phase⟩], none⟩) (by kernel_rfl) rfl (by kernel_rfl) (by kernel_rfl) (fun K hK => ?_)
    refine Op1.st_part (cells := #[.int .i64 (m.stamp n), .string text]) (o0 := 76 + x * 2) 41 (.tmp 54) (.tmp 50) (by kernel_rfl) rfl (by kernel_rfl) (by kernel_rfl) (unhide FM1).row sz_dat (by have := (unhide HM).size; simp; omega) (by simp [Value.oneCell']) ?_
    refine hK.out _ _ ?_
    clear hK K
    try simp only [Act.put, z1, z2, z3]
    refine wpAnyF_done (by kernel_rfl) ?_ _
    have DONE := hide (Fd.dat (unhide FM1) (unhide HM) hx (m.stamp n) text ht)
    clear hS
    go_wp2_with fail
    go_end0
    exact ⟨rfl, by rw [unhide FIN]; exact unhide DONE⟩
end
end Go.Proofs.YtmbpckmpnnmnmacGreat
