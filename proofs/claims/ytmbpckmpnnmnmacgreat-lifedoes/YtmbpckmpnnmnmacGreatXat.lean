/-
  The walk of (*soft.Files).drop. (Written by gendn.py.)
-/
import Derived.Test.YtmbpckmpnnmnmacGreatZz
import Derived.Test.YtmbpckmpnnmnmacGreatXas
namespace Go.Proofs.YtmbpckmpnnmnmacGreat
open Go.RowKit
open Idl (Stp chk stpA)
section
variable {w w0 w1 : World} {bf bc : Nat} {cs ds rows : Array Value} {m k : Img} {last : Int}
theorem dropped_is {m : Img} {d j n : Nat} {nm : ByteArray} (hT : Img.There m (d : Int) nm j n) : Img.dropped1 m (d : Int) nm = (m.putEnt d j Ent.none).putIno n ⟨m.live n, m.stamp n, m.links n - 1, m.part n 0, m.part n 1⟩ ∧
    Img.dropped m (d : Int) nm = if ((m.putEnt d j Ent.none).putIno n ⟨m.live n, m.stamp n, m.links n - 1, m.part n 0, m.part n 1⟩).refs (n : Int) = 0 then ((m.putEnt d j Ent.none).putIno n ⟨m.live n, m.stamp n, m.links n - 1, m.part n 0, m.part n 1⟩).putIno n Ino.none else (m.putEnt d j Ent.none).putIno n ⟨m.live n, m.stamp n, m.links n - 1, m.part n 0, m.part n 1⟩ := by
  have e1 : Img.dropped1 m (d : Int) nm = (m.putEnt d j Ent.none).putIno n ⟨m.live n, m.stamp n, m.links n - 1, m.part n 0, m.part n 1⟩ := by
    unfold Img.dropped1; rw [hT.of, hT.at_, Int.toNat_natCast, Int.toNat_natCast, Int.toNat_natCast]; rfl
  refine ⟨e1, ?_⟩
  unfold Img.dropped
  rw [e1, hT.of, Int.toNat_natCast]
set_option maxHeartbeats 2000000 in
set_option maxRecDepth 100000 in
theorem sdrop_any (h : Fl w bf bc cs ds m k last) {d j n : Nat} (nm : ByteArray) (hT : Img.There m (d : Int) nm j n) (hlk : 1 ≤ m.links n ∧ m.links n ≤ 100) :
    Calls Tryz.prog 69 #[.pointer (some ⟨bf, 0, none⟩), .int .i64 (d : Int), .string nm] w fun e w' => e = .returned (.tuple #[]) ∧ Fd w w' bf bc ds (Img.dropped m (d : Int) nm) last := by
  have C0 := hide (sfind_any h (d : Int) nm)
  have C1 := hide fun W (h1 : HasAt W bc 0 m) => At.find_any bc m (d : Int) nm W h1
  rw [hT.of] at C0
  rw [hT.at_] at C1
  have hd : d < 3 := by have := hT.d3; omega
  have hj := hT.k4
  have hn := hT.n8
  have HQ := hide (dropped_is hT).2
  generalize Img.dropped m (d : Int) nm = mf at HQ ⊢
  have HM := hide h.now
  have FM0 := hide h.fm
  clear h hT
  go_enter Tryz.func69, Tryz.ntmps69
  go_wp2_with fail
  refine (unhide C0).mono ?_
  rintro e wq ⟨rfl, e9⟩
  rw [e9]
  clear e9 wq
  go_wp2_with fail
  have FM1 := hide ((unhide FM0).call (Below.refl _ _).drew)
  clear FM0 C0
  refine wp_region_F (S := PS2 bf bc m) 20 (by kernel_rfl) (PS2.of (unhide FM1) (unhide HM)) (fun hS => ?_)
  refine wpAnyF_take (i := 0) (oi := ⟨some 11, .move (.tmp 0), 46, "soft.go:172", #[], none⟩) (v := .pointer (some ⟨bf, 0, none⟩)) rfl (by kernel_rfl) (by kernel_rfl) (by kernel_rfl) (by kernel_rfl) (fun _ _ _ h => h) (Or.inl ⟨by kernel_rfl, fun W h => (by first | kernel_rfl | go_simp)⟩) hS ?_
  try simp only [Act.put, z1, z2, z3]
  refine wpAnyF_take (i := 1) (oi := ⟨some 12, .nilCheck (.tmp 11), 0, "soft.go:172", #[⟨0, .data⟩], none⟩) (v := .pointer (some ⟨bf, 0, none⟩)) rfl (by kernel_rfl) (by kernel_rfl) (by kernel_rfl) (by kernel_rfl) (fun _ _ _ h => h) (Or.inl ⟨by kernel_rfl, fun W h => (by first | kernel_rfl | go_simp)⟩) hS ?_
  try simp only [Act.put, z1, z2, z3]
  refine wpAnyF_take (i := 2) (oi := ⟨some 13, .fieldAddr 53 (.tmp 12) 0, 0, "soft.go:172", #[⟨1, .data⟩], none⟩) (v := .pointer (some ⟨bf, 0, none⟩)) rfl (by kernel_rfl) (by kernel_rfl) (by kernel_rfl) (by kernel_rfl) (fun _ _ _ h => h) (Or.inl ⟨by kernel_rfl, fun W h => (by first | kernel_rfl | go_simp)⟩) hS ?_
  try simp only [Act.put, z1, z2, z3]
  refine wpAnyF_take (i := 3) (oi := ⟨some 14, .load 51 (.tmp 13), 51, "soft.go:172", #[⟨2, .data⟩], none⟩) (v := .pointer (some ⟨bc, 0, none⟩)) rfl (by kernel_rfl) (by kernel_rfl) (by kernel_rfl) (by kernel_rfl) (fun _ _ _ h => h) (Or.inl ⟨by kernel_rfl, fun W h => Op1.ld_ptr (.tmp 13) (by kernel_rfl) (by kernel_rfl) W (h.1)⟩) hS ?_
  try simp only [Act.put, z1, z2, z3]
  refine wpAnyF_take (i := 4) (oi := ⟨some 15, .move (.tmp 1), 3, "soft.go:172", #[], none⟩) (v := .int .i64 (d : Int)) rfl (by kernel_rfl) (by kernel_rfl) (by kernel_rfl) (by kernel_rfl) (fun _ _ _ h => h) (Or.inl ⟨by kernel_rfl, fun W h => (by first | kernel_rfl | go_simp)⟩) hS ?_
  try simp only [Act.put, z1, z2, z3]
  refine wpAnyF_take (i := 5) (oi := ⟨some 16, .move (.tmp 0), 46, "soft.go:172", #[], none⟩) (v := .pointer (some ⟨bf, 0, none⟩)) rfl (by kernel_rfl) (by kernel_rfl) (by kernel_rfl) (by kernel_rfl) (fun _ _ _ h => h) (Or.inl ⟨by kernel_rfl, fun W h => (by first | kernel_rfl | go_simp)⟩) hS ?_
  try simp only [Act.put, z1, z2, z3]
  refine wpAnyF_take (i := 6) (oi := ⟨some 17, .nilCheck (.tmp 16), 0, "soft.go:172", #[⟨5, .data⟩], none⟩) (v := .pointer (some ⟨bf, 0, none⟩)) rfl (by kernel_rfl) (by kernel_rfl) (by kernel_rfl) (by kernel_rfl) (fun _ _ _ h => h) (Or.inl ⟨by kernel_rfl, fun W h => (by first | kernel_rfl | go_simp)⟩) hS ?_
  try simp only [Act.put, z1, z2, z3]
  refine wpAnyF_take (i := 7) (oi := ⟨some 18, .fieldAddr 53 (.tmp 17) 0, 0, "soft.go:172", #[⟨6, .data⟩], none⟩) (v := .pointer (some ⟨bf, 0, none⟩)) rfl (by kernel_rfl) (by kernel_rfl) (by kernel_rfl) (by kernel_rfl) (fun _ _ _ h => h) (Or.inl ⟨by kernel_rfl, fun W h => (by first | kernel_rfl | go_simp)⟩) hS ?_
  try simp only [Act.put, z1, z2, z3]
  refine wpAnyF_take (i := 8) (oi := ⟨some 19, .load 51 (.tmp 18), 51, "soft.go:172", #[⟨7, .data⟩], none⟩) (v := .pointer (some ⟨bc, 0, none⟩)) rfl (by kernel_rfl) (by kernel_rfl) (by kernel_rfl) (by kernel_rfl) (fun _ _ _ h => h) (Or.inl ⟨by kernel_rfl, fun W h => Op1.ld_ptr (.tmp 18) (by kernel_rfl) (by kernel_rfl) W (h.1)⟩) hS ?_
  try simp only [Act.put, z1, z2, z3]
  refine wpAnyF_take (i := 9) (oi := ⟨some 20, .nilCheck (.tmp 19), 0, "soft.go:172", #[⟨8, .data⟩], none⟩) (v := .pointer (some ⟨bc, 0, none⟩)) rfl (by kernel_rfl) (by kernel_rfl) (by kernel_rfl) (by kernel_rfl) (fun _ _ _ h => h) (Or.inl ⟨by kernel_rfl, fun W h => (by first | kernel_rfl | go_simp)⟩) hS ?_
  try simp only [Act.put, z1, z2, z3]
  refine wpAnyF_take (i := 10) (oi := ⟨some 21, .fieldAddr 57 (.tmp 20) 0, 0, "soft.go:172", #[⟨9, .data⟩], none⟩) (v := .pointer (some ⟨bc, 0, none⟩)) rfl (by kernel_rfl) (by kernel_rfl) (by kernel_rfl) (by kernel_rfl) (fun _ _ _ h => h) (Or.inl ⟨by kernel_rfl, fun W h => (by first | kernel_rfl | go_simp)⟩) hS ?_
  try simp only [Act.put, z1, z2, z3]
  refine wpAnyF_take (i := 11) (oi := ⟨some 22, .move (.tmp 1), 3, "soft.go:172", #[], none⟩) (v := .int .i64 (d : Int)) rfl (by kernel_rfl) (by kernel_rfl) (by kernel_rfl) (by kernel_rfl) (fun _ _ _ h => h) (Or.inl ⟨by kernel_rfl, fun W h => (by first | kernel_rfl | go_simp)⟩) hS ?_
  try simp only [Act.put, z1, z2, z3]
  refine wpAnyF_take (i := 12) (oi := ⟨some 23, .move (.tmp 2), 9, "soft.go:172", #[], none⟩) (v := .string nm) rfl (by kernel_rfl) (by kernel_rfl) (by kernel_rfl) (by kernel_rfl) (fun _ _ _ h => h) (Or.inl ⟨by kernel_rfl, fun W h => (by first | kernel_rfl | go_simp)⟩) hS ?_
  try simp only [Act.put, z1, z2, z3]
  refine wpAnyF_take (i := 14) (oi := ⟨some 25, .build 37 #[], 37, "soft.go:172", #[], none⟩) (v := .agg #[.string ⟨#[]⟩, .int .i64 0, .int .i64 0]) rfl (by kernel_rfl) (by kernel_rfl) (by kernel_rfl) (by kernel_rfl) (fun _ _ _ h => h) (Or.inl ⟨by kernel_rfl, fun W h => (by first | kernel_rfl | go_simp)⟩) hS ?_
  try simp only [Act.put, z1, z2, z3]
  refine wpAnyF_free (i := 15) (oi := ⟨some 26, .nilCheck (.tmp 14), 0, "soft.go:172", #[⟨3, .data⟩], none⟩) (v := .pointer (some ⟨bc, 0, none⟩)) rfl (by kernel_rfl) (by kernel_rfl) (by kernel_rfl) (by kernel_rfl) (fun _ _ _ h => h) (Or.inl ⟨by kernel_rfl, fun W _ => (by first | kernel_rfl | go_simp)⟩) hS ?_
  try simp only [Act.put, z1, z2, z3]
  refine wpAnyF_free (i := 16) (oi := ⟨some 27, .fieldAddr 57 (.tmp 26) 0, 0, "soft.go:172", #[⟨15, .data⟩], none⟩) (v := .pointer (some ⟨bc, 0, none⟩)) rfl (by kernel_rfl) (by kernel_rfl) (by kernel_rfl) (by kernel_rfl) (fun _ _ _ h => h) (Or.inl ⟨by kernel_rfl, fun W _ => (by first | kernel_rfl | go_simp)⟩) hS ?_
  try simp only [Act.put, z1, z2, z3]
  refine wpAnyF_free (i := 17) (oi := ⟨some 28, .fieldAddr 44 (.tmp 27) 1, 0, "soft.go:172", #[⟨16, .data⟩], none⟩) (v := .pointer (some ⟨bc, 40, none⟩)) rfl (by kernel_rfl) (by kernel_rfl) (by kernel_rfl) (by kernel_rfl) (fun _ _ _ h => h) (Or.inl ⟨by kernel_rfl, fun W _ => (by first | kernel_rfl | go_simp)⟩) hS ?_
  try simp only [Act.put, z1, z2, z3]
  refine wpAnyF_free (i := 18) (oi := ⟨some 29, .indexAddr 39 (.tmp 28) (.tmp 15), 0, "soft.go:172", #[⟨17, .data⟩, ⟨4, .data⟩], none⟩) (v := .pointer (some ⟨bc, 40 + d * 12, none⟩)) rfl (by kernel_rfl) (by kernel_rfl) (by kernel_rfl) (by kernel_rfl) (fun _ _ _ h => h) (Or.inl ⟨by kernel_rfl, fun W _ => Op1.ix_dir (.tmp 28) (.tmp 15) (by kernel_rfl) (by kernel_rfl) (by kernel_rfl) (hd) W⟩) hS ?_
  try simp only [Act.put, z1, z2, z3]
  generalize World.drew _ = W0 at hS FM1 ⊢
  refine wpAnyF_one (i := 13) (o := ⟨some 24, .call { callee := .value (.func 28), args := #[.tmp 21, .tmp 22, .tmp 23], argTypes := #[64, 3, 9] }, 3, "soft.go:172", #[⟨10, .data⟩, ⟨11, .data⟩, ⟨12, .data⟩], none⟩) (by kernel_rfl) rfl (by kernel_rfl) (fun K hK => ?_)
  go_simp
  refine (unhide C1 W0 hS.2).mono ?_
  rintro e w1 ⟨rfl, e9⟩
  rw [e9]
  clear e9 w1
  go_wp2_with fail
  have hS1 := hS
  refine hK.out _ _ (fun _ => hS1) ?_
  clear hK K
  try simp only [Act.put, z1, z2, z3]
  refine wpAnyF_take (i := 19) (oi := ⟨some 30, .indexAddr 38 (.tmp 29) (.tmp 24), 0, "soft.go:172", #[⟨18, .data⟩, ⟨13, .data⟩, ⟨0, .phase⟩, ⟨1, .phase⟩, ⟨2, .phase⟩, ⟨3, .phase⟩, ⟨4, .phase⟩, ⟨5, .phase⟩, ⟨6, .phase⟩, ⟨7, .phase⟩, ⟨8, .phase⟩, ⟨9, .phase⟩, ⟨10, .phase⟩, ⟨11, .phase⟩, ⟨12, .phase⟩, ⟨13, .phase⟩, ⟨14, .phase⟩], none⟩) (v := .pointer (some ⟨bc, 40 + d * 12 + j * 3, none⟩)) rfl (by kernel_rfl) (by kernel_rfl) (by kernel_rfl) (by kernel_rfl) (fun _ _ _ h => h) (Or.inl ⟨by kernel_rfl, fun W h => Op1.ix_slot (.tmp 29) (.tmp 24) (by kernel_rfl) (by kernel_rfl) (by kernel_rfl) (hj) W⟩) hS1 ?_
  try simp only [Act.put, z1, z2, z3]
  refine wpAnyF_last (o := ⟨none, .store 37 (.tmp 30) (.tmp 25), 0, "soft.go:172", #[⟨19, .data⟩, ⟨14, .data⟩, ⟨13, .chain⟩, ⟨0, .phase⟩, ⟨1, .phase⟩, ⟨2, .phase⟩, ⟨3, .phase⟩, ⟨4, .phase⟩, ⟨5, .phase⟩, ⟨6, .phase⟩, ⟨7, .phase⟩, ⟨8, .phase⟩, ⟨9, .phase⟩, ⟨10, .phase⟩, ⟨11, .phase⟩, ⟨12, .phase⟩, ⟨13, .phase⟩, ⟨14, .phase⟩], none⟩) (by kernel_rfl) rfl (by kernel_rfl) (by kernel_rfl) (fun K hK => ?_)
  refine Op1.st_part (cells := #[.string ⟨#[]⟩, .int .i64 0, .int .i64 0]) (o0 := 40 + d * 12 + j * 3) 37 (.tmp 30) (.tmp 25) (by kernel_rfl) rfl (by kernel_rfl) (by kernel_rfl) (unhide FM1).row sz_ent (by have := (unhide HM).size; simp; omega) (by kernel_rfl) ?_
  refine hK.out _ _ ?_
  clear hK K
  try simp only [Act.put, z1, z2, z3]
  refine wpAnyF_done (by kernel_rfl) ?_ _
  obtain ⟨cs1, f3, hm3⟩ := Fd.ent (unhide FM1) (unhide HM) hd hj Ent.none (Nat.zero_le _)
  have FM2 := hide f3
  have HM2 := hide hm3
  clear f3 hm3 hS hS1 FM1 HM C1
  obtain ⟨m1, hm1⟩ : ∃ m1, m1 = m.putEnt d j Ent.none := ⟨_, rfl⟩
  have HE := hide (show m1.live n = m.live n ∧ m1.stamp n = m.stamp n ∧ m1.links n = m.links n ∧ m1.part n 0 = m.part n 0 ∧ m1.part n 1 = m.part n 1 by rw [hm1]; exact ⟨rfl, rfl, rfl, rfl, rfl⟩)
  rw [← hm1] at HM2 HQ
  clear hm1
  have el := (unhide HE).2.2.1
  rw [← (unhide HE).1, ← (unhide HE).2.1, ← el, ← (unhide HE).2.2.2.1, ← (unhide HE).2.2.2.2] at HQ
  rw [← el] at hlk
  clear el HE
  have FM2' : Hid (Fm w (W0.setRow bc (splice (cs ++ ds) (40 + d * 12 + j * 3) #[.string ⟨#[]⟩, .int .i64 0, .int .i64 0])) bf bc (cs1 ++ ds) last) := FM2
  clear FM2
  have FM2 := FM2'
  clear FM2'
  generalize W0.setRow bc (splice (cs ++ ds) (40 + d * 12 + j * 3) #[.string ⟨#[]⟩, .int .i64 0, .int .i64 0]) = W1 at FM2 ⊢
  go_wp2_with fail
  have FM3 := hide ((unhide FM2).call (Below.refl _ _).drew)
  clear FM2
  refine wp_region_F (S := PS2 bf bc m1) 17 (by kernel_rfl) (PS2.of (unhide FM3) (unhide HM2)) (fun hS => ?_)
  refine wpAnyF_take (i := 0) (oi := ⟨some 31, .move (.tmp 0), 46, "soft.go:173", #[], none⟩) (v := .pointer (some ⟨bf, 0, none⟩)) rfl (by kernel_rfl) (by kernel_rfl) (by kernel_rfl) (by kernel_rfl) (fun _ _ _ h => h) (Or.inl ⟨by kernel_rfl, fun W h => (by first | kernel_rfl | go_simp)⟩) hS ?_
  try simp only [Act.put, z1, z2, z3]
  refine wpAnyF_take (i := 1) (oi := ⟨some 32, .nilCheck (.tmp 31), 0, "soft.go:173", #[⟨0, .data⟩], none⟩) (v := .pointer (some ⟨bf, 0, none⟩)) rfl (by kernel_rfl) (by kernel_rfl) (by kernel_rfl) (by kernel_rfl) (fun _ _ _ h => h) (Or.inl ⟨by kernel_rfl, fun W h => (by first | kernel_rfl | go_simp)⟩) hS ?_
  try simp only [Act.put, z1, z2, z3]
  refine wpAnyF_take (i := 2) (oi := ⟨some 33, .fieldAddr 53 (.tmp 32) 0, 0, "soft.go:173", #[⟨1, .data⟩], none⟩) (v := .pointer (some ⟨bf, 0, none⟩)) rfl (by kernel_rfl) (by kernel_rfl) (by kernel_rfl) (by kernel_rfl) (fun _ _ _ h => h) (Or.inl ⟨by kernel_rfl, fun W h => (by first | kernel_rfl | go_simp)⟩) hS ?_
  try simp only [Act.put, z1, z2, z3]
  refine wpAnyF_take (i := 3) (oi := ⟨some 34, .load 51 (.tmp 33), 51, "soft.go:173", #[⟨2, .data⟩], none⟩) (v := .pointer (some ⟨bc, 0, none⟩)) rfl (by kernel_rfl) (by kernel_rfl) (by kernel_rfl) (by kernel_rfl) (fun _ _ _ h => h) (Or.inl ⟨by kernel_rfl, fun W h => Op1.ld_ptr (.tmp 33) (by kernel_rfl) (by kernel_rfl) W (h.1)⟩) hS ?_
  try simp only [Act.put, z1, z2, z3]
  refine wpAnyF_take (i := 4) (oi := ⟨some 35, .move (.tmp 6), 3, "soft.go:173", #[], none⟩) (v := .int .i64 (n : Int)) rfl (by kernel_rfl) (by kernel_rfl) (by kernel_rfl) (by kernel_rfl) (fun _ _ _ h => h) (Or.inl ⟨by kernel_rfl, fun W h => (by first | kernel_rfl | go_simp)⟩) hS ?_
  try simp only [Act.put, z1, z2, z3]
  refine wpAnyF_take (i := 5) (oi := ⟨some 36, .nilCheck (.tmp 34), 0, "soft.go:173", #[⟨3, .data⟩], none⟩) (v := .pointer (some ⟨bc, 0, none⟩)) rfl (by kernel_rfl) (by kernel_rfl) (by kernel_rfl) (by kernel_rfl) (fun _ _ _ h => h) (Or.inl ⟨by kernel_rfl, fun W h => (by first | kernel_rfl | go_simp)⟩) hS ?_
  try simp only [Act.put, z1, z2, z3]
  refine wpAnyF_take (i := 6) (oi := ⟨some 37, .fieldAddr 57 (.tmp 36) 0, 0, "soft.go:173", #[⟨5, .data⟩], none⟩) (v := .pointer (some ⟨bc, 0, none⟩)) rfl (by kernel_rfl) (by kernel_rfl) (by kernel_rfl) (by kernel_rfl) (fun _ _ _ h => h) (Or.inl ⟨by kernel_rfl, fun W h => (by first | kernel_rfl | go_simp)⟩) hS ?_
  try simp only [Act.put, z1, z2, z3]
  refine wpAnyF_take (i := 7) (oi := ⟨some 38, .fieldAddr 44 (.tmp 37) 0, 0, "soft.go:173", #[⟨6, .data⟩], none⟩) (v := .pointer (some ⟨bc, 0, none⟩)) rfl (by kernel_rfl) (by kernel_rfl) (by kernel_rfl) (by kernel_rfl) (fun _ _ _ h => h) (Or.inl ⟨by kernel_rfl, fun W h => (by first | kernel_rfl | go_simp)⟩) hS ?_
  try simp only [Act.put, z1, z2, z3]
  refine wpAnyF_take (i := 8) (oi := ⟨some 39, .indexAddr 35 (.tmp 38) (.tmp 35), 0, "soft.go:173", #[⟨7, .data⟩, ⟨4, .data⟩], none⟩) (v := .pointer (some ⟨bc, n * 5, none⟩)) rfl (by kernel_rfl) (by kernel_rfl) (by kernel_rfl) (by kernel_rfl) (fun _ _ _ h => h) (Or.inl ⟨by kernel_rfl, fun W h => Op1.ix_ino (.tmp 38) (.tmp 35) (by kernel_rfl) (by kernel_rfl) (by kernel_rfl) (hn) W⟩) hS ?_
  try simp only [Act.put, z1, z2, z3]
  refine wpAnyF_take (i := 9) (oi := ⟨some 40, .fieldAddr 34 (.tmp 39) 2, 0, "soft.go:173", #[⟨8, .data⟩], none⟩) (v := .pointer (some ⟨bc, n * 5 + 2, none⟩)) rfl (by kernel_rfl) (by kernel_rfl) (by kernel_rfl) (by kernel_rfl) (fun _ _ _ h => h) (Or.inl ⟨by kernel_rfl, fun W h => (by first | kernel_rfl | go_simp)⟩) hS ?_
  try simp only [Act.put, z1, z2, z3]
  refine wpAnyF_take (i := 10) (oi := ⟨some 41, .load 3 (.tmp 40), 3, "soft.go:173", #[⟨9, .data⟩], none⟩) (v := .int .i64 (m1.links n)) rfl (by kernel_rfl) (by kernel_rfl) (by kernel_rfl) (by kernel_rfl) (fun _ _ _ h => h) (Or.inl ⟨by kernel_rfl, fun W h => Op1.ld_int (.tmp 40) (by kernel_rfl) (by kernel_rfl) W (by have := h.2.links n hn; rw [Nat.zero_add] at this; exact this)⟩) hS ?_
  try simp only [Act.put, z1, z2, z3]
  refine wpAnyF_take (i := 11) (oi := ⟨some 42, .binOp .sub 3 (.tmp 41) (.const (.int .i64 1)) 3, 3, "soft.go:173", #[⟨10, .data⟩], none⟩) (v := .int .i64 (m1.links n - 1)) rfl (by kernel_rfl) (by kernel_rfl) (by kernel_rfl) (by kernel_rfl) (fun _ _ _ h => h) (Or.inl ⟨by kernel_rfl, fun W h => Op1.sub1 (.tmp 41) (by kernel_rfl) (by kernel_rfl) (by kernel_rfl) (by omega) W⟩) hS ?_
  try simp only [Act.put, z1, z2, z3]
  refine wpAnyF_free (i := 12) (oi := ⟨some 43, .nilCheck (.tmp 34), 0, "soft.go:173", #[⟨3, .data⟩], none⟩) (v := .pointer (some ⟨bc, 0, none⟩)) rfl (by kernel_rfl) (by kernel_rfl) (by kernel_rfl) (by kernel_rfl) (fun _ _ _ h => h) (Or.inl ⟨by kernel_rfl, fun W _ => (by first | kernel_rfl | go_simp)⟩) hS ?_
  try simp only [Act.put, z1, z2, z3]
  refine wpAnyF_free (i := 13) (oi := ⟨some 44, .fieldAddr 57 (.tmp 43) 0, 0, "soft.go:173", #[⟨12, .data⟩], none⟩) (v := .pointer (some ⟨bc, 0, none⟩)) rfl (by kernel_rfl) (by kernel_rfl) (by kernel_rfl) (by kernel_rfl) (fun _ _ _ h => h) (Or.inl ⟨by kernel_rfl, fun W _ => (by first | kernel_rfl | go_simp)⟩) hS ?_
  try simp only [Act.put, z1, z2, z3]
  refine wpAnyF_free (i := 14) (oi := ⟨some 45, .fieldAddr 44 (.tmp 44) 0, 0, "soft.go:173", #[⟨13, .data⟩], none⟩) (v := .pointer (some ⟨bc, 0, none⟩)) rfl (by kernel_rfl) (by kernel_rfl) (by kernel_rfl) (by kernel_rfl) (fun _ _ _ h => h) (Or.inl ⟨by kernel_rfl, fun W _ => (by first | kernel_rfl | go_simp)⟩) hS ?_
  try simp only [Act.put, z1, z2, z3]
  refine wpAnyF_free (i := 15) (oi := ⟨some 46, .indexAddr 35 (.tmp 45) (.tmp 35), 0, "soft.go:173", #[⟨14, .data⟩, ⟨4, .data⟩, ⟨0, .phase⟩, ⟨1, .phase⟩, ⟨2, .phase⟩, ⟨3, .phase⟩, ⟨4, .phase⟩, ⟨5, .phase⟩, ⟨6, .phase⟩, ⟨7, .phase⟩, ⟨8, .phase⟩, ⟨9, .phase⟩, ⟨10, .phase⟩, ⟨11, .phase⟩], none⟩) (v := .pointer (some ⟨bc, n * 5, none⟩)) rfl (by kernel_rfl) (by kernel_rfl) (by kernel_rfl) (by kernel_rfl) (fun _ _ _ h => h) (Or.inl ⟨by kernel_rfl, fun W _ => Op1.ix_ino (.tmp 45) (.tmp 35) (by kernel_rfl) (by kernel_rfl) (by kernel_rfl) (hn) W⟩) hS ?_
  try simp only [Act.put, z1, z2, z3]
  refine wpAnyF_take (i := 16) (oi := ⟨some 47, .fieldAddr 34 (.tmp 46) 2, 0, "soft.go:173", #[⟨15, .data⟩, ⟨0, .phase⟩, ⟨1, .phase⟩, ⟨2, .phase⟩, ⟨3, .phase⟩, ⟨4, .phase⟩, ⟨5, .phase⟩, ⟨6, .phase⟩, ⟨7, .phase⟩, ⟨8, .phase⟩, ⟨9, .phase⟩, ⟨10, .phase⟩, ⟨11, .phase⟩], none⟩) (v := .pointer (some ⟨bc, n * 5 + 2, none⟩)) rfl (by kernel_rfl) (by kernel_rfl) (by kernel_rfl) (by kernel_rfl) (fun _ _ _ h => h) (Or.inl ⟨by kernel_rfl, fun W h => (by first | kernel_rfl | go_simp)⟩) hS ?_
  try simp only [Act.put, z1, z2, z3]
  generalize World.drew _ = W2 at hS FM3 ⊢
  refine wpAnyF_last (o := ⟨none, .store 3 (.tmp 47) (.tmp 42), 0, "soft.go:173", #[⟨16, .data⟩, ⟨11, .data⟩, ⟨0, .phase⟩, ⟨1, .phase⟩, ⟨2, .phase⟩, ⟨3, .phase⟩, ⟨4, .phase⟩, ⟨5, .phase⟩, ⟨6, .phase⟩, ⟨7, .phase⟩, ⟨8, .phase⟩, ⟨9, .phase⟩, ⟨10, .phase⟩, ⟨11, .phase⟩], none⟩) (by kernel_rfl) rfl (by kernel_rfl) (by kernel_rfl) (fun K hK => ?_)
  refine Op1.st_int (v := m1.links n - 1) (.tmp 47) (.tmp 42) (by kernel_rfl) rfl (by kernel_rfl) (by kernel_rfl) (by have := hS.2.links n hn; rw [Nat.zero_add] at this; exact this) ((unhide FM3).frozen _) ?_
  refine hK.out _ _ ?_
  clear hK K
  try simp only [Act.put, z1, z2, z3]
  refine wpAnyF_done (by kernel_rfl) ?_ _
  obtain ⟨cs2, f4, hm4⟩ := Fd.lnk (unhide FM3) (unhide HM2) hn (m1.links n - 1)
  have FM4 := hide f4
  have HM4 := hide hm4
  clear f4 hm4 hS FM3 HM2
  generalize W2.setCell ⟨bc, n * 5 + 2, none⟩ (.int .i64 (m1.links n - 1)) = W3 at FM4 ⊢
  generalize m1.putIno n ⟨m1.live n, m1.stamp n, m1.links n - 1, m1.part n 0, m1.part n 1⟩ = m2 at HM4 HQ
  have p3 := (unhide FM4).ptr
  have l3 := (unhide FM4).flt
  have C2 := hide (At.refs_any bc m2 (n : Int) W3 ((unhide FM4).has (unhide HM4)))
  generalize hrf : m2.refs (n : Int) = rf at C2
  have HRF := hide hrf
  clear hrf
  go_wp2_with fail
  refine (unhide C2).mono ?_
  rintro e wq ⟨rfl, e9⟩
  rw [e9]
  clear e9 wq C2
  by_cases hz : rf = 0
  · have u1 : ((rf : Int) == 0) = true := by simp [hz]
    have FIN := hide (show mf = m2.putIno n Ino.none by rw [unhide HQ, unhide HRF, if_pos hz])
    clear hz p3 l3
    go_wp2_with fail
    have FM5 := hide ((unhide FM4).call (Below.refl _ _).drew)
    clear FM4
    refine wp_region_F (S := PS2 bf bc m2) 10 (by kernel_rfl) (PS2.of (unhide FM5) (unhide HM4)) (fun hS => ?_)
    refine wpAnyF_take (i := 0) (oi := ⟨some 57, .move (.tmp 0), 46, "soft.go:175", #[], none⟩) (v := .pointer (some ⟨bf, 0, none⟩)) rfl (by kernel_rfl) (by kernel_rfl) (by kernel_rfl) (by kernel_rfl) (fun _ _ _ h => h) (Or.inl ⟨by kernel_rfl, fun W h => (by first | kernel_rfl | go_simp)⟩) hS ?_
    try simp only [Act.put, z1, z2, z3]
    refine wpAnyF_take (i := 1) (oi := ⟨some 58, .nilCheck (.tmp 57), 0, "soft.go:175", #[⟨0, .data⟩], none⟩) (v := .pointer (some ⟨bf, 0, none⟩)) rfl (by kernel_rfl) (by kernel_rfl) (by kernel_rfl) (by kernel_rfl) (fun _ _ _ h => h) (Or.inl ⟨by kernel_rfl, fun W h => (by first | kernel_rfl | go_simp)⟩) hS ?_
    try simp only [Act.put, z1, z2, z3]
    refine wpAnyF_take (i := 2) (oi := ⟨some 59, .fieldAddr 53 (.tmp 58) 0, 0, "soft.go:175", #[⟨1, .data⟩], none⟩) (v := .pointer (some ⟨bf, 0, none⟩)) rfl (by kernel_rfl) (by kernel_rfl) (by kernel_rfl) (by kernel_rfl) (fun _ _ _ h => h) (Or.inl ⟨by kernel_rfl, fun W h => (by first | kernel_rfl | go_simp)⟩) hS ?_
    try simp only [Act.put, z1, z2, z3]
    refine wpAnyF_take (i := 3) (oi := ⟨some 60, .load 51 (.tmp 59), 51, "soft.go:175", #[⟨2, .data⟩], none⟩) (v := .pointer (some ⟨bc, 0, none⟩)) rfl (by kernel_rfl) (by kernel_rfl) (by kernel_rfl) (by kernel_rfl) (fun _ _ _ h => h) (Or.inl ⟨by kernel_rfl, fun W h => Op1.ld_ptr (.tmp 59) (by kernel_rfl) (by kernel_rfl) W (h.1)⟩) hS ?_
    try simp only [Act.put, z1, z2, z3]
    refine wpAnyF_take (i := 4) (oi := ⟨some 61, .move (.tmp 6), 3, "soft.go:175", #[], none⟩) (v := .int .i64 (n : Int)) rfl (by kernel_rfl) (by kernel_rfl) (by kernel_rfl) (by kernel_rfl) (fun _ _ _ h => h) (Or.inl ⟨by kernel_rfl, fun W h => (by first | kernel_rfl | go_simp)⟩) hS ?_
    try simp only [Act.put, z1, z2, z3]
    refine wpAnyF_free (i := 6) (oi := ⟨some 63, .nilCheck (.tmp 60), 0, "soft.go:175", #[⟨3, .data⟩], none⟩) (v := .pointer (some ⟨bc, 0, none⟩)) rfl (by kernel_rfl) (by kernel_rfl) (by kernel_rfl) (by kernel_rfl) (fun _ _ _ h => h) (Or.inl ⟨by kernel_rfl, fun W _ => (by first | kernel_rfl | go_simp)⟩) hS ?_
    try simp only [Act.put, z1, z2, z3]
    refine wpAnyF_free (i := 7) (oi := ⟨some 64, .fieldAddr 57 (.tmp 63) 0, 0, "soft.go:175", #[⟨6, .data⟩], none⟩) (v := .pointer (some ⟨bc, 0, none⟩)) rfl (by kernel_rfl) (by kernel_rfl) (by kernel_rfl) (by kernel_rfl) (fun _ _ _ h => h) (Or.inl ⟨by kernel_rfl, fun W _ => (by first | kernel_rfl | go_simp)⟩) hS ?_
    try simp only [Act.put, z1, z2, z3]
    refine wpAnyF_free (i := 8) (oi := ⟨some 65, .fieldAddr 44 (.tmp 64) 0, 0, "soft.go:175", #[⟨7, .data⟩], none⟩) (v := .pointer (some ⟨bc, 0, none⟩)) rfl (by kernel_rfl) (by kernel_rfl) (by kernel_rfl) (by kernel_rfl) (fun _ _ _ h => h) (Or.inl ⟨by kernel_rfl, fun W _ => (by first | kernel_rfl | go_simp)⟩) hS ?_
    try simp only [Act.put, z1, z2, z3]
    generalize World.drew _ = W4 at hS FM5 ⊢
    refine wpAnyF_one (i := 5) (o := ⟨some 62, .call { callee := .value (.func 85), args := #[], argTypes := #[] }, 34, "soft.go:175", #[], none⟩) (by kernel_rfl) rfl (by kernel_rfl) (fun K hK => ?_)
    go_simp
    refine (free_any W4).mono ?_
    rintro e w5 ⟨rfl, b5⟩
    have FM6 := hide ((unhide FM5).call b5)
    clear b5
    go_wp2_with fail
    have hS1 := PS2.of (unhide FM6) (unhide HM4)
    refine hK.out _ _ (fun _ => hS1) ?_
    clear hK K
    try simp only [Act.put, z1, z2, z3]
    refine wpAnyF_take (i := 9) (oi := ⟨some 66, .indexAddr 35 (.tmp 65) (.tmp 61), 0, "soft.go:175", #[⟨8, .data⟩, ⟨4, .data⟩, ⟨0, .phase⟩, ⟨1, .phase⟩, ⟨2, .phase⟩, ⟨3, .phase⟩, ⟨4, .phase⟩, ⟨5, .phase⟩], none⟩) (v := .pointer (some ⟨bc, n * 5, none⟩)) rfl (by kernel_rfl) (by kernel_rfl) (by kernel_rfl) (by kernel_rfl) (fun _ _ _ h => h) (Or.inl ⟨by kernel_rfl, fun W h => Op1.ix_ino (.tmp 65) (.tmp 61) (by kernel_rfl) (by kernel_rfl) (by kernel_rfl) (hn) W⟩) hS1 ?_
    try simp only [Act.put, z1, z2, z3]
    refine wpAnyF_last (o := ⟨none, .store 34 (.tmp 66) (.tmp 62), 0, "soft.go:175", #[⟨9, .data⟩, ⟨5, .data⟩, ⟨5, .chain⟩, ⟨0, .phase⟩, ⟨1, .phase⟩, ⟨2, .phase⟩, ⟨3, .phase⟩, ⟨4, .phase⟩, ⟨5, .phase⟩], none⟩) (by kernel_rfl) rfl (by kernel_rfl) (by kernel_rfl) (fun K hK => ?_)
    refine Op1.st_part (cells := #[.bool false, .int .i64 0, .int .i64 0, .int .i64 (-1), .int .i64 (-1)]) (o0 := n * 5) 34 (.tmp 66) (.tmp 62) (by kernel_rfl) rfl (by kernel_rfl) (by kernel_rfl) (unhide FM6).row sz_ino (by have := (unhide HM4).size; simp; omega) (by kernel_rfl) ?_
    refine hK.out _ _ ?_
    clear hK K
    try simp only [Act.put, z1, z2, z3]
    refine wpAnyF_done (by kernel_rfl) ?_ _
    have DONE := hide (Fd.ino (unhide FM6) (unhide HM4) hn Ino.none)
    clear hS hS1
    go_wp2_with fail
    go_end0
    exact ⟨rfl, by rw [unhide FIN]; exact unhide DONE⟩
  · have u1 : ((rf : Int) == 0) = false := by simp; omega
    have FIN := hide (show mf = m2 by rw [unhide HQ, unhide HRF, if_neg hz])
    have DONE := hide (show Fd w W3 bf bc ds m2 last from ⟨cs2, unhide FM4, unhide HM4⟩)
    clear hz p3 l3
    go_wp2_with fail
    go_end0
    exact ⟨rfl, by rw [unhide FIN]; exact unhide DONE⟩
end
end Go.Proofs.YtmbpckmpnnmnmacGreat
