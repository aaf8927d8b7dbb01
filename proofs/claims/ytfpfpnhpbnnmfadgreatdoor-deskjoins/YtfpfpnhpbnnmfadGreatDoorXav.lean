/-
  The walk of (*soft.Files).drop. (Written by gendn.py.)
-/
import Derived.Test.YtfpfpnhpbnnmfadGreatDoorXau
namespace Go.Proofs.YtfpfpnhpbnnmfadGreatDoor
open Go.RowKit
open Idl (Stp chk stpA)
section
variable {w w0 w1 : World} {bf bc : Nat} {cs ds rows : Array Value} {m k : Img} {last : Int}
theorem dropped_is {m : Img} {d j n : Nat} {nm : ByteArray} (hT : Img.There m (d : Int) nm j n) : Img.dropped1 m (d : Int) nm = (m.putEnt d j Ent.none).putIno n ⟨m.live n, m.stamp n, m.links n - 1, m.part n 0, m.part n 1⟩ ∧
    Img.dropped m (d : Int) nm = if ((m.putEnt d j Ent.none).putIno n ⟨m.live n, m.stamp n, m.links n - 1, m.part n 0, m.part n 1⟩).refs (n : Int) = 0 then ((m.putEnt d j Ent.none).putIno n ⟨m.live n, m.stamp n, m.links n - 1, m.part n 0, m.part n 1⟩).putIno n Ino.none else (m.putEnt d j Ent.none).putIno n ⟨m.live n, m.stamp n, m.links n - 1, m.part n 0, m.part n 1⟩ := by
  have e1 : Img.dropped1 m (d : Int) nm = (m.putEnt d j Ent.none).putIno n ⟨m.live n, m.stamp n, m.links n - 1, m.part n 0, m.part n 1⟩ := by
    unfold Img.dropped1; rw [hT.of, hT.at_, Int.toNat_natCast, Int.toNat_natCast, Int.toNat_natCast]; rfl
  refine ⟨e1, ?_⟩
  unfold Img.dropped
  rw [e1, hT.of, Int.toNat_natCast]
set_option maxHeartbeats 2000000 in
set_option maxRecDepth 100000 in
theorem sdrop_any (h : Fl w bf bc cs ds m k last) {d j n : Nat} (nm : ByteArray) (hT : Img.There m (d : Int) nm j n) (hlk : 1 ≤ m.links n ∧ m.links n ≤ 100) :
    Calls Tryz.prog 116 #[.pointer (some ⟨bf, 0, none⟩), .int .i64 (d : Int), .string nm] w fun e w' => e = .returned (.tuple #[]) ∧ Fd w w' bf bc ds (Img.dropped m (d : Int) nm) last := by
  have C0 := hide (sfind_any h (d : Int) nm)
  have C1 := hide fun W (h1 : HasAt W bc 0 m) => At.find_any bc m (d : Int) nm W h1
  rw [hT.of] at C0
  rw [hT.at_] at C1
  have hd : d < 3 := by have := hT.d3; omega
  have hj := hT.k4
  have hn := hT.n8
  have HQ := hide (dropped_is hT).2
  generalize Img.dropped m (d : Int) nm = mf at HQ ⊢
  have HM := hide h.now
  have FM0 := hide h.fm
  clear h hT
  go_enter Tryz.func116, Tryz.ntmps116
  go_wp2_with fail
  refine (unhide C0).mono ?_
  rintro e wq ⟨rfl, e9⟩
  rw [e9]
  clear e9 wq
  go_wp2_with fail
  have FM1 := hide ((unhide FM0).call (Below.refl _ _).drew)
  clear FM0 C0
  refine wp_region_F (S := PS2 bf bc m) 20 (by kernel_rfl) (PS2.of (unhide FM1) (unhide HM)) (fun hS => ?_)
  refine wpAnyF_take (i := 0) (oi := { dst := some 11, op := Op.move (Operand.tmp 0), type := 60, pos := "soft.go:172", after := #[], guard := none }) (v := .pointer (some ⟨bf, 0, none⟩)) rfl (by kernel_rfl) (by kernel_rfl) (by kernel_rfl) (by kernel_rfl) (fun _ _ _ h => h) (Or.inl ⟨by kernel_rfl, fun W h => (by first | kernel_rfl | go_simp)⟩) hS ?_
  try simp only [Act.put, List.setIfInBounds_toArray, List.set_cons_zero, List.set_cons_succ]
  refine wpAnyF_take (i := 1) (oi := { dst := some 12, op := Op.nilCheck (Operand.tmp 11), type := 0, pos := "soft.go:172", after := #[{ on := 0, ground := Ground.data }], guard := none }) (v := .pointer (some ⟨bf, 0, none⟩)) rfl (by kernel_rfl) (by kernel_rfl) (by kernel_rfl) (by kernel_rfl) (fun _ _ _ h => h) (Or.inl ⟨by kernel_rfl, fun W h => (by first | kernel_rfl | go_simp)⟩) hS ?_
  try simp only [Act.put, List.setIfInBounds_toArray, List.set_cons_zero, List.set_cons_succ]
  refine wpAnyF_take (i := 2) (oi := { dst := some 13, op := Op.fieldAddr 114 (Operand.tmp 12) 0, type := 0, pos := "soft.go:172", after := #[{ on := 1, ground := Ground.data }], guard := none }) (v := .pointer (some ⟨bf, 0, none⟩)) rfl (by kernel_rfl) (by kernel_rfl) (by kernel_rfl) (by kernel_rfl) (fun _ _ _ h => h) (Or.inl ⟨by kernel_rfl, fun W h => (by first | kernel_rfl | go_simp)⟩) hS ?_
  try simp only [Act.put, List.setIfInBounds_toArray, List.set_cons_zero, List.set_cons_succ]
  refine wpAnyF_take (i := 3) (oi := { dst := some 14, op := Op.load 111 (Operand.tmp 13), type := 111, pos := "soft.go:172", after := #[{ on := 2, ground := Ground.data }], guard := none }) (v := .pointer (some ⟨bc, 0, none⟩)) rfl (by kernel_rfl) (by kernel_rfl) (by kernel_rfl) (by kernel_rfl) (fun _ _ _ h => h) (Or.inl ⟨by kernel_rfl, fun W h => Op1.ld_ptr (.tmp 13) (by kernel_rfl) (by kernel_rfl) W (h.1)⟩) hS ?_
  try simp only [Act.put, List.setIfInBounds_toArray, List.set_cons_zero, List.set_cons_succ]
  refine wpAnyF_take (i := 4) (oi := { dst := some 15, op := Op.move (Operand.tmp 1), type := 3, pos := "soft.go:172", after := #[], guard := none }) (v := .int .i64 (d : Int)) rfl (by kernel_rfl) (by kernel_rfl) (by kernel_rfl) (by kernel_rfl) (fun _ _ _ h => h) (Or.inl ⟨by kernel_rfl, fun W h => (by first | kernel_rfl | go_simp)⟩) hS ?_
  try simp only [Act.put, List.setIfInBounds_toArray, List.set_cons_zero, List.set_cons_succ]
  refine wpAnyF_take (i := 5) (oi := { dst := some 16, op := Op.move (Operand.tmp 0), type := 60, pos := "soft.go:172", after := #[], guard := none }) (v := .pointer (some ⟨bf, 0, none⟩)) rfl (by kernel_rfl) (by kernel_rfl) (by kernel_rfl) (by kernel_rfl) (fun _ _ _ h => h) (Or.inl ⟨by kernel_rfl, fun W h => (by first | kernel_rfl | go_simp)⟩) hS ?_
  try simp only [Act.put, List.setIfInBounds_toArray, List.set_cons_zero, List.set_cons_succ]
  refine wpAnyF_take (i := 6) (oi := { dst := some 17, op := Op.nilCheck (Operand.tmp 16), type := 0, pos := "soft.go:172", after := #[{ on := 5, ground := Ground.data }], guard := none }) (v := .pointer (some ⟨bf, 0, none⟩)) rfl (by kernel_rfl) (by kernel_rfl) (by kernel_rfl) (by kernel_rfl) (fun _ _ _ h => h) (Or.inl ⟨by kernel_rfl, fun W h => (by first | kernel_rfl | go_simp)⟩) hS ?_
  try simp only [Act.put, List.setIfInBounds_toArray, List.set_cons_zero, List.set_cons_succ]
  refine wpAnyF_take (i := 7) (oi := { dst := some 18, op := Op.fieldAddr 114 (Operand.tmp 17) 0, type := 0, pos := "soft.go:172", after := #[{ on := 6, ground := Ground.data }], guard := none }) (v := .pointer (some ⟨bf, 0, none⟩)) rfl (by kernel_rfl) (by kernel_rfl) (by kernel_rfl) (by kernel_rfl) (fun _ _ _ h => h) (Or.inl ⟨by kernel_rfl, fun W h => (by first | kernel_rfl | go_simp)⟩) hS ?_
  try simp only [Act.put, List.setIfInBounds_toArray, List.set_cons_zero, List.set_cons_succ]
  refine wpAnyF_take (i := 8) (oi := { dst := some 19, op := Op.load 111 (Operand.tmp 18), type := 111, pos := "soft.go:172", after := #[{ on := 7, ground := Ground.data }], guard := none }) (v := .pointer (some ⟨bc, 0, none⟩)) rfl (by kernel_rfl) (by kernel_rfl) (by kernel_rfl) (by kernel_rfl) (fun _ _ _ h => h) (Or.inl ⟨by kernel_rfl, fun W h => Op1.ld_ptr (.tmp 18) (by kernel_rfl) (by kernel_rfl) W (h.1)⟩) hS ?_
  try simp only [Act.put, List.setIfInBounds_toArray, List.set_cons_zero, List.set_cons_succ]
  refine wpAnyF_take (i := 9) (oi := { dst := some 20, op := Op.nilCheck (Operand.tmp 19), type := 0, pos := "soft.go:172", after := #[{ on := 8, ground := Ground.data }], guard := none }) (v := .pointer (some ⟨bc, 0, none⟩)) rfl (by kernel_rfl) (by kernel_rfl) (by kernel_rfl) (by kernel_rfl) (fun _ _ _ h => h) (Or.inl ⟨by kernel_rfl, fun W h => (by first | kernel_rfl | go_simp)⟩) hS ?_
  try simp only [Act.put, List.setIfInBounds_toArray, List.set_cons_zero, List.set_cons_succ]
  refine wpAnyF_take (i := 10) (oi := { dst := some 21, op := Op.fieldAddr 141 (Operand.tmp 20) 0, type := 0, pos := "soft.go:172", after := #[{ on := 9, ground := Ground.data }], guard := none }) (v := .pointer (some ⟨bc, 0, none⟩)) rfl (by kernel_rfl) (by kernel_rfl) (by kernel_rfl) (by kernel_rfl) (fun _ _ _ h => h) (Or.inl ⟨by kernel_rfl, fun W h => (by first | kernel_rfl | go_simp)⟩) hS ?_
  try simp only [Act.put, List.setIfInBounds_toArray, List.set_cons_zero, List.set_cons_succ]
  refine wpAnyF_take (i := 11) (oi := { dst := some 22, op := Op.move (Operand.tmp 1), type := 3, pos := "soft.go:172", after := #[], guard := none }) (v := .int .i64 (d : Int)) rfl (by kernel_rfl) (by kernel_rfl) (by kernel_rfl) (by kernel_rfl) (fun _ _ _ h => h) (Or.inl ⟨by kernel_rfl, fun W h => (by first | kernel_rfl | go_simp)⟩) hS ?_
  try simp only [Act.put, List.setIfInBounds_toArray, List.set_cons_zero, List.set_cons_succ]
  refine wpAnyF_take (i := 12) (oi := { dst := some 23, op := Op.move (Operand.tmp 2), type := 9, pos := "soft.go:172", after := #[], guard := none }) (v := .string nm) rfl (by kernel_rfl) (by kernel_rfl) (by kernel_rfl) (by kernel_rfl) (fun _ _ _ h => h) (Or.inl ⟨by kernel_rfl, fun W h => (by first | kernel_rfl | go_simp)⟩) hS ?_
  try simp only [Act.put, List.setIfInBounds_toArray, List.set_cons_zero, List.set_cons_succ]
  refine wpAnyF_take (i := 14) (oi := { dst := some 25, op := Op.build 71 #[], type := 71, pos := "soft.go:172", after := #[], guard := none }) (v := .agg #[.string ⟨#[]⟩, .int .i64 0, .int .i64 0]) rfl (by kernel_rfl) (by kernel_rfl) (by kernel_rfl) (by kernel_rfl) (fun _ _ _ h => h) (Or.inl ⟨by kernel_rfl, fun W h => (by first | kernel_rfl | go_simp)⟩) hS ?_
  try simp only [Act.put, List.setIfInBounds_toArray, List.set_cons_zero, List.set_cons_succ]
  refine wpAnyF_free (i := 15) (oi := { dst := some 26, op := Op.nilCheck (Operand.tmp 14), type := 0, pos := "soft.go:172", after := #[{ on := 3, ground := Ground.data }], guard := none }) (v := .pointer (some ⟨bc, 0, none⟩)) rfl (by kernel_rfl) (by kernel_rfl) (by kernel_rfl) (by kernel_rfl) (fun _ _ _ h => h) (Or.inl ⟨by kernel_rfl, fun W _ => (by first | kernel_rfl | go_simp)⟩) hS ?_
  try simp only [Act.put, List.setIfInBounds_toArray, List.set_cons_zero, List.set_cons_succ]
  refine wpAnyF_free (i := 16) (oi := { dst := some 27, op := Op.fieldAddr 141 (Operand.tmp 26) 0, type := 0, pos := "soft.go:172", after := #[{ on := 15, ground := Ground.data }], guard := none }) (v := .pointer (some ⟨bc, 0, none⟩)) rfl (by kernel_rfl) (by kernel_rfl) (by kernel_rfl) (by kernel_rfl) (fun _ _ _ h => h) (Or.inl ⟨by kernel_rfl, fun W _ => (by first | kernel_rfl | go_simp)⟩) hS ?_
  try simp only [Act.put, List.setIfInBounds_toArray, List.set_cons_zero, List.set_cons_succ]
  refine wpAnyF_free (i := 17) (oi := { dst := some 28, op := Op.fieldAddr 78 (Operand.tmp 27) 1, type := 0, pos := "soft.go:172", after := #[{ on := 16, ground := Ground.data }], guard := none }) (v := .pointer (some ⟨bc, 40, none⟩)) rfl (by kernel_rfl) (by kernel_rfl) (by kernel_rfl) (by kernel_rfl) (fun _ _ _ h => h) (Or.inl ⟨by kernel_rfl, fun W _ => (by first | kernel_rfl | go_simp)⟩) hS ?_
  try simp only [Act.put, List.setIfInBounds_toArray, List.set_cons_zero, List.set_cons_succ]
  refine wpAnyF_free (i := 18) (oi := { dst := some 29, op := Op.indexAddr 73 (Operand.tmp 28) (Operand.tmp 15), type := 0, pos := "soft.go:172", after := #[{ on := 17, ground := Ground.data }, { on := 4, ground := Ground.data }], guard := none }) (v := .pointer (some ⟨bc, 40 + d * 12, none⟩)) rfl (by kernel_rfl) (by kernel_rfl) (by kernel_rfl) (by kernel_rfl) (fun _ _ _ h => h) (Or.inl ⟨by kernel_rfl, fun W _ => Op1.ix_dir (.tmp 28) (.tmp 15) (by kernel_rfl) (by kernel_rfl) (by kernel_rfl) (hd) W⟩) hS ?_
  try simp only [Act.put, List.setIfInBounds_toArray, List.set_cons_zero, List.set_cons_succ]
  generalize World.drew _ = W0 at hS FM1 ⊢
  refine wpAnyF_one (i := 13) (o := { dst := some 24, op := Op.call { callee := Callee.value (Operand.func 88), args := #[Operand.tmp 21, Operand.tmp 22, Operand.tmp 23], argTypes := #[108, 3, 9] }, type := 3, pos := "soft.go:172", after := #[{ on := 10, ground := Ground.data }, { on := 11, ground := Ground.data }, { on := 12, ground := Ground.data }], guard := none }) (by kernel_rfl) rfl (by kernel_rfl) (fun K hK => ?_)
  go_simp
  refine (unhide C1 W0 hS.2).mono ?_
  rintro e w1 ⟨rfl, e9⟩
  rw [e9]
  clear e9 w1
  go_wp2_with fail
  have hS1 := hS
  refine hK.out _ _ (fun _ => hS1) ?_
  clear hK K
  try simp only [Act.put, List.setIfInBounds_toArray, List.set_cons_zero, List.set_cons_succ]
  refine wpAnyF_take (i := 19) (oi := { dst := some 30, op := Op.indexAddr 72 (Operand.tmp 29) (Operand.tmp 24), type := 0, pos := "soft.go:172", after := #[{ on := 18, ground := Ground.data }, { on := 13, ground := Ground.data }, { on := 0, ground := Ground.phase }, { on := 1, ground := Ground.phase }, { on := 2, ground := Ground.phase }, { on := 3, ground := Ground.phase }, { on := 4, ground := Ground.phase }, { on := 5, ground := Ground.phase }, { on := 6, ground := Ground.phase }, { on := 7, ground := Ground.phase }, { on := 8, ground := Ground.phase }, { on := 9, ground := Ground.phase }, { on := 10, ground := Ground.phase }, { on := 11, ground := Ground.phase }, { on := 12, ground := Ground.phase }, { on := 13, ground := Ground.phase }, { on := 14, ground := Ground.phase }], guard := none }) (v := .pointer (some ⟨bc, 40 + d * 12 + j * 3, none⟩)) rfl (by kernel_rfl) (by kernel_rfl) (by kernel_rfl) (by kernel_rfl) (fun _ _ _ h => h) (Or.inl ⟨by kernel_rfl, fun W h => Op1.ix_slot (.tmp 29) (.tmp 24) (by kernel_rfl) (by kernel_rfl) (by kernel_rfl) (hj) W⟩) hS1 ?_
  try simp only [Act.put, List.setIfInBounds_toArray, List.set_cons_zero, List.set_cons_succ]
  refine wpAnyF_last (o := { dst := none, op := Op.store 71 (Operand.tmp 30) (Operand.tmp 25), type := 0, pos := "soft.go:172", after := #[{ on := 19, ground := Ground.data }, { on := 14, ground := Ground.data }, { on := 13, ground := Ground.chain }, { on := 0, ground := Ground.phase }, { on := 1, ground := Ground.phase }, { on := 2, ground := Ground.phase }, { on := 3, ground := Ground.phase }, { on := 4, ground := Ground.phase }, { on := 5, ground := Ground.phase }, { on := 6, ground := Ground.phase }, { on := 7, ground := Ground.phase }, { on := 8, ground := Ground.phase }, { on := 9, ground := Ground.phase }, { on := 10, ground := Ground.phase }, { on := 11, ground := Ground.phase }, { on := 12, ground := Ground.phase }, { on := 13, ground := Ground.phase }, { on := 14, ground := Ground.phase }], guard := none }) (by kernel_rfl) rfl (by kernel_rfl) (by kernel_rfl) (fun K hK => ?_)
  refine Op1.st_part (cells := #[.string ⟨#[]⟩, .int .i64 0, .int .i64 0]) (o0 := 40 + d * 12 + j * 3) 71 (.tmp 30) (.tmp 25) (by kernel_rfl) rfl (by kernel_rfl) (by kernel_rfl) (unhide FM1).row sz_ent (by have := (unhide HM).size; simp; omega) (by kernel_rfl) ?_
  refine hK.out _ _ ?_
  clear hK K
  try simp only [Act.put, List.setIfInBounds_toArray, List.set_cons_zero, List.set_cons_succ]
  refine wpAnyF_done (by kernel_rfl) ?_ _
  obtain ⟨cs1, f3, hm3⟩ := Fd.ent (unhide FM1) (unhide HM) hd hj Ent.none (Nat.zero_le _)
  have FM2 := hide f3
  have HM2 := hide hm3
  clear f3 hm3 hS hS1 FM1 HM C1
  obtain ⟨m1, hm1⟩ : ∃ m1, m1 = m.putEnt d j Ent.none := ⟨_, rfl⟩
  have HE := hide (show m1.live n = m.live n ∧ m1.stamp n = m.stamp n ∧ m1.links n = m.links n ∧ m1.part n 0 = m.part n 0 ∧ m1.part n 1 = m.part n 1 by rw [hm1]; exact ⟨rfl, rfl, rfl, rfl, rfl⟩)
  rw [← hm1] at HM2 HQ
  clear hm1
  have el := (unhide HE).2.2.1
  rw [← (unhide HE).1, ← (unhide HE).2.1, ← el, ← (unhide HE).2.2.2.1, ← (unhide HE).2.2.2.2] at HQ
  rw [← el] at hlk
  clear el HE
  have FM2' : Hid (Fm w (W0.setRow bc (splice (cs ++ ds) (40 + d * 12 + j * 3) #[.string ⟨#[]⟩, .int .i64 0, .int .i64 0])) bf bc (cs1 ++ ds) last) := FM2
  clear FM2
  have FM2 := FM2'
  clear FM2'
  generalize W0.setRow bc (splice (cs ++ ds) (40 + d * 12 + j * 3) #[.string ⟨#[]⟩, .int .i64 0, .int .i64 0]) = W1 at FM2 ⊢
  go_wp2_with fail
  have FM3 := hide ((unhide FM2).call (Below.refl _ _).drew)
  clear FM2
  refine wp_region_F (S := PS2 bf bc m1) 17 (by kernel_rfl) (PS2.of (unhide FM3) (unhide HM2)) (fun hS => ?_)
  refine wpAnyF_take (i := 0) (oi := { dst := some 31, op := Op.move (Operand.tmp 0), type := 60, pos := "soft.go:173", after := #[], guard := none }) (v := .pointer (some ⟨bf, 0, none⟩)) rfl (by kernel_rfl) (by kernel_rfl) (by kernel_rfl) (by kernel_rfl) (fun _ _ _ h => h) (Or.inl ⟨by kernel_rfl, fun W h => (by first | kernel_rfl | go_simp)⟩) hS ?_
  try simp only [Act.put, List.setIfInBounds_toArray, List.set_cons_zero, List.set_cons_succ]
  refine wpAnyF_take (i := 1) (oi := { dst := some 32, op := Op.nilCheck (Operand.tmp 31), type := 0, pos := "soft.go:173", after := #[{ on := 0, ground := Ground.data }], guard := none }) (v := .pointer (some ⟨bf, 0, none⟩)) rfl (by kernel_rfl) (by kernel_rfl) (by kernel_rfl) (by kernel_rfl) (fun _ _ _ h => h) (Or.inl ⟨by kernel_rfl, fun W h => (by first | kernel_rfl | go_simp)⟩) hS ?_
  try simp only [Act.put, List.setIfInBounds_toArray, List.set_cons_zero, List.set_cons_succ]
  refine wpAnyF_take (i := 2) (oi := { dst := some 33, op := Op.fieldAddr 114 (Operand.tmp 32) 0, type := 0, pos := "soft.go:173", after := #[{ on := 1, ground := Ground.data }], guard := none }) (v := .pointer (some ⟨bf, 0, none⟩)) rfl (by kernel_rfl) (by kernel_rfl) (by kernel_rfl) (by kernel_rfl) (fun _ _ _ h => h) (Or.inl ⟨by kernel_rfl, fun W h => (by first | kernel_rfl | go_simp)⟩) hS ?_
  try simp only [Act.put, List.setIfInBounds_toArray, List.set_cons_zero, List.set_cons_succ]
  refine wpAnyF_take (i := 3) (oi := { dst := some 34, op := Op.load 111 (Operand.tmp 33), type := 111, pos := "soft.go:173", after := #[{ on := 2, ground := Ground.data }], guard := none }) (v := .pointer (some ⟨bc, 0, none⟩)) rfl (by kernel_rfl) (by kernel_rfl) (by kernel_rfl) (by kernel_rfl) (fun _ _ _ h => h) (Or.inl ⟨by kernel_rfl, fun W h => Op1.ld_ptr (.tmp 33) (by kernel_rfl) (by kernel_rfl) W (h.1)⟩) hS ?_
  try simp only [Act.put, List.setIfInBounds_toArray, List.set_cons_zero, List.set_cons_succ]
  refine wpAnyF_take (i := 4) (oi := { dst := some 35, op := Op.move (Operand.tmp 6), type := 3, pos := "soft.go:173", after := #[], guard := none }) (v := .int .i64 (n : Int)) rfl (by kernel_rfl) (by kernel_rfl) (by kernel_rfl) (by kernel_rfl) (fun _ _ _ h => h) (Or.inl ⟨by kernel_rfl, fun W h => (by first | kernel_rfl | go_simp)⟩) hS ?_
  try simp only [Act.put, List.setIfInBounds_toArray, List.set_cons_zero, List.set_cons_succ]
  refine wpAnyF_take (i := 5) (oi := { dst := some 36, op := Op.nilCheck (Operand.tmp 34), type := 0, pos := "soft.go:173", after := #[{ on := 3, ground := Ground.data }], guard := none }) (v := .pointer (some ⟨bc, 0, none⟩)) rfl (by kernel_rfl) (by kernel_rfl) (by kernel_rfl) (by kernel_rfl) (fun _ _ _ h => h) (Or.inl ⟨by kernel_rfl, fun W h => (by first | kernel_rfl | go_simp)⟩) hS ?_
  try simp only [Act.put, List.setIfInBounds_toArray, List.set_cons_zero, List.set_cons_succ]
  refine wpAnyF_take (i := 6) (oi := { dst := some 37, op := Op.fieldAddr 141 (Operand.tmp 36) 0, type := 0, pos := "soft.go:173", after := #[{ on := 5, ground := Ground.data }], guard := none }) (v := .pointer (some ⟨bc, 0, none⟩)) rfl (by kernel_rfl) (by kernel_rfl) (by kernel_rfl) (by kernel_rfl) (fun _ _ _ h => h) (Or.inl ⟨by kernel_rfl, fun W h => (by first | kernel_rfl | go_simp)⟩) hS ?_
  try simp only [Act.put, List.setIfInBounds_toArray, List.set_cons_zero, List.set_cons_succ]
  refine wpAnyF_take (i := 7) (oi := { dst := some 38, op := Op.fieldAddr 78 (Operand.tmp 37) 0, type := 0, pos := "soft.go:173", after := #[{ on := 6, ground := Ground.data }], guard := none }) (v := .pointer (some ⟨bc, 0, none⟩)) rfl (by kernel_rfl) (by kernel_rfl) (by kernel_rfl) (by kernel_rfl) (fun _ _ _ h => h) (Or.inl ⟨by kernel_rfl, fun W h => (by first | kernel_rfl | go_simp)⟩) hS ?_
  try simp only [Act.put, List.setIfInBounds_toArray, List.set_cons_zero, List.set_cons_succ]
  refine wpAnyF_take (i := 8) (oi := { dst := some 39, op := Op.indexAddr 69 (Operand.tmp 38) (Operand.tmp 35), type := 0, pos := "soft.go:173", after := #[{ on := 7, ground := Ground.data }, { on := 4, ground := Ground.data }], guard := none }) (v := .pointer (some ⟨bc, n * 5, none⟩)) rfl (by kernel_rfl) (by kernel_rfl) (by kernel_rfl) (by kernel_rfl) (fun _ _ _ h => h) (Or.inl ⟨by kernel_rfl, fun W h => Op1.ix_ino (.tmp 38) (.tmp 35) (by kernel_rfl) (by kernel_rfl) (by kernel_rfl) (hn) W⟩) hS ?_
  try simp only [Act.put, List.setIfInBounds_toArray, List.set_cons_zero, List.set_cons_succ]
  refine wpAnyF_take (i := 9) (oi := { dst := some 40, op := Op.fieldAddr 68 (Operand.tmp 39) 2, type := 0, pos := "soft.go:173", after := #[{ on := 8, ground := Ground.data }], guard := none }) (v := .pointer (some ⟨bc, n * 5 + 2, none⟩)) rfl (by kernel_rfl) (by kernel_rfl) (by kernel_rfl) (by kernel_rfl) (fun _ _ _ h => h) (Or.inl ⟨by kernel_rfl, fun W h => (by first | kernel_rfl | go_simp)⟩) hS ?_
  try simp only [Act.put, List.setIfInBounds_toArray, List.set_cons_zero, List.set_cons_succ]
  refine wpAnyF_take (i := 10) (oi := { dst := some 41, op := Op.load 3 (Operand.tmp 40), type := 3, pos := "soft.go:173", after := #[{ on := 9, ground := Ground.data }], guard := none }) (v := .int .i64 (m1.links n)) rfl (by kernel_rfl) (by kernel_rfl) (by kernel_rfl) (by kernel_rfl) (fun _ _ _ h => h) (Or.inl ⟨by kernel_rfl, fun W h => Op1.ld_int (.tmp 40) (by kernel_rfl) (by kernel_rfl) W (by have := h.2.links n hn; rw [Nat.zero_add] at this; exact this)⟩) hS ?_
  try simp only [Act.put, List.setIfInBounds_toArray, List.set_cons_zero, List.set_cons_succ]
  refine wpAnyF_take (i := 11) (oi := { dst := some 42, op := Op.binOp BinOp.sub 3 (Operand.tmp 41) (Operand.const (Value.int IntKind.i64 1)) 3, type := 3, pos := "soft.go:173", after := #[{ on := 10, ground := Ground.data }], guard := none }) (v := .int .i64 (m1.links n - 1)) rfl (by kernel_rfl) (by kernel_rfl) (by kernel_rfl) (by kernel_rfl) (fun _ _ _ h => h) (Or.inl ⟨by kernel_rfl, fun W h => Op1.sub1 (.tmp 41) (by kernel_rfl) (by kernel_rfl) (by kernel_rfl) (by omega) W⟩) hS ?_
  try simp only [Act.put, List.setIfInBounds_toArray, List.set_cons_zero, List.set_cons_succ]
  refine wpAnyF_free (i := 12) (oi := { dst := some 43, op := Op.nilCheck (Operand.tmp 34), type := 0, pos := "soft.go:173", after := #[{ on := 3, ground := Ground.data }], guard := none }) (v := .pointer (some ⟨bc, 0, none⟩)) rfl (by kernel_rfl) (by kernel_rfl) (by kernel_rfl) (by kernel_rfl) (fun _ _ _ h => h) (Or.inl ⟨by kernel_rfl, fun W _ => (by first | kernel_rfl | go_simp)⟩) hS ?_
  try simp only [Act.put, List.setIfInBounds_toArray, List.set_cons_zero, List.set_cons_succ]
  refine wpAnyF_free (i := 13) (oi := { dst := some 44, op := Op.fieldAddr 141 (Operand.tmp 43) 0, type := 0, pos := "soft.go:173", after := #[{ on := 12, ground := Ground.data }], guard := none }) (v := .pointer (some ⟨bc, 0, none⟩)) rfl (by kernel_rfl) (by kernel_rfl) (by kernel_rfl) (by kernel_rfl) (fun _ _ _ h => h) (Or.inl ⟨by kernel_rfl, fun W _ => (by first | kernel_rfl | go_simp)⟩) hS ?_
  try simp only [Act.put, List.setIfInBounds_toArray, List.set_cons_zero, List.set_cons_succ]
  refine wpAnyF_free (i := 14) (oi := { dst := some 45, op := Op.fieldAddr 78 (Operand.tmp 44) 0, type := 0, pos := "soft.go:173", after := #[{ on := 13, ground := Ground.data }], guard := none }) (v := .pointer (some ⟨bc, 0, none⟩)) rfl (by kernel_rfl) (by kernel_rfl) (by kernel_rfl) (by kernel_rfl) (fun _ _ _ h => h) (Or.inl ⟨by kernel_rfl, fun W _ => (by first | kernel_rfl | go_simp)⟩) hS ?_
  try simp only [Act.put, List.setIfInBounds_toArray, List.set_cons_zero, List.set_cons_succ]
  refine wpAnyF_free (i := 15) (oi := { dst := some 46, op := Op.indexAddr 69 (Operand.tmp 45) (Operand.tmp 35), type := 0, pos := "soft.go:173", after := #[{ on := 14, ground := Ground.data }, { on := 4, ground := Ground.data }, { on := 0, ground := Ground.phase }, { on := 1, ground := Ground.phase }, { on := 2, ground := Ground.phase }, { on := 3, ground := Ground.phase }, { on := 4, ground := Ground.phase }, { on := 5, ground := Ground.phase }, { on := 6, ground := Ground.phase }, { on := 7, ground := Ground.phase }, { on := 8, ground := Ground.phase }, { on := 9, ground := Ground.phase }, { on := 10, ground := Ground.phase }, { on := 11, ground := Ground.phase }], guard := none }) (v := .pointer (some ⟨bc, n * 5, none⟩)) rfl (by kernel_rfl) (by kernel_rfl) (by kernel_rfl) (by kernel_rfl) (fun _ _ _ h => h) (Or.inl ⟨by kernel_rfl, fun W _ => Op1.ix_ino (.tmp 45) (.tmp 35) (by kernel_rfl) (by kernel_rfl) (by kernel_rfl) (hn) W⟩) hS ?_
  try simp only [Act.put, List.setIfInBounds_toArray, List.set_cons_zero, List.set_cons_succ]
  refine wpAnyF_take (i := 16) (oi := { dst := some 47, op := Op.fieldAddr 68 (Operand.tmp 46) 2, type := 0, pos := "soft.go:173", after := #[{ on := 15, ground := Ground.data }, { on := 0, ground := Ground.phase }, { on := 1, ground := Ground.phase }, { on := 2, ground := Ground.phase }, { on := 3, ground := Ground.phase }, { on := 4, ground := Ground.phase }, { on := 5, ground := Ground.phase }, { on := 6, ground := Ground.phase }, { on := 7, ground := Ground.phase }, { on := 8, ground := Ground.phase }, { on := 9, ground := Ground.phase }, { on := 10, ground := Ground.phase }, { on := 11, ground := Ground.phase }], guard := none }) (v := .pointer (some ⟨bc, n * 5 + 2, none⟩)) rfl (by kernel_rfl) (by kernel_rfl) (by kernel_rfl) (by kernel_rfl) (fun _ _ _ h => h) (Or.inl ⟨by kernel_rfl, fun W h => (by first | kernel_rfl | go_simp)⟩) hS ?_
  try simp only [Act.put, List.setIfInBounds_toArray, List.set_cons_zero, List.set_cons_succ]
  generalize World.drew _ = W2 at hS FM3 ⊢
  refine wpAnyF_last (o := { dst := none, op := Op.store 3 (Operand.tmp 47) (Operand.tmp 42), type := 0, pos := "soft.go:173", after := #[{ on := 16, ground := Ground.data }, { on := 11, ground := Ground.data }, { on := 0, ground := Ground.phase }, { on := 1, ground := Ground.phase }, { on := 2, ground := Ground.phase }, { on := 3, ground := Ground.phase }, { on := 4, ground := Ground.phase }, { on := 5, ground := Ground.phase }, { on := 6, ground := Ground.phase }, { on := 7, ground := Ground.phase }, { on := 8, ground := Ground.phase }, { on := 9, ground := Ground.phase }, { on := 10, ground := Ground.phase }, { on := 11, ground := Ground.phase }], guard := none }) (by kernel_rfl) rfl (by kernel_rfl) (by kernel_rfl) (fun K hK => ?_)
  refine Op1.st_int (v := m1.links n - 1) (.tmp 47) (.tmp 42) (by kernel_rfl) rfl (by kernel_rfl) (by kernel_rfl) (by have := hS.2.links n hn; rw [Nat.zero_add] at this; exact this) ((unhide FM3).frozen _) ?_
  refine hK.out _ _ ?_
  clear hK K
  try simp only [Act.put, List.setIfInBounds_toArray, List.set_cons_zero, List.set_cons_succ]
  refine wpAnyF_done (by kernel_rfl) ?_ _
  obtain ⟨cs2, f4, hm4⟩ := Fd.lnk (unhide FM3) (unhide HM2) hn (m1.links n - 1)
  have FM4 := hide f4
  have HM4 := hide hm4
  clear f4 hm4 hS FM3 HM2
  generalize W2.setCell ⟨bc, n * 5 + 2, none⟩ (.int .i64 (m1.links n - 1)) = W3 at FM4 ⊢
  generalize m1.putIno n ⟨m1.live n, m1.stamp n, m1.links n - 1, m1.part n 0, m1.part n 1⟩ = m2 at HM4 HQ
  have p3 := (unhide FM4).ptr
  have l3 := (unhide FM4).flt
  have C2 := hide (At.refs_any bc m2 (n : Int) W3 ((unhide FM4).has (unhide HM4)))
  generalize hrf : m2.refs (n : Int) = rf at C2
  have HRF := hide hrf
  clear hrf
  go_wp2_with fail
  refine (unhide C2).mono ?_
  rintro e wq ⟨rfl, e9⟩
  rw [e9]
  clear e9 wq C2
  by_cases hz : rf = 0
  · have u1 : ((rf : Int) == 0) = true := by simp [hz]
    have FIN := hide (show mf = m2.putIno n Ino.none by rw [unhide HQ, unhide HRF, if_pos hz])
    clear hz p3 l3
    go_wp2_with fail
    have FM5 := hide ((unhide FM4).call (Below.refl _ _).drew)
    clear FM4
    refine wp_region_F (S := PS2 bf bc m2) 10 (by kernel_rfl) (PS2.of (unhide FM5) (unhide HM4)) (fun hS => ?_)
    refine wpAnyF_take (i := 0) (oi := { dst := some 57, op := Op.move (Operand.tmp 0), type := 60, pos := "soft.go:175", after := #[], guard := none }) (v := .pointer (some ⟨bf, 0, none⟩)) rfl (by kernel_rfl) (by kernel_rfl) (by kernel_rfl) (by kernel_rfl) (fun _ _ _ h => h) (Or.inl ⟨by kernel_rfl, fun W h => (by first | kernel_rfl | go_simp)⟩) hS ?_
    try simp only [Act.put, List.setIfInBounds_toArray, List.set_cons_zero, List.set_cons_succ]
    refine wpAnyF_take (i := 1) (oi := { dst := some 58, op := Op.nilCheck (Operand.tmp 57), type := 0, pos := "soft.go:175", after := #[{ on := 0, ground := Ground.data }], guard := none }) (v := .pointer (some ⟨bf, 0, none⟩)) rfl (by kernel_rfl) (by kernel_rfl) (by kernel_rfl) (by kernel_rfl) (fun _ _ _ h => h) (Or.inl ⟨by kernel_rfl, fun W h => (by first | kernel_rfl | go_simp)⟩) hS ?_
    try simp only [Act.put, List.setIfInBounds_toArray, List.set_cons_zero, List.set_cons_succ]
    refine wpAnyF_take (i := 2) (oi := { dst := some 59, op := Op.fieldAddr 114 (Operand.tmp 58) 0, type := 0, pos := "soft.go:175", after := #[{ on := 1, ground := Ground.data }], guard := none }) (v := .pointer (some ⟨bf, 0, none⟩)) rfl (by kernel_rfl) (by kernel_rfl) (by kernel_rfl) (by kernel_rfl) (fun _ _ _ h => h) (Or.inl ⟨by kernel_rfl, fun W h => (by first | kernel_rfl | go_simp)⟩) hS ?_
    try simp only [Act.put, List.setIfInBounds_toArray, List.set_cons_zero, List.set_cons_succ]
    refine wpAnyF_take (i := 3) (oi := { dst := some 60, op := Op.load 111 (Operand.tmp 59), type := 111, pos := "soft.go:175", after := #[{ on := 2, ground := Ground.data }], guard := none }) (v := .pointer (some ⟨bc, 0, none⟩)) rfl (by kernel_rfl) (by kernel_rfl) (by kernel_rfl) (by kernel_rfl) (fun _ _ _ h => h) (Or.inl ⟨by kernel_rfl, fun W h => Op1.ld_ptr (.tmp 59) (by kernel_rfl) (by kernel_rfl) W (h.1)⟩) hS ?_
    try simp only [Act.put, List.setIfInBounds_toArray, List.set_cons_zero, List.set_cons_succ]
    refine wpAnyF_take (i := 4) (oi := { dst := some 61, op := Op.move (Operand.tmp 6), type := 3, pos := "soft.go:175", after := #[], guard := none }) (v := .int .i64 (n : Int)) rfl (by kernel_rfl) (by kernel_rfl) (by kernel_rfl) (by kernel_rfl) (fun _ _ _ h => h) (Or.inl ⟨by kernel_rfl, fun W h => (by first | kernel_rfl | go_simp)⟩) hS ?_
    try simp only [Act.put, List.setIfInBounds_toArray, List.set_cons_zero, List.set_cons_succ]
    refine wpAnyF_free (i := 6) (oi := { dst := some 63, op := Op.nilCheck (Operand.tmp 60), type := 0, pos := "soft.go:175", after := #[{ on := 3, ground := Ground.data }], guard := none }) (v := .pointer (some ⟨bc, 0, none⟩)) rfl (by kernel_rfl) (by kernel_rfl) (by kernel_rfl) (by kernel_rfl) (fun _ _ _ h => h) (Or.inl ⟨by kernel_rfl, fun W _ => (by first | kernel_rfl | go_simp)⟩) hS ?_
    try simp only [Act.put, List.setIfInBounds_toArray, List.set_cons_zero, List.set_cons_succ]
    refine wpAnyF_free (i := 7) (oi := { dst := some 64, op := Op.fieldAddr 141 (Operand.tmp 63) 0, type := 0, pos := "soft.go:175", after := #[{ on := 6, ground := Ground.data }], guard := none }) (v := .pointer (some ⟨bc, 0, none⟩)) rfl (by kernel_rfl) (by kernel_rfl) (by kernel_rfl) (by kernel_rfl) (fun _ _ _ h => h) (Or.inl ⟨by kernel_rfl, fun W _ => (by first | kernel_rfl | go_simp)⟩) hS ?_
    try simp only [Act.put, List.setIfInBounds_toArray, List.set_cons_zero, List.set_cons_succ]
    refine wpAnyF_free (i := 8) (oi := { dst := some 65, op := Op.fieldAddr 78 (Operand.tmp 64) 0, type := 0, pos := "soft.go:175", after := #[{ on := 7, ground := Ground.data }], guard := none }) (v := .pointer (some ⟨bc, 0, none⟩)) rfl (by kernel_rfl) (by kernel_rfl) (by kernel_rfl) (by kernel_rfl) (fun _ _ _ h => h) (Or.inl ⟨by kernel_rfl, fun W _ => (by first | kernel_rfl | go_simp)⟩) hS ?_
    try simp only [Act.put, List.setIfInBounds_toArray, List.set_cons_zero, List.set_cons_succ]
    generalize World.drew _ = W4 at hS FM5 ⊢
    refine wpAnyF_one (i := 5) (o := { dst := some 62, op := Op.call { callee := Callee.value (Operand.func 101), args := #[], argTypes := #[] }, type := 68, pos := "soft.go:175", after := #[], guard := none }) (by kernel_rfl) rfl (by kernel_rfl) (fun K hK => ?_)
    go_simp
    refine (free_any W4).mono ?_
    rintro e w5 ⟨rfl, b5⟩
    have FM6 := hide ((unhide FM5).call b5)
    clear b5
    go_wp2_with fail
    have hS1 := PS2.of (unhide FM6) (unhide HM4)
    refine hK.out _ _ (fun _ => hS1) ?_
    clear hK K
    try simp only [Act.put, List.setIfInBounds_toArray, List.set_cons_zero, List.set_cons_succ]
    refine wpAnyF_take (i := 9) (oi := { dst := some 66, op := Op.indexAddr 69 (Operand.tmp 65) (Operand.tmp 61), type := 0, pos := "soft.go:175", after := #[{ on := 8, ground := Ground.data }, { on := 4, ground := Ground.data }, { on := 0, ground := Ground.phase }, { on := 1, ground := Ground.phase }, { on := 2, ground := Ground.phase }, { on := 3, ground := Ground.phase }, { on := 4, ground := Ground.phase }, { on := 5, ground := Ground.phase }], guard := none }) (v := .pointer (some ⟨bc, n * 5, none⟩)) rfl (by kernel_rfl) (by kernel_rfl) (by kernel_rfl) (by kernel_rfl) (fun _ _ _ h => h) (Or.inl ⟨by kernel_rfl, fun W h => Op1.ix_ino (.tmp 65) (.tmp 61) (by kernel_rfl) (by kernel_rfl) (by kernel_rfl) (hn) W⟩) hS1 ?_
    try simp only [Act.put, List.setIfInBounds_toArray, List.set_cons_zero, List.set_cons_succ]
    refine wpAnyF_last (o := { dst := none, op := Op.store 68 (Operand.tmp 66) (Operand.tmp 62), type := 0, pos := "soft.go:175", after := #[{ on := 9, ground := Ground.data }, { on := 5, ground := Ground.data }, { on := 5, ground := Ground.chain }, { on := 0, ground := Ground.phase }, { on := 1, ground := Ground.phase }, { on := 2, ground := Ground.phase }, { on := 3, ground := Ground.phase }, { on := 4, ground := Ground.phase }, { on := 5, ground := Ground.phase }], guard := none }) (by kernel_rfl) rfl (by kernel_rfl) (by kernel_rfl) (fun K hK => ?_)
    refine Op1.st_part (cells := #[.bool false, .int .i64 0, .int .i64 0, .int .i64 (-1), .int .i64 (-1)]) (o0 := n * 5) 68 (.tmp 66) (.tmp 62) (by kernel_rfl) rfl (by kernel_rfl) (by kernel_rfl) (unhide FM6).row sz_ino (by have := (unhide HM4).size; simp; omega) (by kernel_rfl) ?_
    refine hK.out _ _ ?_
    clear hK K
    try simp only [Act.put, List.setIfInBounds_toArray, List.set_cons_zero, List.set_cons_succ]
    refine wpAnyF_done (by kernel_rfl) ?_ _
    have DONE := hide (Fd.ino (unhide FM6) (unhide HM4) hn Ino.none)
    clear hS hS1
    go_wp2_with fail
    go_end0
    exact ⟨rfl, by rw [unhide FIN]; exact unhide DONE⟩
  · have u1 : ((rf : Int) == 0) = false := by simp; omega
    have FIN := hide (show mf = m2 by rw [unhide HQ, unhide HRF, if_neg hz])
    have DONE := hide (show Fd w W3 bf bc ds m2 last from ⟨cs2, unhide FM4, unhide HM4⟩)
    clear hz p3 l3
    go_wp2_with fail
    go_end0
    exact ⟨rfl, by rw [unhide FIN]; exact unhide DONE⟩
end
end Go.Proofs.YtfpfpnhpbnnmfadGreatDoor
