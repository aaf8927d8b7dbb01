/-
  The walk of (*soft.Files).add. (Written by gendm.py.)
-/
import Derived.Test.YtmbpckmpnnmnmacGreatYf
namespace Go.Proofs.YtmbpckmpnnmnmacGreat
open Go.RowKit
open Idl (Stp chk stpA)
section
variable {w w0 w1 : World} {bf bc : Nat} {cs ds rows : Array Value} {m k : Img} {last : Int}
theorem Fm.has (h : Fm w0 w bf bc (cs ++ ds) last) (hm : IsImg cs m) : HasAt w bc 0 m := hasAt_of h.row (by rw [Array.size_append, hm.size]; omega) (app_fst hm.size) hm
def PS2 (bf bc : Nat) (m : Img) (W : World) : Prop := W.cell? ⟨bf, 0, none⟩ = some (.pointer (some ⟨bc, 0, none⟩)) ∧ HasAt W bc 0 m
theorem PS2.of (h : Fm w0 w bf bc (cs ++ ds) last) (hm : IsImg cs m) : PS2 bf bc m w := ⟨h.ptr, h.has hm⟩
set_option maxHeartbeats 2000000 in
set_option maxRecDepth 100000 in
theorem sadd_any (h : Fl w bf bc cs ds m k last) {d n s : Nat} (hd : d < 3) (hn : n < 8) (hs : s < 4) (he : Img.freeSlot m k (d : Int) = (s : Int)) (nm : ByteArray) (hnm : nm.size ≤ maxLen) (hlk : 0 ≤ m.links n ∧ m.links n ≤ 100) :
    Calls Tryz.prog 66 #[.pointer (some ⟨bf, 0, none⟩), .int .i64 (d : Int), .string nm, .int .i64 (n : Int)] w fun e w' => e = .returned (.tuple #[]) ∧ Fd w w' bf bc ds (Img.added m k (d : Int) nm n) last := by
  have C1 := hide fun W (h1 : W.heap[bc]? = some (.cells (cs ++ ds) 57)) => cSlot_any bc cs ds m k h.now h.disk (d : Int) W h1
  rw [he] at C1
  have e1 : Img.added m k (d : Int) nm n = (m.putEnt d s ⟨nm, (n : Int), m.stamp n⟩).putIno n ⟨m.live n, m.stamp n, m.links n + 1, m.part n 0, m.part n 1⟩ := by unfold Img.added; rw [he, Int.toNat_natCast, Int.toNat_natCast]
  rw [e1]
  have HM := hide h.now
  have FM0 := hide h.fm
  have p0 := h.ptr
  have l0 := h.flt
  have l1 := h.clt
  have nz : (n : Int) < 8 := by omega
  clear h he e1
  go_enter Tryz.func66, Tryz.ntmps66
  go_wp2_with fail
  have FM1 := hide ((unhide FM0).call (Below.refl _ _).drew)
  clear FM0 p0 l0 l1 nz
  refine wp_region_F (S := PS2 bf bc m) 23 (by kernel_rfl) (PS2.of (unhide FM1) (unhide HM)) (fun hS => ?_)
  refine wpAnyF_take (i := 0) (oi := { dst := some 18, op := Op.move (Operand.tmp 0), type := 46, pos := "soft.go:164", after := #[], guard := none }) (v := .pointer (some ⟨bf, 0, none⟩)) rfl (by kernel_rfl) (by kernel_rfl) (by kernel_rfl) (by kernel_rfl) (fun _ _ _ h => h) (Or.inl ⟨by kernel_rfl, fun W h => (by first | kernel_rfl | go_simp)⟩) hS ?_
  try simp only [Act.put, List.setIfInBounds_toArray, List.set_cons_zero, List.set_cons_succ]
  refine wpAnyF_take (i := 1) (oi := { dst := some 19, op := Op.nilCheck (Operand.tmp 18), type := 0, pos := "soft.go:164", after := #[{ on := 0, ground := Ground.data }], guard := none }) (v := .pointer (some ⟨bf, 0, none⟩)) rfl (by kernel_rfl) (by kernel_rfl) (by kernel_rfl) (by kernel_rfl) (fun _ _ _ h => h) (Or.inl ⟨by kernel_rfl, fun W h => (by first | kernel_rfl | go_simp)⟩) hS ?_
  try simp only [Act.put, List.setIfInBounds_toArray, List.set_cons_zero, List.set_cons_succ]
  refine wpAnyF_take (i := 2) (oi := { dst := some 20, op := Op.fieldAddr 53 (Operand.tmp 19) 0, type := 0, pos := "soft.go:164", after := #[{ on := 1, ground := Ground.data }], guard := none }) (v := .pointer (some ⟨bf, 0, none⟩)) rfl (by kernel_rfl) (by kernel_rfl) (by kernel_rfl) (by kernel_rfl) (fun _ _ _ h => h) (Or.inl ⟨by kernel_rfl, fun W h => (by first | kernel_rfl | go_simp)⟩) hS ?_
  try simp only [Act.put, List.setIfInBounds_toArray, List.set_cons_zero, List.set_cons_succ]
  refine wpAnyF_take (i := 3) (oi := { dst := some 21, op := Op.load 51 (Operand.tmp 20), type := 51, pos := "soft.go:164", after := #[{ on := 2, ground := Ground.data }], guard := none }) (v := .pointer (some ⟨bc, 0, none⟩)) rfl (by kernel_rfl) (by kernel_rfl) (by kernel_rfl) (by kernel_rfl) (fun _ _ _ h => h) (Or.inl ⟨by kernel_rfl, fun W h => Op1.ld_ptr (.tmp 20) (by kernel_rfl) (by kernel_rfl) W (h.1)⟩) hS ?_
  try simp only [Act.put, List.setIfInBounds_toArray, List.set_cons_zero, List.set_cons_succ]
  refine wpAnyF_take (i := 4) (oi := { dst := some 22, op := Op.move (Operand.tmp 1), type := 3, pos := "soft.go:164", after := #[], guard := none }) (v := .int .i64 (d : Int)) rfl (by kernel_rfl) (by kernel_rfl) (by kernel_rfl) (by kernel_rfl) (fun _ _ _ h => h) (Or.inl ⟨by kernel_rfl, fun W h => (by first | kernel_rfl | go_simp)⟩) hS ?_
  try simp only [Act.put, List.setIfInBounds_toArray, List.set_cons_zero, List.set_cons_succ]
  refine wpAnyF_take (i := 5) (oi := { dst := some 23, op := Op.move (Operand.tmp 0), type := 46, pos := "soft.go:164", after := #[], guard := none }) (v := .pointer (some ⟨bf, 0, none⟩)) rfl (by kernel_rfl) (by kernel_rfl) (by kernel_rfl) (by kernel_rfl) (fun _ _ _ h => h) (Or.inl ⟨by kernel_rfl, fun W h => (by first | kernel_rfl | go_simp)⟩) hS ?_
  try simp only [Act.put, List.setIfInBounds_toArray, List.set_cons_zero, List.set_cons_succ]
  refine wpAnyF_take (i := 6) (oi := { dst := some 24, op := Op.nilCheck (Operand.tmp 23), type := 0, pos := "soft.go:164", after := #[{ on := 5, ground := Ground.data }], guard := none }) (v := .pointer (some ⟨bf, 0, none⟩)) rfl (by kernel_rfl) (by kernel_rfl) (by kernel_rfl) (by kernel_rfl) (fun _ _ _ h => h) (Or.inl ⟨by kernel_rfl, fun W h => (by first | kernel_rfl | go_simp)⟩) hS ?_
  try simp only [Act.put, List.setIfInBounds_toArray, List.set_cons_zero, List.set_cons_succ]
  refine wpAnyF_take (i := 7) (oi := { dst := some 25, op := Op.fieldAddr 53 (Operand.tmp 24) 0, type := 0, pos := "soft.go:164", after := #[{ on := 6, ground := Ground.data }], guard := none }) (v := .pointer (some ⟨bf, 0, none⟩)) rfl (by kernel_rfl) (by kernel_rfl) (by kernel_rfl) (by kernel_rfl) (fun _ _ _ h => h) (Or.inl ⟨by kernel_rfl, fun W h => (by first | kernel_rfl | go_simp)⟩) hS ?_
  try simp only [Act.put, List.setIfInBounds_toArray, List.set_cons_zero, List.set_cons_succ]
  refine wpAnyF_take (i := 8) (oi := { dst := some 26, op := Op.load 51 (Operand.tmp 25), type := 51, pos := "soft.go:164", after := #[{ on := 7, ground := Ground.data }], guard := none }) (v := .pointer (some ⟨bc, 0, none⟩)) rfl (by kernel_rfl) (by kernel_rfl) (by kernel_rfl) (by kernel_rfl) (fun _ _ _ h => h) (Or.inl ⟨by kernel_rfl, fun W h => Op1.ld_ptr (.tmp 25) (by kernel_rfl) (by kernel_rfl) W (h.1)⟩) hS ?_
  try simp only [Act.put, List.setIfInBounds_toArray, List.set_cons_zero, List.set_cons_succ]
  refine wpAnyF_take (i := 9) (oi := { dst := some 27, op := Op.move (Operand.tmp 1), type := 3, pos := "soft.go:164", after := #[], guard := none }) (v := .int .i64 (d : Int)) rfl (by kernel_rfl) (by kernel_rfl) (by kernel_rfl) (by kernel_rfl) (fun _ _ _ h => h) (Or.inl ⟨by kernel_rfl, fun W h => (by first | kernel_rfl | go_simp)⟩) hS ?_
  try simp only [Act.put, List.setIfInBounds_toArray, List.set_cons_zero, List.set_cons_succ]
  refine wpAnyF_take (i := 11) (oi := { dst := some 29, op := Op.move (Operand.tmp 2), type := 9, pos := "soft.go:164", after := #[], guard := none }) (v := .string nm) rfl (by kernel_rfl) (by kernel_rfl) (by kernel_rfl) (by kernel_rfl) (fun _ _ _ h => h) (Or.inl ⟨by kernel_rfl, fun W h => (by first | kernel_rfl | go_simp)⟩) hS ?_
  try simp only [Act.put, List.setIfInBounds_toArray, List.set_cons_zero, List.set_cons_succ]
  refine wpAnyF_take (i := 12) (oi := { dst := some 30, op := Op.move (Operand.tmp 3), type := 3, pos := "soft.go:164", after := #[], guard := none }) (v := .int .i64 (n : Int)) rfl (by kernel_rfl) (by kernel_rfl) (by kernel_rfl) (by kernel_rfl) (fun _ _ _ h => h) (Or.inl ⟨by kernel_rfl, fun W h => (by first | kernel_rfl | go_simp)⟩) hS ?_
  try simp only [Act.put, List.setIfInBounds_toArray, List.set_cons_zero, List.set_cons_succ]
  refine wpAnyF_take (i := 13) (oi := { dst := some 31, op := Op.move (Operand.tmp 8), type := 100, pos := "soft.go:164", after := #[], guard := none }) (v := .pointer (some ⟨bc, n * 5, none⟩)) rfl (by kernel_rfl) (by kernel_rfl) (by kernel_rfl) (by kernel_rfl) (fun _ _ _ h => h) (Or.inl ⟨by kernel_rfl, fun W h => (by first | kernel_rfl | go_simp)⟩) hS ?_
  try simp only [Act.put, List.setIfInBounds_toArray, List.set_cons_zero, List.set_cons_succ]
  refine wpAnyF_take (i := 14) (oi := { dst := some 32, op := Op.nilCheck (Operand.tmp 31), type := 0, pos := "soft.go:164", after := #[{ on := 13, ground := Ground.data }], guard := none }) (v := .pointer (some ⟨bc, n * 5, none⟩)) rfl (by kernel_rfl) (by kernel_rfl) (by kernel_rfl) (by kernel_rfl) (fun _ _ _ h => h) (Or.inl ⟨by kernel_rfl, fun W h => (by first | kernel_rfl | go_simp)⟩) hS ?_
  try simp only [Act.put, List.setIfInBounds_toArray, List.set_cons_zero, List.set_cons_succ]
  refine wpAnyF_take (i := 15) (oi := { dst := some 33, op := Op.fieldAddr 34 (Operand.tmp 32) 1, type := 0, pos := "soft.go:164", after := #[{ on := 14, ground := Ground.data }], guard := none }) (v := .pointer (some ⟨bc, n * 5 + 1, none⟩)) rfl (by kernel_rfl) (by kernel_rfl) (by kernel_rfl) (by kernel_rfl) (fun _ _ _ h => h) (Or.inl ⟨by kernel_rfl, fun W h => (by first | kernel_rfl | go_simp)⟩) hS ?_
  try simp only [Act.put, List.setIfInBounds_toArray, List.set_cons_zero, List.set_cons_succ]
  refine wpAnyF_take (i := 16) (oi := { dst := some 34, op := Op.load 3 (Operand.tmp 33), type := 3, pos := "soft.go:164", after := #[{ on := 15, ground := Ground.data }], guard := none }) (v := .int .i64 (m.stamp n)) rfl (by kernel_rfl) (by kernel_rfl) (by kernel_rfl) (by kernel_rfl) (fun _ _ _ h => h) (Or.inl ⟨by kernel_rfl, fun W h => Op1.ld_int (.tmp 33) (by kernel_rfl) (by kernel_rfl) W (by have := h.2.stamp n hn; rw [Nat.zero_add] at this; exact this)⟩) hS ?_
  try simp only [Act.put, List.setIfInBounds_toArray, List.set_cons_zero, List.set_cons_succ]
  refine wpAnyF_take (i := 17) (oi := { dst := some 35, op := Op.build 37 #[(0, Operand.tmp 29), (1, Operand.tmp 30), (2, Operand.tmp 34)], type := 37, pos := "soft.go:164", after := #[{ on := 11, ground := Ground.data }, { on := 12, ground := Ground.data }, { on := 16, ground := Ground.data }], guard := none }) (v := .agg #[.string nm, .int .i64 (n : Int), .int .i64 (m.stamp n)]) rfl (by kernel_rfl) (by kernel_rfl) (by kernel_rfl) (by kernel_rfl) (fun _ _ _ h => h) (Or.inl ⟨by kernel_rfl, fun W h => (by first | kernel_rfl | go_simp)⟩) hS ?_
  try simp only [Act.put, List.setIfInBounds_toArray, List.set_cons_zero, List.set_cons_succ]
  refine wpAnyF_free (i := 18) (oi := { dst := some 36, op := Op.nilCheck (Operand.tmp 21), type := 0, pos := "soft.go:164", after := #[{ on := 3, ground := Ground.data }], guard := none }) (v := .pointer (some ⟨bc, 0, none⟩)) rfl (by kernel_rfl) (by kernel_rfl) (by kernel_rfl) (by kernel_rfl) (fun _ _ _ h => h) (Or.inl ⟨by kernel_rfl, fun W _ => (by first | kernel_rfl | go_simp)⟩) hS ?_
  try simp only [Act.put, List.setIfInBounds_toArray, List.set_cons_zero, List.set_cons_succ]
  refine wpAnyF_free (i := 19) (oi := { dst := some 37, op := Op.fieldAddr 57 (Operand.tmp 36) 0, type := 0, pos := "soft.go:164", after := #[{ on := 18, ground := Ground.data }], guard := none }) (v := .pointer (some ⟨bc, 0, none⟩)) rfl (by kernel_rfl) (by kernel_rfl) (by kernel_rfl) (by kernel_rfl) (fun _ _ _ h => h) (Or.inl ⟨by kernel_rfl, fun W _ => (by first | kernel_rfl | go_simp)⟩) hS ?_
  try simp only [Act.put, List.setIfInBounds_toArray, List.set_cons_zero, List.set_cons_succ]
  refine wpAnyF_free (i := 20) (oi := { dst := some 38, op := Op.fieldAddr 44 (Operand.tmp 37) 1, type := 0, pos := "soft.go:164", after := #[{ on := 19, ground := Ground.data }], guard := none }) (v := .pointer (some ⟨bc, 40, none⟩)) rfl (by kernel_rfl) (by kernel_rfl) (by kernel_rfl) (by kernel_rfl) (fun _ _ _ h => h) (Or.inl ⟨by kernel_rfl, fun W _ => (by first | kernel_rfl | go_simp)⟩) hS ?_
  try simp only [Act.put, List.setIfInBounds_toArray, List.set_cons_zero, List.set_cons_succ]
  refine wpAnyF_free (i := 21) (oi := { dst := some 39, op := Op.indexAddr 39 (Operand.tmp 38) (Operand.tmp 22), type := 0, pos := "soft.go:164", after := #[{ on := 20, ground := Ground.data }, { on := 4, ground := Ground.data }], guard := none }) (v := .pointer (some ⟨bc, 40 + d * 12, none⟩)) rfl (by kernel_rfl) (by kernel_rfl) (by kernel_rfl) (by kernel_rfl) (fun _ _ _ h => h) (Or.inl ⟨by kernel_rfl, fun W _ => Op1.ix_dir (.tmp 38) (.tmp 22) (by kernel_rfl) (by kernel_rfl) (by kernel_rfl) (hd) W⟩) hS ?_
  try simp only [Act.put, List.setIfInBounds_toArray, List.set_cons_zero, List.set_cons_succ]
  generalize World.drew _ = W0 at hS FM1 ⊢
  refine wpAnyF_one (i := 10) (o := { dst := some 28, op := Op.call { callee := Callee.value (Operand.func 101), args := #[Operand.tmp 26, Operand.tmp 27], argTypes := #[51, 3] }, type := 3, pos := "soft.go:164", after := #[{ on := 8, ground := Ground.data }, { on := 9, ground := Ground.data }], guard := none }) (by kernel_rfl) rfl (by kernel_rfl) (fun K hK => ?_)
  go_simp
  refine (unhide C1 W0 (unhide FM1).row).mono ?_
  rintro e w1 ⟨rfl, b1⟩
  have FM2 := hide ((unhide FM1).call b1)
  clear b1
  go_wp2_with fail
  have hS1 := PS2.of (unhide FM2) (unhide HM)
  refine hK.out _ _ (fun _ => hS1) ?_
  clear hK K
  try simp only [Act.put, List.setIfInBounds_toArray, List.set_cons_zero, List.set_cons_succ]
  refine wpAnyF_take (i := 22) (oi := { dst := some 40, op := Op.indexAddr 38 (Operand.tmp 39) (Operand.tmp 28), type := 0, pos := "soft.go:164", after := #[{ on := 21, ground := Ground.data }, { on := 10, ground := Ground.data }, { on := 0, ground := Ground.phase }, { on := 1, ground := Ground.phase }, { on := 2, ground := Ground.phase }, { on := 3, ground := Ground.phase }, { on := 4, ground := Ground.phase }, { on := 5, ground := Ground.phase }, { on := 6, ground := Ground.phase }, { on := 7, ground := Ground.phase }, { on := 8, ground := Ground.phase }, { on := 9, ground := Ground.phase }, { on := 10, ground := Ground.phase }, { on := 11, ground := Ground.phase }, { on := 12, ground := Ground.phase }, { on := 13, ground := Ground.phase }, { on := 14, ground := Ground.phase }, { on := 15, ground := Ground.phase }, { on := 16, ground := Ground.phase }, { on := 17, ground := Ground.phase }], guard := none }) (v := .pointer (some ⟨bc, 40 + d * 12 + s * 3, none⟩)) rfl (by kernel_rfl) (by kernel_rfl) (by kernel_rfl) (by kernel_rfl) (fun _ _ _ h => h) (Or.inl ⟨by kernel_rfl, fun W h => Op1.ix_slot (.tmp 39) (.tmp 28) (by kernel_rfl) (by kernel_rfl) (by kernel_rfl) (hs) W⟩) hS1 ?_
  try simp only [Act.put, List.setIfInBounds_toArray, List.set_cons_zero, List.set_cons_succ]
  refine wpAnyF_last (o := { dst := none, op := Op.store 37 (Operand.tmp 40) (Operand.tmp 35), type := 0, pos := "soft.go:164", after := #[{ on := 22, ground := Ground.data }, { on := 17, ground := Ground.data }, { on := 10, ground := Ground.chain }, { on := 0, ground := Ground.phase }, { on := 1, ground := Ground.phase }, { on := 2, ground := Ground.phase }, { on := 3, ground := Ground.phase }, { on := 4, ground := Ground.phase }, { on := 5, ground := Ground.phase }, { on := 6, ground := Ground.phase }, { on := 7, ground := Ground.phase }, { on := 8, ground := Ground.phase }, { on := 9, ground := Ground.phase }, { on := 10, ground := Ground.phase }, { on := 11, ground := Ground.phase }, { on := 12, ground := Ground.phase }, { on := 13, ground := Ground.phase }, { on := 14, ground := Ground.phase }, { on := 15, ground := Ground.phase }, { on := 16, ground := Ground.phase }, { on := 17, ground := Ground.phase }], guard := none }) (by kernel_rfl) rfl (by kernel_rfl) (by kernel_rfl) (fun K hK => ?_)
  refine Op1.st_part (cells := #[.string nm, .int .i64 (n : Int), .int .i64 (m.stamp n)]) (o0 := 40 + d * 12 + s * 3) 37 (.tmp 40) (.tmp 35) (by kernel_rfl) rfl (by kernel_rfl) (by kernel_rfl) (unhide FM2).row sz_ent (by have := (unhide HM).size; simp; omega) (by simp [Value.oneCell']) ?_
  refine hK.out _ _ ?_
  clear hK K
  try simp only [Act.put, List.setIfInBounds_toArray, List.set_cons_zero, List.set_cons_succ]
  refine wpAnyF_done (by kernel_rfl) ?_ _
  obtain ⟨cs1, f3, hm3⟩ := Fd.ent (unhide FM2) (unhide HM) hd hs ⟨nm, (n : Int), m.stamp n⟩ hnm
  have FM3 := hide f3
  have HM3 := hide hm3
  clear f3 hm3 hS hS1 FM1 FM2
  generalize w1.setRow bc (splice (cs ++ ds) (40 + d * 12 + s * 3) #[.string nm, .int .i64 (n : Int), .int .i64 (m.stamp n)]) = W3 at FM3 ⊢
  have c2 : W3.cell? ⟨bc, n * 5 + 2, none⟩ = some (.int .i64 (m.links n)) := by
    have := ((unhide FM3).has (unhide HM3)).links n hn
    rw [Nat.zero_add] at this; exact this
  have z2 := (unhide FM3).frozen (n * 5 + 2)
  have hw : IntKind.i64.wrap (m.links n + 1) = m.links n + 1 := IntWalk.i64_in _ (by omega)
  have l3 := (unhide FM3).clt
  have DONE := hide (Fd.lnk (unhide FM3) (unhide HM3) hn (m.links n + 1))
  go_wp2_with fail
  go_end0
  exact ⟨rfl, unhide DONE⟩
end
end Go.Proofs.YtmbpckmpnnmnmacGreat
namespace Go.Proofs.YtmbpckmpnnmnmacGreat
open Go.RowKit
open Idl (Stp chk stpA)
section
variable {w w0 w1 : World} {bf bc : Nat} {cs ds rows : Array Value} {m k : Img} {last : Int}
theorem dropped_is {m : Img} {d j n : Nat} {nm : ByteArray} (hT : Img.There m (d : Int) nm j n) : Img.dropped1 m (d : Int) nm = (m.putEnt d j Ent.none).putIno n ⟨m.live n, m.stamp n, m.links n - 1, m.part n 0, m.part n 1⟩ ∧
    Img.dropped m (d : Int) nm = if ((m.putEnt d j Ent.none).putIno n ⟨m.live n, m.stamp n, m.links n - 1, m.part n 0, m.part n 1⟩).refs (n : Int) = 0 then ((m.putEnt d j Ent.none).putIno n ⟨m.live n, m.stamp n, m.links n - 1, m.part n 0, m.part n 1⟩).putIno n Ino.none else (m.putEnt d j Ent.none).putIno n ⟨m.live n, m.stamp n, m.links n - 1, m.part n 0, m.part n 1⟩ := by
  have e1 : Img.dropped1 m (d : Int) nm = (m.putEnt d j Ent.none).putIno n ⟨m.live n, m.stamp n, m.links n - 1, m.part n 0, m.part n 1⟩ := by
    unfold Img.dropped1; rw [hT.of, hT.at_, Int.toNat_natCast, Int.toNat_natCast, Int.toNat_natCast]; rfl
  refine ⟨e1, ?_⟩
  unfold Img.dropped
  rw [e1, hT.of, Int.toNat_natCast]
set_option maxHeartbeats 2000000 in
set_option maxRecDepth 100000 in
theorem sdrop_any (h : Fl w bf bc cs ds m k last) {d j n : Nat} (nm : ByteArray) (hT : Img.There m (d : Int) nm j n) (hlk : 1 ≤ m.links n ∧ m.links n ≤ 100) :
    Calls Tryz.prog 69 #[.pointer (some ⟨bf, 0, none⟩), .int .i64 (d : Int), .string nm] w fun e w' => e = .returned (.tuple #[]) ∧ Fd w w' bf bc ds (Img.dropped m (d : Int) nm) last := by
  have C0 := hide (sfind_any h (d : Int) nm)
  have C1 := hide fun W (h1 : HasAt W bc 0 m) => At.find_any bc m (d : Int) nm W h1
  rw [hT.of] at C0
  rw [hT.at_] at C1
  have hd : d < 3 := by have := hT.d3; omega
  have hj := hT.k4
  have hn := hT.n8
  have HQ := hide (dropped_is hT).2
  generalize Img.dropped m (d : Int) nm = mf at HQ ⊢
  have HM := hide h.now
  have FM0 := hide h.fm
  clear h hT
  go_enter Tryz.func69, Tryz.ntmps69
  go_wp2_with fail
  refine (unhide C0).mono ?_
  rintro e wq ⟨rfl, e9⟩
  rw [e9]
  clear e9 wq
  go_wp2_with fail
  have FM1 := hide ((unhide FM0).call (Below.refl _ _).drew)
  clear FM0 C0
  refine wp_region_F (S := PS2 bf bc m) 20 (by kernel_rfl) (PS2.of (unhide FM1) (unhide HM)) (fun hS => ?_)
  refine wpAnyF_take (i := 0) (oi := { dst := some 11, op := Op.move (Operand.tmp 0), type := 46, pos := "soft.go:172", after := #[], guard := none }) (v := .pointer (some ⟨bf, 0, none⟩)) rfl (by kernel_rfl) (by kernel_rfl) (by kernel_rfl) (by kernel_rfl) (fun _ _ _ h => h) (Or.inl ⟨by kernel_rfl, fun W h => (by first | kernel_rfl | go_simp)⟩) hS ?_
  try simp only [Act.put, List.setIfInBounds_toArray, List.set_cons_zero, List.set_cons_succ]
  refine wpAnyF_take (i := 1) (oi := { dst := some 12, op := Op.nilCheck (Operand.tmp 11), type := 0, pos := "soft.go:172", after := #[{ on := 0, ground := Ground.data }], guard := none }) (v := .pointer (some ⟨bf, 0, none⟩)) rfl (by kernel_rfl) (by kernel_rfl) (by kernel_rfl) (by kernel_rfl) (fun _ _ _ h => h) (Or.inl ⟨by kernel_rfl, fun W h => (by first | kernel_rfl | go_simp)⟩) hS ?_
  try simp only [Act.put, List.setIfInBounds_toArray, List.set_cons_zero, List.set_cons_succ]
  refine wpAnyF_take (i := 2) (oi := { dst := some 13, op := Op.fieldAddr 53 (Operand.tmp 12) 0, type := 0, pos := "soft.go:172", after := #[{ on := 1, ground := Ground.data }], guard := none }) (v := .pointer (some ⟨bf, 0, none⟩)) rfl (by kernel_rfl) (by kernel_rfl) (by kernel_rfl) (by kernel_rfl) (fun _ _ _ h => h) (Or.inl ⟨by kernel_rfl, fun W h => (by first | kernel_rfl | go_simp)⟩) hS ?_
  try simp only [Act.put, List.setIfInBounds_toArray, List.set_cons_zero, List.set_cons_succ]
  refine wpAnyF_take (i := 3) (oi := { dst := some 14, op := Op.load 51 (Operand.tmp 13), type := 51, pos := "soft.go:172", after := #[{ on := 2, ground := Ground.data }], guard := none }) (v := .pointer (some ⟨bc, 0, none⟩)) rfl (by kernel_rfl) (by kernel_rfl) (by kernel_rfl) (by kernel_rfl) (fun _ _ _ h => h) (Or.inl ⟨by kernel_rfl, fun W h => Op1.ld_ptr (.tmp 13) (by kernel_rfl) (by kernel_rfl) W (h.1)⟩) hS ?_
  try simp only [Act.put, List.setIfInBounds_toArray, List.set_cons_zero, List.set_cons_succ]
  refine wpAnyF_take (i := 4) (oi := { dst := some 15, op := Op.move (Operand.tmp 1), type := 3, pos := "soft.go:172", after := #[], guard := none }) (v := .int .i64 (d : Int)) rfl (by kernel_rfl) (by kernel_rfl) (by kernel_rfl) (by kernel_rfl) (fun _ _ _ h => h) (Or.inl ⟨by kernel_rfl, fun W h => (by first | kernel_rfl | go_simp)⟩) hS ?_
  try simp only [Act.put, List.setIfInBounds_toArray, List.set_cons_zero, List.set_cons_succ]
  refine wpAnyF_take (i := 5) (oi := { dst := some 16, op := Op.move (Operand.tmp 0), type := 46, pos := "soft.go:172", after := #[], guard := none }) (v := .pointer (some ⟨bf, 0, none⟩)) rfl (by kernel_rfl) (by kernel_rfl) (by kernel_rfl) (by kernel_rfl) (fun _ _ _ h => h) (Or.inl ⟨by kernel_rfl, fun W h => (by first | kernel_rfl | go_simp)⟩) hS ?_
  try simp only [Act.put, List.setIfInBounds_toArray, List.set_cons_zero, List.set_cons_succ]
  refine wpAnyF_take (i := 6) (oi := { dst := some 17, op := Op.nilCheck (Operand.tmp 16), type := 0, pos := "soft.go:172", after := #[{ on := 5, ground := Ground.data }], guard := none }) (v := .pointer (some ⟨bf, 0, none⟩)) rfl (by kernel_rfl) (by kernel_rfl) (by kernel_rfl) (by kernel_rfl) (fun _ _ _ h => h) (Or.inl ⟨by kernel_rfl, fun W h => (by first | kernel_rfl | go_simp)⟩) hS ?_
  try simp only [Act.put, List.setIfInBounds_toArray, List.set_cons_zero, List.set_cons_succ]
  refine wpAnyF_take (i := 7) (oi := { dst := some 18, op := Op.fieldAddr 53 (Operand.tmp 17) 0, type := 0, pos := "soft.go:172", after := #[{ on := 6, ground := Ground.data }], guard := none }) (v := .pointer (some ⟨bf, 0, none⟩)) rfl (by kernel_rfl) (by kernel_rfl) (by kernel_rfl) (by kernel_rfl) (fun _ _ _ h => h) (Or.inl ⟨by kernel_rfl, fun W h => (by first | kernel_rfl | go_simp)⟩) hS ?_
  try simp only [Act.put, List.setIfInBounds_toArray, List.set_cons_zero, List.set_cons_succ]
  refine wpAnyF_take (i := 8) (oi := { dst := some 19, op := Op.load 51 (Operand.tmp 18), type := 51, pos := "soft.go:172", after := #[{ on := 7, ground := Ground.data }], guard := none }) (v := .pointer (some ⟨bc, 0, none⟩)) rfl (by kernel_rfl) (by kernel_rfl) (by kernel_rfl) (by kernel_rfl) (fun _ _ _ h => h) (Or.inl ⟨by kernel_rfl, fun W h => Op1.ld_ptr (.tmp 18) (by kernel_rfl) (by kernel_rfl) W (h.1)⟩) hS ?_
  try simp only [Act.put, List.setIfInBounds_toArray, List.set_cons_zero, List.set_cons_succ]
  refine wpAnyF_take (i := 9) (oi := { dst := some 20, op := Op.nilCheck (Operand.tmp 19), type := 0, pos := "soft.go:172", after := #[{ on := 8, ground := Ground.data }], guard := none }) (v := .pointer (some ⟨bc, 0, none⟩)) rfl (by kernel_rfl) (by kernel_rfl) (by kernel_rfl) (by kernel_rfl) (fun _ _ _ h => h) (Or.inl ⟨by kernel_rfl, fun W h => (by first | kernel_rfl | go_simp)⟩) hS ?_
  try simp only [Act.put, List.setIfInBounds_toArray, List.set_cons_zero, List.set_cons_succ]
  refine wpAnyF_take (i := 10) (oi := { dst := some 21, op := Op.fieldAddr 57 (Operand.tmp 20) 0, type := 0, pos := "soft.go:172", after := #[{ on := 9, ground := Ground.data }], guard := none }) (v := .pointer (some ⟨bc, 0, none⟩)) rfl (by kernel_rfl) (by kernel_rfl) (by kernel_rfl) (by kernel_rfl) (fun _ _ _ h => h) (Or.inl ⟨by kernel_rfl, fun W h => (by first | kernel_rfl | go_simp)⟩) hS ?_
  try simp only [Act.put, List.setIfInBounds_toArray, List.set_cons_zero, List.set_cons_succ]
  refine wpAnyF_take (i := 11) (oi := { dst := some 22, op := Op.move (Operand.tmp 1), type := 3, pos := "soft.go:172", after := #[], guard := none }) (v := .int .i64 (d : Int)) rfl (by kernel_rfl) (by kernel_rfl) (by kernel_rfl) (by kernel_rfl) (fun _ _ _ h => h) (Or.inl ⟨by kernel_rfl, fun W h => (by first | kernel_rfl | go_simp)⟩) hS ?_
  try simp only [Act.put, List.setIfInBounds_toArray, List.set_cons_zero, List.set_cons_succ]
  refine wpAnyF_take (i := 12) (oi := { dst := some 23, op := Op.move (Operand.tmp 2), type := 9, pos := "soft.go:172", after := #[], guard := none }) (v := .string nm) rfl (by kernel_rfl) (by kernel_rfl) (by kernel_rfl) (by kernel_rfl) (fun _ _ _ h => h) (Or.inl ⟨by kernel_rfl, fun W h => (by first | kernel_rfl | go_simp)⟩) hS ?_
  try simp only [Act.put, List.setIfInBounds_toArray, List.set_cons_zero, List.set_cons_succ]
  refine wpAnyF_take (i := 14) (oi := { dst := some 25, op := Op.build 37 #[], type := 37, pos := "soft.go:172", after := #[], guard := none }) (v := .agg #[.string ⟨#[]⟩, .int .i64 0, .int .i64 0]) rfl (by kernel_rfl) (by kernel_rfl) (by kernel_rfl) (by kernel_rfl) (fun _ _ _ h => h) (Or.inl ⟨by kernel_rfl, fun W h => (by first | kernel_rfl | go_simp)⟩) hS ?_
  try simp only [Act.put, List.setIfInBounds_toArray, List.set_cons_zero, List.set_cons_succ]
  refine wpAnyF_free (i := 15) (oi := { dst := some 26, op := Op.nilCheck (Operand.tmp 14), type := 0, pos := "soft.go:172", after := #[{ on := 3, ground := Ground.data }], guard := none }) (v := .pointer (some ⟨bc, 0, none⟩)) rfl (by kernel_rfl) (by kernel_rfl) (by kernel_rfl) (by kernel_rfl) (fun _ _ _ h => h) (Or.inl ⟨by kernel_rfl, fun W _ => (by first | kernel_rfl | go_simp)⟩) hS ?_
  try simp only [Act.put, List.setIfInBounds_toArray, List.set_cons_zero, List.set_cons_succ]
  refine wpAnyF_free (i := 16) (oi := { dst := some 27, op := Op.fieldAddr 57 (Operand.tmp 26) 0, type := 0, pos := "soft.go:172", after := #[{ on := 15, ground := Ground.data }], guard := none }) (v := .pointer (some ⟨bc, 0, none⟩)) rfl (by kernel_rfl) (by kernel_rfl) (by kernel_rfl) (by kernel_rfl) (fun _ _ _ h => h) (Or.inl ⟨by kernel_rfl, fun W _ => (by first | kernel_rfl | go_simp)⟩) hS ?_
  try simp only [Act.put, List.setIfInBounds_toArray, List.set_cons_zero, List.set_cons_succ]
  refine wpAnyF_free (i := 17) (oi := { dst := some 28, op := Op.fieldAddr 44 (Operand.tmp 27) 1, type := 0, pos := "soft.go:172", after := #[{ on := 16, ground := Ground.data }], guard := none }) (v := .pointer (some ⟨bc, 40, none⟩)) rfl (by kernel_rfl) (by kernel_rfl) (by kernel_rfl) (by kernel_rfl) (fun _ _ _ h => h) (Or.inl ⟨by kernel_rfl, fun W _ => (by first | kernel_rfl | go_simp)⟩) hS ?_
  try simp only [Act.put, List.setIfInBounds_toArray, List.set_cons_zero, List.set_cons_succ]
  refine wpAnyF_free (i := 18) (oi := { dst := some 29, op := Op.indexAddr 39 (Operand.tmp 28) (Operand.tmp 15), type := 0, pos := "soft.go:172", after := #[{ on := 17, ground := Ground.data }, { on := 4, ground := Ground.data }], guard := none }) (v := .pointer (some ⟨bc, 40 + d * 12, none⟩)) rfl (by kernel_rfl) (by kernel_rfl) (by kernel_rfl) (by kernel_rfl) (fun _ _ _ h => h) (Or.inl ⟨by kernel_rfl, fun W _ => Op1.ix_dir (.tmp 28) (.tmp 15) (by kernel_rfl) (by kernel_rfl) (by kernel_rfl) (hd) W⟩) hS ?_
  try simp only [Act.put, List.setIfInBounds_toArray, List.set_cons_zero, List.set_cons_succ]
  generalize World.drew _ = W0 at hS FM1 ⊢
  refine wpAnyF_one (i := 13) (o := { dst := some 24, op := Op.call { callee := Callee.value (Operand.func 28), args := #[Operand.tmp 21, Operand.tmp 22, Operand.tmp 23], argTypes := #[64, 3, 9] }, type := 3, pos := "soft.go:172", after := #[{ on := 10, ground := Ground.data }, { on := 11, ground := Ground.data }, { on := 12, ground := Ground.data }], guard := none }) (by kernel_rfl) rfl (by kernel_rfl) (fun K hK => ?_)
  go_simp
  refine (unhide C1 W0 hS.2).mono ?_
  rintro e w1 ⟨rfl, e9⟩
  rw [e9]
  clear e9 w1
  go_wp2_with fail
  have hS1 := hS
  refine hK.out _ _ (fun _ => hS1) ?_
  clear hK K
  try simp only [Act.put, List.setIfInBounds_toArray, List.set_cons_zero, List.set_cons_succ]
  refine wpAnyF_take (i := 19) (oi := { dst := some 30, op := Op.indexAddr 38 (Operand.tmp 29) (Operand.tmp 24), type := 0, pos := "soft.go:172", after := #[{ on := 18, ground := Ground.data }, { on := 13, ground := Ground.data }, { on := 0, ground := Ground.phase }, { on := 1, ground := Ground.phase }, { on := 2, ground := Ground.phase }, { on := 3, ground := Ground.phase }, { on := 4, ground := Ground.phase }, { on := 5, ground := Ground.phase }, { on := 6, ground := Ground.phase }, { on := 7, ground := Ground.phase }, { on := 8, ground := Ground.phase }, { on := 9, ground := Ground.phase }, { on := 10, ground := Ground.phase }, { on := 11, ground := Ground.phase }, { on := 12, ground := Ground.phase }, { on := 13, ground := Ground.phase }, { on := 14, ground := Ground.phase }], guard := none }) (v := .pointer (some ⟨bc, 40 + d * 12 + j * 3, none⟩)) rfl (by kernel_rfl) (by kernel_rfl) (by kernel_rfl) (by kernel_rfl) (fun _ _ _ h => h) (Or.inl ⟨by kernel_rfl, fun W h => Op1.ix_slot (.tmp 29) (.tmp 24) (by kernel_rfl) (by kernel_rfl) (by kernel_rfl) (hj) W⟩) hS1 ?_
  try simp only [Act.put, List.setIfInBounds_toArray, List.set_cons_zero, List.set_cons_succ]
  refine wpAnyF_last (o := { dst := none, op := Op.store 37 (Operand.tmp 30) (Operand.tmp 25), type := 0, pos := "soft.go:172", after := #[{ on := 19, ground := Ground.data }, { on := 14, ground := Ground.data }, { on := 13, ground := Ground.chain }, { on := 0, ground := Ground.phase }, { on := 1, ground := Ground.phase }, { on := 2, ground := Ground.phase }, { on := 3, ground := Ground.phase }, { on := 4, ground := Ground.phase }, { on := 5, ground := Ground.phase }, { on := 6, ground := Ground.phase }, { on := 7, ground := Ground.phase }, { on := 8, ground := Ground.phase }, { on := 9, ground := Ground.phase }, { on := 10, ground := Ground.phase }, { on := 11, ground := Ground.phase }, { on := 12, ground := Ground.phase }, { on := 13, ground := Ground.phase }, { on := 14, ground := Ground.phase }], guard := none }) (by kernel_rfl) rfl (by kernel_rfl) (by kernel_rfl) (fun K hK => ?_)
  refine Op1.st_part (cells := #[.string ⟨#[]⟩, .int .i64 0, .int .i64 0]) (o0 := 40 + d * 12 + j * 3) 37 (.tmp 30) (.tmp 25) (by kernel_rfl) rfl (by kernel_rfl) (by kernel_rfl) (unhide FM1).row sz_ent (by have := (unhide HM).size; simp; omega) (by kernel_rfl) ?_
  refine hK.out _ _ ?_
  clear hK K
  try simp only [Act.put, List.setIfInBounds_toArray, List.set_cons_zero, List.set_cons_succ]
  refine wpAnyF_done (by kernel_rfl) ?_ _
  obtain ⟨cs1, f3, hm3⟩ := Fd.ent (unhide FM1) (unhide HM) hd hj Ent.none (Nat.zero_le _)
  have FM2 := hide f3
  have HM2 := hide hm3
  clear f3 hm3 hS hS1 FM1 HM C1
  obtain ⟨m1, hm1⟩ : ∃ m1, m1 = m.putEnt d j Ent.none := ⟨_, rfl⟩
  have HE := hide (show m1.live n = m.live n ∧ m1.stamp n = m.stamp n ∧ m1.links n = m.links n ∧ m1.part n 0 = m.part n 0 ∧ m1.part n 1 = m.part n 1 by rw [hm1]; exact ⟨rfl, rfl, rfl, rfl, rfl⟩)
  rw [← hm1] at HM2 HQ
  clear hm1
  have el := (unhide HE).2.2.1
  rw [← (unhide HE).1, ← (unhide HE).2.1, ← el, ← (unhide HE).2.2.2.1, ← (unhide HE).2.2.2.2] at HQ
  rw [← el] at hlk
  clear el HE
  have FM2' : Hid (Fm w (W0.setRow bc (splice (cs ++ ds) (40 + d * 12 + j * 3) #[.string ⟨#[]⟩, .int .i64 0, .int .i64 0])) bf bc (cs1 ++ ds) last) := FM2
  clear FM2
  have FM2 := FM2'
  clear FM2'
  generalize W0.setRow bc (splice (cs ++ ds) (40 + d * 12 + j * 3) #[.string ⟨#[]⟩, .int .i64 0, .int .i64 0]) = W1 at FM2 ⊢
  go_wp2_with fail
  have FM3 := hide ((unhide FM2).call (Below.refl _ _).drew)
  clear FM2
  refine wp_region_F (S := PS2 bf bc m1) 17 (by kernel_rfl) (PS2.of (unhide FM3) (unhide HM2)) (fun hS => ?_)
  refine wpAnyF_take (i := 0) (oi := { dst := some 31, op := Op.move (Operand.tmp 0), type := 46, pos := "soft.go:173", after := #[], guard := none }) (v := .pointer (some ⟨bf, 0, none⟩)) rfl (by kernel_rfl) (by kernel_rfl) (by kernel_rfl) (by kernel_rfl) (fun _ _ _ h => h) (Or.inl ⟨by kernel_rfl, fun W h => (by first | kernel_rfl | go_simp)⟩) hS ?_
  try simp only [Act.put, List.setIfInBounds_toArray, List.set_cons_zero, List.set_cons_succ]
  refine wpAnyF_take (i := 1) (oi := { dst := some 32, op := Op.nilCheck (Operand.tmp 31), type := 0, pos := "soft.go:173", after := #[{ on := 0, ground := Ground.data }], guard := none }) (v := .pointer (some ⟨bf, 0, none⟩)) rfl (by kernel_rfl) (by kernel_rfl) (by kernel_rfl) (by kernel_rfl) (fun _ _ _ h => h) (Or.inl ⟨by kernel_rfl, fun W h => (by first | kernel_rfl | go_simp)⟩) hS ?_
  try simp only [Act.put, List.setIfInBounds_toArray, List.set_cons_zero, List.set_cons_succ]
  refine wpAnyF_take (i := 2) (oi := { dst := some 33, op := Op.fieldAddr 53 (Operand.tmp 32) 0, type := 0, pos := "soft.go:173", after := #[{ on := 1, ground := Ground.data }], guard := none }) (v := .pointer (some ⟨bf, 0, none⟩)) rfl (by kernel_rfl) (by kernel_rfl) (by kernel_rfl) (by kernel_rfl) (fun _ _ _ h => h) (Or.inl ⟨by kernel_rfl, fun W h => (by first | kernel_rfl | go_simp)⟩) hS ?_
  try simp only [Act.put, List.setIfInBounds_toArray, List.set_cons_zero, List.set_cons_succ]
  refine wpAnyF_take (i := 3) (oi := { dst := some 34, op := Op.load 51 (Operand.tmp 33), type := 51, pos := "soft.go:173", after := #[{ on := 2, ground := Ground.data }], guard := none }) (v := .pointer (some ⟨bc, 0, none⟩)) rfl (by kernel_rfl) (by kernel_rfl) (by kernel_rfl) (by kernel_rfl) (fun _ _ _ h => h) (Or.inl ⟨by kernel_rfl, fun W h => Op1.ld_ptr (.tmp 33) (by kernel_rfl) (by kernel_rfl) W (h.1)⟩) hS ?_
  try simp only [Act.put, List.setIfInBounds_toArray, List.set_cons_zero, List.set_cons_succ]
  refine wpAnyF_take (i := 4) (oi := { dst := some 35, op := Op.move (Operand.tmp 6), type := 3, pos := "soft.go:173", after := #[], guard := none }) (v := .int .i64 (n : Int)) rfl (by kernel_rfl) (by kernel_rfl) (by kernel_rfl) (by kernel_rfl) (fun _ _ _ h => h) (Or.inl ⟨by kernel_rfl, fun W h => (by first | kernel_rfl | go_simp)⟩) hS ?_
  try simp only [Act.put, List.setIfInBounds_toArray, List.set_cons_zero, List.set_cons_succ]
  refine wpAnyF_take (i := 5) (oi := { dst := some 36, op := Op.nilCheck (Operand.tmp 34), type := 0, pos := "soft.go:173", after := #[{ on := 3, ground := Ground.data }], guard := none }) (v := .pointer (some ⟨bc, 0, none⟩)) rfl (by kernel_rfl) (by kernel_rfl) (by kernel_rfl) (by kernel_rfl) (fun _ _ _ h => h) (Or.inl ⟨by kernel_rfl, fun W h => (by first | kernel_rfl | go_simp)⟩) hS ?_
  try simp only [Act.put, List.setIfInBounds_toArray, List.set_cons_zero, List.set_cons_succ]
  refine wpAnyF_take (i := 6) (oi := { dst := some 37, op := Op.fieldAddr 57 (Operand.tmp 36) 0, type := 0, pos := "soft.go:173", after := #[{ on := 5, ground := Ground.data }], guard := none }) (v := .pointer (some ⟨bc, 0, none⟩)) rfl (by kernel_rfl) (by kernel_rfl) (by kernel_rfl) (by kernel_rfl) (fun _ _ _ h => h) (Or.inl ⟨by kernel_rfl, fun W h => (by first | kernel_rfl | go_simp)⟩) hS ?_
  try simp only [Act.put, List.setIfInBounds_toArray, List.set_cons_zero, List.set_cons_succ]
  refine wpAnyF_take (i := 7) (oi := { dst := some 38, op := Op.fieldAddr 44 (Operand.tmp 37) 0, type := 0, pos := "soft.go:173", after := #[{ on := 6, ground := Ground.data }], guard := none }) (v := .pointer (some ⟨bc, 0, none⟩)) rfl (by kernel_rfl) (by kernel_rfl) (by kernel_rfl) (by kernel_rfl) (fun _ _ _ h => h) (Or.inl ⟨by kernel_rfl, fun W h => (by first | kernel_rfl | go_simp)⟩) hS ?_
  try simp only [Act.put, List.setIfInBounds_toArray, List.set_cons_zero, List.set_cons_succ]
  refine wpAnyF_take (i := 8) (oi := { dst := some 39, op := Op.indexAddr 35 (Operand.tmp 38) (Operand.tmp 35), type := 0, pos := "soft.go:173", after := #[{ on := 7, ground := Ground.data }, { on := 4, ground := Ground.data }], guard := none }) (v := .pointer (some ⟨bc, n * 5, none⟩)) rfl (by kernel_rfl) (by kernel_rfl) (by kernel_rfl) (by kernel_rfl) (fun _ _ _ h => h) (Or.inl ⟨by kernel_rfl, fun W h => Op1.ix_ino (.tmp 38) (.tmp 35) (by kernel_rfl) (by kernel_rfl) (by kernel_rfl) (hn) W⟩) hS ?_
  try simp only [Act.put, List.setIfInBounds_toArray, List.set_cons_zero, List.set_cons_succ]
  refine wpAnyF_take (i := 9) (oi := { dst := some 40, op := Op.fieldAddr 34 (Operand.tmp 39) 2, type := 0, pos := "soft.go:173", after := #[{ on := 8, ground := Ground.data }], guard := none }) (v := .pointer (some ⟨bc, n * 5 + 2, none⟩)) rfl (by kernel_rfl) (by kernel_rfl) (by kernel_rfl) (by kernel_rfl) (fun _ _ _ h => h) (Or.inl ⟨by kernel_rfl, fun W h => (by first | kernel_rfl | go_simp)⟩) hS ?_
  try simp only [Act.put, List.setIfInBounds_toArray, List.set_cons_zero, List.set_cons_succ]
  refine wpAnyF_take (i := 10) (oi := { dst := some 41, op := Op.load 3 (Operand.tmp 40), type := 3, pos := "soft.go:173", after := #[{ on := 9, ground := Ground.data }], guard := none }) (v := .int .i64 (m1.links n)) rfl (by kernel_rfl) (by kernel_rfl) (by kernel_rfl) (by kernel_rfl) (fun _ _ _ h => h) (Or.inl ⟨by kernel_rfl, fun W h => Op1.ld_int (.tmp 40) (by kernel_rfl) (by kernel_rfl) W (by have := h.2.links n hn; rw [Nat.zero_add] at this; exact this)⟩) hS ?_
  try simp only [Act.put, List.setIfInBounds_toArray, List.set_cons_zero, List.set_cons_succ]
  refine wpAnyF_take (i := 11) (oi := { dst := some 42, op := Op.binOp BinOp.sub 3 (Operand.tmp 41) (Operand.const (Value.int IntKind.i64 1)) 3, type := 3, pos := "soft.go:173", after := #[{ on := 10, ground := Ground.data }], guard := none }) (v := .int .i64 (m1.links n - 1)) rfl (by kernel_rfl) (by kernel_rfl) (by kernel_rfl) (by kernel_rfl) (fun _ _ _ h => h) (Or.inl ⟨by kernel_rfl, fun W h => Op1.sub1 (.tmp 41) (by kernel_rfl) (by kernel_rfl) (by kernel_rfl) (by omega) W⟩) hS ?_
  try simp only [Act.put, List.setIfInBounds_toArray, List.set_cons_zero, List.set_cons_succ]
  refine wpAnyF_free (i := 12) (oi := { dst := some 43, op := Op.nilCheck (Operand.tmp 34), type := 0, pos := "soft.go:173", after := #[{ on := 3, ground := Ground.data }], guard := none }) (v := .pointer (some ⟨bc, 0, none⟩)) rfl (by kernel_rfl) (by kernel_rfl) (by kernel_rfl) (by kernel_rfl) (fun _ _ _ h => h) (Or.inl ⟨by kernel_rfl, fun W _ => (by first | kernel_rfl | go_simp)⟩) hS ?_
  try simp only [Act.put, List.setIfInBounds_toArray, List.set_cons_zero, List.set_cons_succ]
  refine wpAnyF_free (i := 13) (oi := { dst := some 44, op := Op.fieldAddr 57 (Operand.tmp 43) 0, type := 0, pos := "soft.go:173", after := #[{ on := 12, ground := Ground.data }], guard := none }) (v := .pointer (some ⟨bc, 0, none⟩)) rfl (by kernel_rfl) (by kernel_rfl) (by kernel_rfl) (by kernel_rfl) (fun _ _ _ h => h) (Or.inl ⟨by kernel_rfl, fun W _ => (by first | kernel_rfl | go_simp)⟩) hS ?_
  try simp only [Act.put, List.setIfInBounds_toArray, List.set_cons_zero, List.set_cons_succ]
  refine wpAnyF_free (i := 14) (oi := { dst := some 45, op := Op.fieldAddr 44 (Operand.tmp 44) 0, type := 0, pos := "soft.go:173", after := #[{ on := 13, ground := Ground.data }], guard := none }) (v := .pointer (some ⟨bc, 0, none⟩)) rfl (by kernel_rfl) (by kernel_rfl) (by kernel_rfl) (by kernel_rfl) (fun _ _ _ h => h) (Or.inl ⟨by kernel_rfl, fun W _ => (by first | kernel_rfl | go_simp)⟩) hS ?_
  try simp only [Act.put, List.setIfInBounds_toArray, List.set_cons_zero, List.set_cons_succ]
  refine wpAnyF_free (i := 15) (oi := { dst := some 46, op := Op.indexAddr 35 (Operand.tmp 45) (Operand.tmp 35), type := 0, pos := "soft.go:173", after := #[{ on := 14, ground := Ground.data }, { on := 4, ground := Ground.data }, { on := 0, ground := Ground.phase }, { on := 1, ground := Ground.phase }, { on := 2, ground := Ground.phase }, { on := 3, ground := Ground.phase }, { on := 4, ground := Ground.phase }, { on := 5, ground := Ground.phase }, { on := 6, ground := Ground.phase }, { on := 7, ground := Ground.phase }, { on := 8, ground := Ground.phase }, { on := 9, ground := Ground.phase }, { on := 10, ground := Ground.phase }, { on := 11, ground := Ground.phase }], guard := none }) (v := .pointer (some ⟨bc, n * 5, none⟩)) rfl (by kernel_rfl) (by kernel_rfl) (by kernel_rfl) (by kernel_rfl) (fun _ _ _ h => h) (Or.inl ⟨by kernel_rfl, fun W _ => Op1.ix_ino (.tmp 45) (.tmp 35) (by kernel_rfl) (by kernel_rfl) (by kernel_rfl) (hn) W⟩) hS ?_
  try simp only [Act.put, List.setIfInBounds_toArray, List.set_cons_zero, List.set_cons_succ]
  refine wpAnyF_take (i := 16) (oi := { dst := some 47, op := Op.fieldAddr 34 (Operand.tmp 46) 2, type := 0, pos := "soft.go:173", after := #[{ on := 15, ground := Ground.data }, { on := 0, ground := Ground.phase }, { on := 1, ground := Ground.phase }, { on := 2, ground := Ground.phase }, { on := 3, ground := Ground.phase }, { on := 4, ground := Ground.phase }, { on := 5, ground := Ground.phase }, { on := 6, ground := Ground.phase }, { on := 7, ground := Ground.phase }, { on := 8, ground := Ground.phase }, { on := 9, ground := Ground.phase }, { on := 10, ground := Ground.phase }, { on := 11, ground := Ground.phase }], guard := none }) (v := .pointer (some ⟨bc, n * 5 + 2, none⟩)) rfl (by kernel_rfl) (by kernel_rfl) (by kernel_rfl) (by kernel_rfl) (fun _ _ _ h => h) (Or.inl ⟨by kernel_rfl, fun W h => (by first | kernel_rfl | go_simp)⟩) hS ?_
  try simp only [Act.put, List.setIfInBounds_toArray, List.set_cons_zero, List.set_cons_succ]
  generalize World.drew _ = W2 at hS FM3 ⊢
  refine wpAnyF_last (o := { dst := none, op := Op.store 3 (Operand.tmp 47) (Operand.tmp 42), type := 0, pos := "soft.go:173", after := #[{ on := 16, ground := Ground.data }, { on := 11, ground := Ground.data }, { on := 0, ground := Ground.phase }, { on := 1, ground := Ground.phase }, { on := 2, ground := Ground.phase }, { on := 3, ground := Ground.phase }, { on := 4, ground := Ground.phase }, { on := 5, ground := Ground.phase }, { on := 6, ground := Ground.phase }, { on := 7, ground := Ground.phase }, { on := 8, ground := Ground.phase }, { on := 9, ground := Ground.phase }, { on := 10, ground := Ground.phase }, { on := 11, ground := Ground.phase }], guard := none }) (by kernel_rfl) rfl (by kernel_rfl) (by kernel_rfl) (fun K hK => ?_)
  refine Op1.st_int (v := m1.links n - 1) (.tmp 47) (.tmp 42) (by kernel_rfl) rfl (by kernel_rfl) (by kernel_rfl) (by have := hS.2.links n hn; rw [Nat.zero_add] at this; exact this) ((unhide FM3).frozen _) ?_
  refine hK.out _ _ ?_
  clear hK K
  try simp only [Act.put, List.setIfInBounds_toArray, List.set_cons_zero, List.set_cons_succ]
  refine wpAnyF_done (by kernel_rfl) ?_ _
  obtain ⟨cs2, f4, hm4⟩ := Fd.lnk (unhide FM3) (unhide HM2) hn (m1.links n - 1)
  have FM4 := hide f4
  have HM4 := hide hm4
  clear f4 hm4 hS FM3 HM2
  generalize W2.setCell ⟨bc, n * 5 + 2, none⟩ (.int .i64 (m1.links n - 1)) = W3 at FM4 ⊢
  generalize m1.putIno n ⟨m1.live n, m1.stamp n, m1.links n - 1, m1.part n 0, m1.part n 1⟩ = m2 at HM4 HQ
  have p3 := (unhide FM4).ptr
  have l3 := (unhide FM4).flt
  have C2 := hide (At.refs_any bc m2 (n : Int) W3 ((unhide FM4).has (unhide HM4)))
  generalize hrf : m2.refs (n : Int) = rf at C2
  have HRF := hide hrf
  clear hrf
  go_wp2_with fail
  refine (unhide C2).mono ?_
  rintro e wq ⟨rfl, e9⟩
  rw [e9]
  clear e9 wq C2
  by_cases hz : rf = 0
  · have u1 : ((rf : Int) == 0) = true := by simp [hz]
    have FIN := hide (show mf = m2.putIno n Ino.none by rw [unhide HQ, unhide HRF, if_pos hz])
    clear hz p3 l3
    go_wp2_with fail
    have FM5 := hide ((unhide FM4).call (Below.refl _ _).drew)
    clear FM4
    refine wp_region_F (S := PS2 bf bc m2) 10 (by kernel_rfl) (PS2.of (unhide FM5) (unhide HM4)) (fun hS => ?_)
    refine wpAnyF_take (i := 0) (oi := { dst := some 57, op := Op.move (Operand.tmp 0), type := 46, pos := "soft.go:175", after := #[], guard := none }) (v := .pointer (some ⟨bf, 0, none⟩)) rfl (by kernel_rfl) (by kernel_rfl) (by kernel_rfl) (by kernel_rfl) (fun _ _ _ h => h) (Or.inl ⟨by kernel_rfl, fun W h => (by first | kernel_rfl | go_simp)⟩) hS ?_
    try simp only [Act.put, List.setIfInBounds_toArray, List.set_cons_zero, List.set_cons_succ]
    refine wpAnyF_take (i := 1) (oi := { dst := some 58, op := Op.nilCheck (Operand.tmp 57), type := 0, pos := "soft.go:175", after := #[{ on := 0, ground := Ground.data }], guard := none }) (v := .pointer (some ⟨bf, 0, none⟩)) rfl (by kernel_rfl) (by kernel_rfl) (by kernel_rfl) (by kernel_rfl) (fun _ _ _ h => h) (Or.inl ⟨by kernel_rfl, fun W h => (by first | kernel_rfl | go_simp)⟩) hS ?_
    try simp only [Act.put, List.setIfInBounds_toArray, List.set_cons_zero, List.set_cons_succ]
    refine wpAnyF_take (i := 2) (oi := { dst := some 59, op := Op.fieldAddr 53 (Operand.tmp 58) 0, type := 0, pos := "soft.go:175", after := #[{ on := 1, ground := Ground.data }], guard := none }) (v := .pointer (some ⟨bf, 0, none⟩)) rfl (by kernel_rfl) (by kernel_rfl) (by kernel_rfl) (by kernel_rfl) (fun _ _ _ h => h) (Or.inl ⟨by kernel_rfl, fun W h => (by first | kernel_rfl | go_simp)⟩) hS ?_
    try simp only [Act.put, List.setIfInBounds_toArray, List.set_cons_zero, List.set_cons_succ]
    refine wpAnyF_take (i := 3) (oi := { dst := some 60, op := Op.load 51 (Operand.tmp 59), type := 51, pos := "soft.go:175", after := #[{ on := 2, ground := Ground.data }], guard := none }) (v := .pointer (some ⟨bc, 0, none⟩)) rfl (by kernel_rfl) (by kernel_rfl) (by kernel_rfl) (by kernel_rfl) (fun _ _ _ h => h) (Or.inl ⟨by kernel_rfl, fun W h => Op1.ld_ptr (.tmp 59) (by kernel_rfl) (by kernel_rfl) W (h.1)⟩) hS ?_
    try simp only [Act.put, List.setIfInBounds_toArray, List.set_cons_zero, List.set_cons_succ]
    refine wpAnyF_take (i := 4) (oi := { dst := some 61, op := Op.move (Operand.tmp 6), type := 3, pos := "soft.go:175", after := #[], guard := none }) (v := .int .i64 (n : Int)) rfl (by kernel_rfl) (by kernel_rfl) (by kernel_rfl) (by kernel_rfl) (fun _ _ _ h => h) (Or.inl ⟨by kernel_rfl, fun W h => (by first | kernel_rfl | go_simp)⟩) hS ?_
    try simp only [Act.put, List.setIfInBounds_toArray, List.set_cons_zero, List.set_cons_succ]
    refine wpAnyF_free (i := 6) (oi := { dst := some 63, op := Op.nilCheck (Operand.tmp 60), type := 0, pos := "soft.go:175", after := #[{ on := 3, ground := Ground.data }], guard := none }) (v := .pointer (some ⟨bc, 0, none⟩)) rfl (by kernel_rfl) (by kernel_rfl) (by kernel_rfl) (by kernel_rfl) (fun _ _ _ h => h) (Or.inl ⟨by kernel_rfl, fun W _ => (by first | kernel_rfl | go_simp)⟩) hS ?_
    try simp only [Act.put, List.setIfInBounds_toArray, List.set_cons_zero, List.set_cons_succ]
    refine wpAnyF_free (i := 7) (oi := { dst := some 64, op := Op.fieldAddr 57 (Operand.tmp 63) 0, type := 0, pos := "soft.go:175", after := #[{ on := 6, ground := Ground.data }], guard := none }) (v := .pointer (some ⟨bc, 0, none⟩)) rfl (by kernel_rfl) (by kernel_rfl) (by kernel_rfl) (by kernel_rfl) (fun _ _ _ h => h) (Or.inl ⟨by kernel_rfl, fun W _ => (by first | kernel_rfl | go_simp)⟩) hS ?_
    try simp only [Act.put, List.setIfInBounds_toArray, List.set_cons_zero, List.set_cons_succ]
    refine wpAnyF_free (i := 8) (oi := { dst := some 65, op := Op.fieldAddr 44 (Operand.tmp 64) 0, type := 0, pos := "soft.go:175", after := #[{ on := 7, ground := Ground.data }], guard := none }) (v := .pointer (some ⟨bc, 0, none⟩)) rfl (by kernel_rfl) (by kernel_rfl) (by kernel_rfl) (by kernel_rfl) (fun _ _ _ h => h) (Or.inl ⟨by kernel_rfl, fun W _ => (by first | kernel_rfl | go_simp)⟩) hS ?_
    try simp only [Act.put, List.setIfInBounds_toArray, List.set_cons_zero, List.set_cons_succ]
    generalize World.drew _ = W4 at hS FM5 ⊢
    refine wpAnyF_one (i := 5) (o := { dst := some 62, op := Op.call { callee := Callee.value (Operand.func 85), args := #[], argTypes := #[] }, type := 34, pos := "soft.go:175", after := #[], guard := none }) (by kernel_rfl) rfl (by kernel_rfl) (fun K hK => ?_)
    go_simp
    refine (free_any W4).mono ?_
    rintro e w5 ⟨rfl, b5⟩
    have FM6 := hide ((unhide FM5).call b5)
    clear b5
    go_wp2_with fail
    have hS1 := PS2.of (unhide FM6) (unhide HM4)
    refine hK.out _ _ (fun _ => hS1) ?_
    clear hK K
    try simp only [Act.put, List.setIfInBounds_toArray, List.set_cons_zero, List.set_cons_succ]
    refine wpAnyF_take (i := 9) (oi := { dst := some 66, op := Op.indexAddr 35 (Operand.tmp 65) (Operand.tmp 61), type := 0, pos := "soft.go:175", after := #[{ on := 8, ground := Ground.data }, { on := 4, ground := Ground.data }, { on := 0, ground := Ground.phase }, { on := 1, ground := Ground.phase }, { on := 2, ground := Ground.phase }, { on := 3, ground := Ground.phase }, { on := 4, ground := Ground.phase }, { on := 5, ground := Ground.phase }], guard := none }) (v := .pointer (some ⟨bc, n * 5, none⟩)) rfl (by kernel_rfl) (by kernel_rfl) (by kernel_rfl) (by kernel_rfl) (fun _ _ _ h => h) (Or.inl ⟨by kernel_rfl, fun W h => Op1.ix_ino (.tmp 65) (.tmp 61) (by kernel_rfl) (by kernel_rfl) (by kernel_rfl) (hn) W⟩) hS1 ?_
    try simp only [Act.put, List.setIfInBounds_toArray, List.set_cons_zero, List.set_cons_succ]
    refine wpAnyF_last (o := { dst := none, op := Op.store 34 (Operand.tmp 66) (Operand.tmp 62), type := 0, pos := "soft.go:175", after := #[{ on := 9, ground := Ground.data }, { on := 5, ground := Ground.data }, { on := 5, ground := Ground.chain }, { on := 0, ground := Ground.phase }, { on := 1, ground := Ground.phase }, { on := 2, ground := Ground.phase }, { on := 3, ground := Ground.phase }, { on := 4, ground := Ground.phase }, { on := 5, ground := Ground.phase }], guard := none }) (by kernel_rfl) rfl (by kernel_rfl) (by kernel_rfl) (fun K hK => ?_)
    refine Op1.st_part (cells := #[.bool false, .int .i64 0, .int .i64 0, .int .i64 (-1), .int .i64 (-1)]) (o0 := n * 5) 34 (.tmp 66) (.tmp 62) (by kernel_rfl) rfl (by kernel_rfl) (by kernel_rfl) (unhide FM6).row sz_ino (by have := (unhide HM4).size; simp; omega) (by kernel_rfl) ?_
    refine hK.out _ _ ?_
    clear hK K
    try simp only [Act.put, List.setIfInBounds_toArray, List.set_cons_zero, List.set_cons_succ]
    refine wpAnyF_done (by kernel_rfl) ?_ _
    have DONE := hide (Fd.ino (unhide FM6) (unhide HM4) hn Ino.none)
    clear hS hS1
    go_wp2_with fail
    go_end0
    exact ⟨rfl, by rw [unhide FIN]; exact unhide DONE⟩
  · have u1 : ((rf : Int) == 0) = false := by simp; omega
    have FIN := hide (show mf = m2 by rw [unhide HQ, unhide HRF, if_neg hz])
    have DONE := hide (show Fd w W3 bf bc ds m2 last from ⟨cs2, unhide FM4, unhide HM4⟩)
    clear hz p3 l3
    go_wp2_with fail
    go_end0
    exact ⟨rfl, by rw [unhide FIN]; exact unhide DONE⟩
end
end Go.Proofs.YtmbpckmpnnmnmacGreat
namespace Go.Proofs.YtmbpckmpnnmnmacGreat
open Go.RowKit
open Idl (Stp chk stpA)
section
variable {w w0 w1 : World} {bf bc : Nat} {cs ds rows : Array Value} {m k : Img} {last : Int}
set_option maxHeartbeats 2000000 in
set_option maxRecDepth 100000 in
theorem sput_any (h : Fl w bf bc cs ds m k last) {n q x : Nat} (hn : n < 8) (hq : q < 2) (hx : x < 9) (text : ByteArray) (ht : text.size ≤ maxLen) (hc : (m.part n q < 0 ∧ Img.freeData m k = (x : Int)) ∨ m.part n q = (x : Int)) :
    Calls Tryz.prog 70 #[.pointer (some ⟨bf, 0, none⟩), .int .i64 (n : Int), .int .i64 (q : Int), .string text] w fun e w' => e = .returned (.tuple #[]) ∧ Fd w w' bf bc ds (Img.putPart m k n q text) last := by
  have nz : (n : Int) < 8 := by omega
  have qz : (q : Int) < 2 := by omega
  have HM := hide h.now
  have FM0 := hide h.fm
  have p0 := h.ptr
  have l0 := h.flt
  have l1 := h.clt
  have c0 : w.cell? ⟨bc, n * 5 + 3 + q, none⟩ = some (.int .i64 (m.part n q)) := by
    have := h.hasNow.part n q hn hq
    rw [Nat.zero_add] at this; exact this
  rcases hc with ⟨hneg, he⟩ | hpos
  · have e1 : Img.putPart m k n q text = (m.setPart n q (x : Int)).putData x ((m.setPart n q (x : Int)).stamp n) text := by
      unfold Img.putPart
      simp only [if_pos hneg, he]
      rw [Img.setPart_at hq, Int.toNat_natCast]
    have FIN := hide e1
    have C1 := hide fun W (h1 : W.heap[bc]? = some (.cells (cs ++ ds) 57)) => cData_any bc cs ds m k h.now h.disk W h1
    rw [he] at C1
    have u1 : decide (m.part n q < 0) = true := by simpa using hneg
    generalize Img.putPart m k n q text = mf at FIN ⊢
    have HSA := hide (Img.setPart_at (now := m) (n := n) hq (x : Int))
    generalize m.part n q = pt at c0 u1
    clear h he e1 hneg
    go_enter Tryz.func70, Tryz.ntmps70
    go_wp2_with fail
    have FM1 := hide ((unhide FM0).call (Below.refl _ _).drew)
    clear FM0 p0 l0 l1 nz qz c0
    refine wp_region_F (S := PS2 bf bc m) 10 (by kernel_rfl) (PS2.of (unhide FM1) (unhide HM)) (fun hS => ?_)
    refine wpAnyF_take (i := 0) (oi := { dst := some 25, op := Op.move (Operand.tmp 8), type := 100, pos := "soft.go:183", after := #[], guard := none }) (v := .pointer (some ⟨bc, n * 5, none⟩)) rfl (by kernel_rfl) (by kernel_rfl) (by kernel_rfl) (by kernel_rfl) (fun _ _ _ h => h) (Or.inl ⟨by kernel_rfl, fun W h => (by first | kernel_rfl | go_simp)⟩) hS ?_
    try simp only [Act.put, List.setIfInBounds_toArray, List.set_cons_zero, List.set_cons_succ]
    refine wpAnyF_take (i := 1) (oi := { dst := some 26, op := Op.move (Operand.tmp 2), type := 3, pos := "soft.go:183", after := #[], guard := none }) (v := .int .i64 (q : Int)) rfl (by kernel_rfl) (by kernel_rfl) (by kernel_rfl) (by kernel_rfl) (fun _ _ _ h => h) (Or.inl ⟨by kernel_rfl, fun W h => (by first | kernel_rfl | go_simp)⟩) hS ?_
    try simp only [Act.put, List.setIfInBounds_toArray, List.set_cons_zero, List.set_cons_succ]
    refine wpAnyF_take (i := 2) (oi := { dst := some 27, op := Op.move (Operand.tmp 0), type := 46, pos := "soft.go:183", after := #[], guard := none }) (v := .pointer (some ⟨bf, 0, none⟩)) rfl (by kernel_rfl) (by kernel_rfl) (by kernel_rfl) (by kernel_rfl) (fun _ _ _ h => h) (Or.inl ⟨by kernel_rfl, fun W h => (by first | kernel_rfl | go_simp)⟩) hS ?_
    try simp only [Act.put, List.setIfInBounds_toArray, List.set_cons_zero, List.set_cons_succ]
    refine wpAnyF_take (i := 3) (oi := { dst := some 28, op := Op.nilCheck (Operand.tmp 27), type := 0, pos := "soft.go:183", after := #[{ on := 2, ground := Ground.data }], guard := none }) (v := .pointer (some ⟨bf, 0, none⟩)) rfl (by kernel_rfl) (by kernel_rfl) (by kernel_rfl) (by kernel_rfl) (fun _ _ _ h => h) (Or.inl ⟨by kernel_rfl, fun W h => (by first | kernel_rfl | go_simp)⟩) hS ?_
    try simp only [Act.put, List.setIfInBounds_toArray, List.set_cons_zero, List.set_cons_succ]
    refine wpAnyF_take (i := 4) (oi := { dst := some 29, op := Op.fieldAddr 53 (Operand.tmp 28) 0, type := 0, pos := "soft.go:183", after := #[{ on := 3, ground := Ground.data }], guard := none }) (v := .pointer (some ⟨bf, 0, none⟩)) rfl (by kernel_rfl) (by kernel_rfl) (by kernel_rfl) (by kernel_rfl) (fun _ _ _ h => h) (Or.inl ⟨by kernel_rfl, fun W h => (by first | kernel_rfl | go_simp)⟩) hS ?_
    try simp only [Act.put, List.setIfInBounds_toArray, List.set_cons_zero, List.set_cons_succ]
    refine wpAnyF_take (i := 5) (oi := { dst := some 30, op := Op.load 51 (Operand.tmp 29), type := 51, pos := "soft.go:183", after := #[{ on := 4, ground := Ground.data }], guard := none }) (v := .pointer (some ⟨bc, 0, none⟩)) rfl (by kernel_rfl) (by kernel_rfl) (by kernel_rfl) (by kernel_rfl) (fun _ _ _ h => h) (Or.inl ⟨by kernel_rfl, fun W h => Op1.ld_ptr (.tmp 29) (by kernel_rfl) (by kernel_rfl) W (h.1)⟩) hS ?_
    try simp only [Act.put, List.setIfInBounds_toArray, List.set_cons_zero, List.set_cons_succ]
    refine wpAnyF_free (i := 7) (oi := { dst := some 32, op := Op.nilCheck (Operand.tmp 25), type := 0, pos := "soft.go:183", after := #[{ on := 0, ground := Ground.data }], guard := none }) (v := .pointer (some ⟨bc, n * 5, none⟩)) rfl (by kernel_rfl) (by kernel_rfl) (by kernel_rfl) (by kernel_rfl) (fun _ _ _ h => h) (Or.inl ⟨by kernel_rfl, fun W _ => (by first | kernel_rfl | go_simp)⟩) hS ?_
    try simp only [Act.put, List.setIfInBounds_toArray, List.set_cons_zero, List.set_cons_succ]
    refine wpAnyF_free (i := 8) (oi := { dst := some 33, op := Op.fieldAddr 34 (Operand.tmp 32) 3, type := 0, pos := "soft.go:183", after := #[{ on := 7, ground := Ground.data }], guard := none }) (v := .pointer (some ⟨bc, n * 5 + 3, none⟩)) rfl (by kernel_rfl) (by kernel_rfl) (by kernel_rfl) (by kernel_rfl) (fun _ _ _ h => h) (Or.inl ⟨by kernel_rfl, fun W _ => (by first | kernel_rfl | go_simp)⟩) hS ?_
    try simp only [Act.put, List.setIfInBounds_toArray, List.set_cons_zero, List.set_cons_succ]
    generalize World.drew _ = W0 at hS FM1 ⊢
    refine wpAnyF_one (i := 6) (o := { dst := some 31, op := Op.call { callee := Callee.value (Operand.func 100), args := #[Operand.tmp 30], argTypes := #[51] }, type := 3, pos := "soft.go:183", after := #[{ on := 5, ground := Ground.data }], guard := none }) (by kernel_rfl) rfl (by kernel_rfl) (fun K hK => ?_)
    go_simp
    refine (unhide C1 W0 (unhide FM1).row).mono ?_
    rintro e w1 ⟨rfl, b1⟩
    have FM2 := hide ((unhide FM1).call b1)
    clear b1
    go_wp2_with fail
    have hS1 := PS2.of (unhide FM2) (unhide HM)
    refine hK.out _ _ (fun _ => hS1) ?_
    clear hK K
    try simp only [Act.put, List.setIfInBounds_toArray, List.set_cons_zero, List.set_cons_succ]
    refine wpAnyF_take (i := 9) (oi := { dst := some 34, op := Op.indexAddr 32 (Operand.tmp 33) (Operand.tmp 26), type := 0, pos := "soft.go:183", after := #[{ on := 8, ground := Ground.data }, { on := 1, ground := Ground.data }, { on := 0, ground := Ground.phase }, { on := 1, ground := Ground.phase }, { on := 2, ground := Ground.phase }, { on := 3, ground := Ground.phase }, { on := 4, ground := Ground.phase }, { on := 5, ground := Ground.phase }, { on := 6, ground := Ground.phase }], guard := none }) (v := .pointer (some ⟨bc, n * 5 + 3 + q, none⟩)) rfl (by kernel_rfl) (by kernel_rfl) (by kernel_rfl) (by kernel_rfl) (fun _ _ _ h => h) (Or.inl ⟨by kernel_rfl, fun W h => Op1.ix_part (.tmp 33) (.tmp 26) (by kernel_rfl) (by kernel_rfl) (by kernel_rfl) (hq) W⟩) hS1 ?_
    try simp only [Act.put, List.setIfInBounds_toArray, List.set_cons_zero, List.set_cons_succ]
    refine wpAnyF_last (o := { dst := none, op := Op.store 3 (Operand.tmp 34) (Operand.tmp 31), type := 0, pos := "soft.go:183", after := #[{ on := 9, ground := Ground.data }, { on := 6, ground := Ground.data }, { on := 6, ground := Ground.chain }, { on := 0, ground := Ground.phase }, { on := 1, ground := Ground.phase }, { on := 2, ground := Ground.phase }, { on := 3, ground := Ground.phase }, { on := 4, ground := Ground.phase }, { on := 5, ground := Ground.phase }, { on := 6, ground := Ground.phase }], guard := none }) (by kernel_rfl) rfl (by kernel_rfl) (by kernel_rfl) (fun K hK => ?_)
    refine Op1.st_int (v := (x : Int)) (.tmp 34) (.tmp 31) (by kernel_rfl) rfl (by kernel_rfl) (by kernel_rfl) (by have := hS1.2.part n q hn hq; rw [Nat.zero_add] at this; exact this) ((unhide FM2).frozen _) ?_
    refine hK.out _ _ ?_
    clear hK K
    try simp only [Act.put, List.setIfInBounds_toArray, List.set_cons_zero, List.set_cons_succ]
    refine wpAnyF_done (by kernel_rfl) ?_ _
    obtain ⟨cs2, f4, hm4⟩ := Fd.part (unhide FM2) (unhide HM) hn hq (x : Int)
    have FM4 := hide f4
    have HM4 := hide hm4
    clear f4 hm4 hS hS1 FM1 FM2 HM C1
    generalize w1.setCell ⟨bc, n * 5 + 3 + q, none⟩ (.int .i64 (x : Int)) = W3 at FM4 ⊢
    generalize m.setPart n q (x : Int) = m1 at HM4 FIN HSA
    have HPX := HSA
    go_wp2_with fail
    have FM5 := hide ((unhide FM4).call (Below.refl _ _).drew)
    clear FM4
    refine wp_region_F (S := PS2 bf bc m1) 20 (by kernel_rfl) (PS2.of (unhide FM5) (unhide HM4)) (fun hS => ?_)
    refine wpAnyF_take (i := 0) (oi := { dst := some 35, op := Op.move (Operand.tmp 0), type := 46, pos := "soft.go:185", after := #[], guard := none }) (v := .pointer (some ⟨bf, 0, none⟩)) rfl (by kernel_rfl) (by kernel_rfl) (by kernel_rfl) (by kernel_rfl) (fun _ _ _ h => h) (Or.inl ⟨by kernel_rfl, fun W h => (by first | kernel_rfl | go_simp)⟩) hS ?_
    try simp only [Act.put, List.setIfInBounds_toArray, List.set_cons_zero, List.set_cons_succ]
    refine wpAnyF_take (i := 1) (oi := { dst := some 36, op := Op.nilCheck (Operand.tmp 35), type := 0, pos := "soft.go:185", after := #[{ on := 0, ground := Ground.data }], guard := none }) (v := .pointer (some ⟨bf, 0, none⟩)) rfl (by kernel_rfl) (by kernel_rfl) (by kernel_rfl) (by kernel_rfl) (fun _ _ _ h => h) (Or.inl ⟨by kernel_rfl, fun W h => (by first | kernel_rfl | go_simp)⟩) hS ?_
    try simp only [Act.put, List.setIfInBounds_toArray, List.set_cons_zero, List.set_cons_succ]
    refine wpAnyF_take (i := 2) (oi := { dst := some 37, op := Op.fieldAddr 53 (Operand.tmp 36) 0, type := 0, pos := "soft.go:185", after := #[{ on := 1, ground := Ground.data }], guard := none }) (v := .pointer (some ⟨bf, 0, none⟩)) rfl (by kernel_rfl) (by kernel_rfl) (by kernel_rfl) (by kernel_rfl) (fun _ _ _ h => h) (Or.inl ⟨by kernel_rfl, fun W h => (by first | kernel_rfl | go_simp)⟩) hS ?_
    try simp only [Act.put, List.setIfInBounds_toArray, List.set_cons_zero, List.set_cons_succ]
    refine wpAnyF_take (i := 3) (oi := { dst := some 38, op := Op.load 51 (Operand.tmp 37), type := 51, pos := "soft.go:185", after := #[{ on := 2, ground := Ground.data }], guard := none }) (v := .pointer (some ⟨bc, 0, none⟩)) rfl (by kernel_rfl) (by kernel_rfl) (by kernel_rfl) (by kernel_rfl) (fun _ _ _ h => h) (Or.inl ⟨by kernel_rfl, fun W h => Op1.ld_ptr (.tmp 37) (by kernel_rfl) (by kernel_rfl) W (h.1)⟩) hS ?_
    try simp only [Act.put, List.setIfInBounds_toArray, List.set_cons_zero, List.set_cons_succ]
    refine wpAnyF_take (i := 4) (oi := { dst := some 39, op := Op.move (Operand.tmp 8), type := 100, pos := "soft.go:185", after := #[], guard := none }) (v := .pointer (some ⟨bc, n * 5, none⟩)) rfl (by kernel_rfl) (by kernel_rfl) (by kernel_rfl) (by kernel_rfl) (fun _ _ _ h => h) (Or.inl ⟨by kernel_rfl, fun W h => (by first | kernel_rfl | go_simp)⟩) hS ?_
    try simp only [Act.put, List.setIfInBounds_toArray, List.set_cons_zero, List.set_cons_succ]
    refine wpAnyF_take (i := 5) (oi := { dst := some 40, op := Op.move (Operand.tmp 2), type := 3, pos := "soft.go:185", after := #[], guard := none }) (v := .int .i64 (q : Int)) rfl (by kernel_rfl) (by kernel_rfl) (by kernel_rfl) (by kernel_rfl) (fun _ _ _ h => h) (Or.inl ⟨by kernel_rfl, fun W h => (by first | kernel_rfl | go_simp)⟩) hS ?_
    try simp only [Act.put, List.setIfInBounds_toArray, List.set_cons_zero, List.set_cons_succ]
    refine wpAnyF_take (i := 6) (oi := { dst := some 41, op := Op.nilCheck (Operand.tmp 39), type := 0, pos := "soft.go:185", after := #[{ on := 4, ground := Ground.data }], guard := none }) (v := .pointer (some ⟨bc, n * 5, none⟩)) rfl (by kernel_rfl) (by kernel_rfl) (by kernel_rfl) (by kernel_rfl) (fun _ _ _ h => h) (Or.inl ⟨by kernel_rfl, fun W h => (by first | kernel_rfl | go_simp)⟩) hS ?_
    try simp only [Act.put, List.setIfInBounds_toArray, List.set_cons_zero, List.set_cons_succ]
    refine wpAnyF_take (i := 7) (oi := { dst := some 42, op := Op.fieldAddr 34 (Operand.tmp 41) 3, type := 0, pos := "soft.go:185", after := #[{ on := 6, ground := Ground.data }], guard := none }) (v := .pointer (some ⟨bc, n * 5 + 3, none⟩)) rfl (by kernel_rfl) (by kernel_rfl) (by kernel_rfl) (by kernel_rfl) (fun _ _ _ h => h) (Or.inl ⟨by kernel_rfl, fun W h => (by first | kernel_rfl | go_simp)⟩) hS ?_
    try simp only [Act.put, List.setIfInBounds_toArray, List.set_cons_zero, List.set_cons_succ]
    refine wpAnyF_take (i := 8) (oi := { dst := some 43, op := Op.indexAddr 32 (Operand.tmp 42) (Operand.tmp 40), type := 0, pos := "soft.go:185", after := #[{ on := 7, ground := Ground.data }, { on := 5, ground := Ground.data }], guard := none }) (v := .pointer (some ⟨bc, n * 5 + 3 + q, none⟩)) rfl (by kernel_rfl) (by kernel_rfl) (by kernel_rfl) (by kernel_rfl) (fun _ _ _ h => h) (Or.inl ⟨by kernel_rfl, fun W h => Op1.ix_part (.tmp 42) (.tmp 40) (by kernel_rfl) (by kernel_rfl) (by kernel_rfl) (hq) W⟩) hS ?_
    try simp only [Act.put, List.setIfInBounds_toArray, List.set_cons_zero, List.set_cons_succ]
    refine wpAnyF_take (i := 9) (oi := { dst := some 44, op := Op.load 3 (Operand.tmp 43), type := 3, pos := "soft.go:185", after := #[{ on := 8, ground := Ground.data }], guard := none }) (v := .int .i64 (x : Int)) rfl (by kernel_rfl) (by kernel_rfl) (by kernel_rfl) (by kernel_rfl) (fun _ _ _ h => h) (Or.inl ⟨by kernel_rfl, fun W h => Op1.ld_int (.tmp 43) (by kernel_rfl) (by kernel_rfl) W (by have := h.2.part n q hn hq; rw [Nat.zero_add, unhide HPX] at this; exact this)⟩) hS ?_
    try simp only [Act.put, List.setIfInBounds_toArray, List.set_cons_zero, List.set_cons_succ]
    refine wpAnyF_take (i := 10) (oi := { dst := some 45, op := Op.move (Operand.tmp 8), type := 100, pos := "soft.go:185", after := #[], guard := none }) (v := .pointer (some ⟨bc, n * 5, none⟩)) rfl (by kernel_rfl) (by kernel_rfl) (by kernel_rfl) (by kernel_rfl) (fun _ _ _ h => h) (Or.inl ⟨by kernel_rfl, fun W h => (by first | kernel_rfl | go_simp)⟩) hS ?_
    try simp only [Act.put, List.setIfInBounds_toArray, List.set_cons_zero, List.set_cons_succ]
    refine wpAnyF_take (i := 11) (oi := { dst := some 46, op := Op.nilCheck (Operand.tmp 45), type := 0, pos := "soft.go:185", after := #[{ on := 10, ground := Ground.data }], guard := none }) (v := .pointer (some ⟨bc, n * 5, none⟩)) rfl (by kernel_rfl) (by kernel_rfl) (by kernel_rfl) (by kernel_rfl) (fun _ _ _ h => h) (Or.inl ⟨by kernel_rfl, fun W h => (by first | kernel_rfl | go_simp)⟩) hS ?_
    try simp only [Act.put, List.setIfInBounds_toArray, List.set_cons_zero, List.set_cons_succ]
    refine wpAnyF_take (i := 12) (oi := { dst := some 47, op := Op.fieldAddr 34 (Operand.tmp 46) 1, type := 0, pos := "soft.go:185", after := #[{ on := 11, ground := Ground.data }], guard := none }) (v := .pointer (some ⟨bc, n * 5 + 1, none⟩)) rfl (by kernel_rfl) (by kernel_rfl) (by kernel_rfl) (by kernel_rfl) (fun _ _ _ h => h) (Or.inl ⟨by kernel_rfl, fun W h => (by first | kernel_rfl | go_simp)⟩) hS ?_
    try simp only [Act.put, List.setIfInBounds_toArray, List.set_cons_zero, List.set_cons_succ]
    refine wpAnyF_take (i := 13) (oi := { dst := some 48, op := Op.load 3 (Operand.tmp 47), type := 3, pos := "soft.go:185", after := #[{ on := 12, ground := Ground.data }], guard := none }) (v := .int .i64 (m1.stamp n)) rfl (by kernel_rfl) (by kernel_rfl) (by kernel_rfl) (by kernel_rfl) (fun _ _ _ h => h) (Or.inl ⟨by kernel_rfl, fun W h => Op1.ld_int (.tmp 47) (by kernel_rfl) (by kernel_rfl) W (by have := h.2.stamp n hn; rw [Nat.zero_add] at this; exact this)⟩) hS ?_
    try simp only [Act.put, List.setIfInBounds_toArray, List.set_cons_zero, List.set_cons_succ]
    refine wpAnyF_take (i := 14) (oi := { dst := some 49, op := Op.move (Operand.tmp 3), type := 9, pos := "soft.go:185", after := #[], guard := none }) (v := .string text) rfl (by kernel_rfl) (by kernel_rfl) (by kernel_rfl) (by kernel_rfl) (fun _ _ _ h => h) (Or.inl ⟨by kernel_rfl, fun W h => (by first | kernel_rfl | go_simp)⟩) hS ?_
    try simp only [Act.put, List.setIfInBounds_toArray, List.set_cons_zero, List.set_cons_succ]
    refine wpAnyF_take (i := 15) (oi := { dst := some 50, op := Op.build 41 #[(0, Operand.tmp 48), (1, Operand.tmp 49)], type := 41, pos := "soft.go:185", after := #[{ on := 13, ground := Ground.data }, { on := 14, ground := Ground.data }], guard := none }) (v := .agg #[.int .i64 (m1.stamp n), .string text]) rfl (by kernel_rfl) (by kernel_rfl) (by kernel_rfl) (by kernel_rfl) (fun _ _ _ h => h) (Or.inl ⟨by kernel_rfl, fun W h => (by first | kernel_rfl | go_simp)⟩) hS ?_
    try simp only [Act.put, List.setIfInBounds_toArray, List.set_cons_zero, List.set_cons_succ]
    refine wpAnyF_free (i := 16) (oi := { dst := some 51, op := Op.nilCheck (Operand.tmp 38), type := 0, pos := "soft.go:185", after := #[{ on := 3, ground := Ground.data }], guard := none }) (v := .pointer (some ⟨bc, 0, none⟩)) rfl (by kernel_rfl) (by kernel_rfl) (by kernel_rfl) (by kernel_rfl) (fun _ _ _ h => h) (Or.inl ⟨by kernel_rfl, fun W _ => (by first | kernel_rfl | go_simp)⟩) hS ?_
    try simp only [Act.put, List.setIfInBounds_toArray, List.set_cons_zero, List.set_cons_succ]
    refine wpAnyF_free (i := 17) (oi := { dst := some 52, op := Op.fieldAddr 57 (Operand.tmp 51) 0, type := 0, pos := "soft.go:185", after := #[{ on := 16, ground := Ground.data }], guard := none }) (v := .pointer (some ⟨bc, 0, none⟩)) rfl (by kernel_rfl) (by kernel_rfl) (by kernel_rfl) (by kernel_rfl) (fun _ _ _ h => h) (Or.inl ⟨by kernel_rfl, fun W _ => (by first | kernel_rfl | go_simp)⟩) hS ?_
    try simp only [Act.put, List.setIfInBounds_toArray, List.set_cons_zero, List.set_cons_succ]
    refine wpAnyF_free (i := 18) (oi := { dst := some 53, op := Op.fieldAddr 44 (Operand.tmp 52) 2, type := 0, pos := "soft.go:185", after := #[{ on := 17, ground := Ground.data }], guard := none }) (v := .pointer (some ⟨bc, 76, none⟩)) rfl (by kernel_rfl) (by kernel_rfl) (by kernel_rfl) (by kernel_rfl) (fun _ _ _ h => h) (Or.inl ⟨by kernel_rfl, fun W _ => (by first | kernel_rfl | go_simp)⟩) hS ?_
    try simp only [Act.put, List.setIfInBounds_toArray, List.set_cons_zero, List.set_cons_succ]
    refine wpAnyF_take (i := 19) (oi := { dst := some 54, op := Op.indexAddr 42 (Operand.tmp 53) (Operand.tmp 44), type := 0, pos := "soft.go:185", after := #[{ on := 18, ground := Ground.data }, { on := 9, ground := Ground.data }, { on := 0, ground := Ground.phase }, { on := 1, ground := Ground.phase }, { on := 2, ground := Ground.phase }, { on := 3, ground := Ground.phase }, { on := 4, ground := Ground.phase }, { on := 5, ground := Ground.phase }, { on := 6, ground := Ground.phase }, { on := 7, ground := Ground.phase }, { on := 8, ground := Ground.phase }, { on := 9, ground := Ground.phase }, { on := 10, ground := Ground.phase }, { on := 11, ground := Ground.phase }, { on := 12, ground := Ground.phase }, { on := 13, ground := Ground.phase }, { on := 14, ground := Ground.phase }, { on := 15, ground := Ground.phase }], guard := none }) (v := .pointer (some ⟨bc, 76 + x * 2, none⟩)) rfl (by kernel_rfl) (by kernel_rfl) (by kernel_rfl) (by kernel_rfl) (fun _ _ _ h => h) (Or.inl ⟨by kernel_rfl, fun W h => Op1.ix_data (.tmp 53) (.tmp 44) (by kernel_rfl) (by kernel_rfl) (by kernel_rfl) (hx) W⟩) hS ?_
    try simp only [Act.put, List.setIfInBounds_toArray, List.set_cons_zero, List.set_cons_succ]
    generalize World.drew _ = W8 at hS FM5 ⊢
    refine wpAnyF_last (o := { dst := none, op := Op.store 41 (Operand.tmp 54) (Operand.tmp 50), type := 0, pos := "soft.go:185", after := #[{ on := 19, ground := Ground.data }, { on := 15, ground := Ground.data }, { on := 0, ground := Ground.phase }, { on := 1, ground := Ground.phase }, { on := 2, ground := Ground.phase }, { on := 3, ground := Ground.phase }, { on := 4, ground := Ground.phase }, { on := 5, ground := Ground.phase }, { on := 6, ground := Ground.phase }, { on := 7, ground := Ground.phase }, { on := 8, ground := Ground.phase }, { on := 9, ground := Ground.phase }, { on := 10, ground := Ground.phase }, { on := 11, ground := Ground.phase }, { on := 12, ground := Ground.phase }, { on := 13, ground := Ground.phase }, { on := 14, ground := Ground.phase }, { on := 15, ground := Ground.phase }], guard := none }) (by kernel_rfl) rfl (by kernel_rfl) (by kernel_rfl) (fun K hK => ?_)
    refine Op1.st_part (cells := #[.int .i64 (m1.stamp n), .string text]) (o0 := 76 + x * 2) 41 (.tmp 54) (.tmp 50) (by kernel_rfl) rfl (by kernel_rfl) (by kernel_rfl) (unhide FM5).row sz_dat (by have := (unhide HM4).size; simp; omega) (by simp [Value.oneCell']) ?_
    refine hK.out _ _ ?_
    clear hK K
    try simp only [Act.put, List.setIfInBounds_toArray, List.set_cons_zero, List.set_cons_succ]
    refine wpAnyF_done (by kernel_rfl) ?_ _
    have DONE := hide (Fd.dat (unhide FM5) (unhide HM4) hx (m1.stamp n) text ht)
    clear hS
    go_wp2_with fail
    go_end0
    exact ⟨rfl, by rw [unhide FIN]; exact unhide DONE⟩
  · have e1 : Img.putPart m k n q text = m.putData x (m.stamp n) text := by
      unfold Img.putPart
      simp only [if_neg (show ¬ m.part n q < 0 by omega)]
      rw [hpos, Int.toNat_natCast]
    have FIN := hide e1
    have HPX := hide hpos
    rw [hpos] at c0
    have u1 : decide ((x : Int) < 0) = false := by simp
    generalize Img.putPart m k n q text = mf at FIN ⊢
    clear h e1 hpos
    go_enter Tryz.func70, Tryz.ntmps70
    go_wp2_with fail
    have FM1 := hide ((unhide FM0).call (Below.refl _ _).drew)
    clear FM0 p0 l0 l1 nz qz c0
    refine wp_region_F (S := PS2 bf bc m) 20 (by kernel_rfl) (PS2.of (unhide FM1) (unhide HM)) (fun hS => ?_)
    refine wpAnyF_take (i := 0) (oi := { dst := some 35, op := Op.move (Operand.tmp 0), type := 46, pos := "soft.go:185", after := #[], guard := none }) (v := .pointer (some ⟨bf, 0, none⟩)) rfl (by kernel_rfl) (by kernel_rfl) (by kernel_rfl) (by kernel_rfl) (fun _ _ _ h => h) (Or.inl ⟨by kernel_rfl, fun W h => (by first | kernel_rfl | go_simp)⟩) hS ?_
    try simp only [Act.put, List.setIfInBounds_toArray, List.set_cons_zero, List.set_cons_succ]
    refine wpAnyF_take (i := 1) (oi := { dst := some 36, op := Op.nilCheck (Operand.tmp 35), type := 0, pos := "soft.go:185", after := #[{ on := 0, ground := Ground.data }], guard := none }) (v := .pointer (some ⟨bf, 0, none⟩)) rfl (by kernel_rfl) (by kernel_rfl) (by kernel_rfl) (by kernel_rfl) (fun _ _ _ h => h) (Or.inl ⟨by kernel_rfl, fun W h => (by first | kernel_rfl | go_simp)⟩) hS ?_
    try simp only [Act.put, List.setIfInBounds_toArray, List.set_cons_zero, List.set_cons_succ]
    refine wpAnyF_take (i := 2) (oi := { dst := some 37, op := Op.fieldAddr 53 (Operand.tmp 36) 0, type := 0, pos := "soft.go:185", after := #[{ on := 1, ground := Ground.data }], guard := none }) (v := .pointer (some ⟨bf, 0, none⟩)) rfl (by kernel_rfl) (by kernel_rfl) (by kernel_rfl) (by kernel_rfl) (fun _ _ _ h => h) (Or.inl ⟨by kernel_rfl, fun W h => (by first | kernel_rfl | go_simp)⟩) hS ?_
    try simp only [Act.put, List.setIfInBounds_toArray, List.set_cons_zero, List.set_cons_succ]
    refine wpAnyF_take (i := 3) (oi := { dst := some 38, op := Op.load 51 (Operand.tmp 37), type := 51, pos := "soft.go:185", after := #[{ on := 2, ground := Ground.data }], guard := none }) (v := .pointer (some ⟨bc, 0, none⟩)) rfl (by kernel_rfl) (by kernel_rfl) (by kernel_rfl) (by kernel_rfl) (fun _ _ _ h => h) (Or.inl ⟨by kernel_rfl, fun W h => Op1.ld_ptr (.tmp 37) (by kernel_rfl) (by kernel_rfl) W (h.1)⟩) hS ?_
    try simp only [Act.put, List.setIfInBounds_toArray, List.set_cons_zero, List.set_cons_succ]
    refine wpAnyF_take (i := 4) (oi := { dst := some 39, op := Op.move (Operand.tmp 8), type := 100, pos := "soft.go:185", after := #[], guard := none }) (v := .pointer (some ⟨bc, n * 5, none⟩)) rfl (by kernel_rfl) (by kernel_rfl) (by kernel_rfl) (by kernel_rfl) (fun _ _ _ h => h) (Or.inl ⟨by kernel_rfl, fun W h => (by first | kernel_rfl | go_simp)⟩) hS ?_
    try simp only [Act.put, List.setIfInBounds_toArray, List.set_cons_zero, List.set_cons_succ]
    refine wpAnyF_take (i := 5) (oi := { dst := some 40, op := Op.move (Operand.tmp 2), type := 3, pos := "soft.go:185", after := #[], guard := none }) (v := .int .i64 (q : Int)) rfl (by kernel_rfl) (by kernel_rfl) (by kernel_rfl) (by kernel_rfl) (fun _ _ _ h => h) (Or.inl ⟨by kernel_rfl, fun W h => (by first | kernel_rfl | go_simp)⟩) hS ?_
    try simp only [Act.put, List.setIfInBounds_toArray, List.set_cons_zero, List.set_cons_succ]
    refine wpAnyF_take (i := 6) (oi := { dst := some 41, op := Op.nilCheck (Operand.tmp 39), type := 0, pos := "soft.go:185", after := #[{ on := 4, ground := Ground.data }], guard := none }) (v := .pointer (some ⟨bc, n * 5, none⟩)) rfl (by kernel_rfl) (by kernel_rfl) (by kernel_rfl) (by kernel_rfl) (fun _ _ _ h => h) (Or.inl ⟨by kernel_rfl, fun W h => (by first | kernel_rfl | go_simp)⟩) hS ?_
    try simp only [Act.put, List.setIfInBounds_toArray, List.set_cons_zero, List.set_cons_succ]
    refine wpAnyF_take (i := 7) (oi := { dst := some 42, op := Op.fieldAddr 34 (Operand.tmp 41) 3, type := 0, pos := "soft.go:185", after := #[{ on := 6, ground := Ground.data }], guard := none }) (v := .pointer (some ⟨bc, n * 5 + 3, none⟩)) rfl (by kernel_rfl) (by kernel_rfl) (by kernel_rfl) (by kernel_rfl) (fun _ _ _ h => h) (Or.inl ⟨by kernel_rfl, fun W h => (by first | kernel_rfl | go_simp)⟩) hS ?_
    try simp only [Act.put, List.setIfInBounds_toArray, List.set_cons_zero, List.set_cons_succ]
    refine wpAnyF_take (i := 8) (oi := { dst := some 43, op := Op.indexAddr 32 (Operand.tmp 42) (Operand.tmp 40), type := 0, pos := "soft.go:185", after := #[{ on := 7, ground := Ground.data }, { on := 5, ground := Ground.data }], guard := none }) (v := .pointer (some ⟨bc, n * 5 + 3 + q, none⟩)) rfl (by kernel_rfl) (by kernel_rfl) (by kernel_rfl) (by kernel_rfl) (fun _ _ _ h => h) (Or.inl ⟨by kernel_rfl, fun W h => Op1.ix_part (.tmp 42) (.tmp 40) (by kernel_rfl) (by kernel_rfl) (by kernel_rfl) (hq) W⟩) hS ?_
    try simp only [Act.put, List.setIfInBounds_toArray, List.set_cons_zero, List.set_cons_succ]
    refine wpAnyF_take (i := 9) (oi := { dst := some 44, op := Op.load 3 (Operand.tmp 43), type := 3, pos := "soft.go:185", after := #[{ on := 8, ground := Ground.data }], guard := none }) (v := .int .i64 (x : Int)) rfl (by kernel_rfl) (by kernel_rfl) (by kernel_rfl) (by kernel_rfl) (fun _ _ _ h => h) (Or.inl ⟨by kernel_rfl, fun W h => Op1.ld_int (.tmp 43) (by kernel_rfl) (by kernel_rfl) W (by have := h.2.part n q hn hq; rw [Nat.zero_add, unhide HPX] at this; exact this)⟩) hS ?_
    try simp only [Act.put, List.setIfInBounds_toArray, List.set_cons_zero, List.set_cons_succ]
    refine wpAnyF_take (i := 10) (oi := { dst := some 45, op := Op.move (Operand.tmp 8), type := 100, pos := "soft.go:185", after := #[], guard := none }) (v := .pointer (some ⟨bc, n * 5, none⟩)) rfl (by kernel_rfl) (by kernel_rfl) (by kernel_rfl) (by kernel_rfl) (fun _ _ _ h => h) (Or.inl ⟨by kernel_rfl, fun W h => (by first | kernel_rfl | go_simp)⟩) hS ?_
    try simp only [Act.put, List.setIfInBounds_toArray, List.set_cons_zero, List.set_cons_succ]
    refine wpAnyF_take (i := 11) (oi := { dst := some 46, op := Op.nilCheck (Operand.tmp 45), type := 0, pos := "soft.go:185", after := #[{ on := 10, ground := Ground.data }], guard := none }) (v := .pointer (some ⟨bc, n * 5, none⟩)) rfl (by kernel_rfl) (by kernel_rfl) (by kernel_rfl) (by kernel_rfl) (fun _ _ _ h => h) (Or.inl ⟨by kernel_rfl, fun W h => (by first | kernel_rfl | go_simp)⟩) hS ?_
    try simp only [Act.put, List.setIfInBounds_toArray, List.set_cons_zero, List.set_cons_succ]
    refine wpAnyF_take (i := 12) (oi := { dst := some 47, op := Op.fieldAddr 34 (Operand.tmp 46) 1, type := 0, pos := "soft.go:185", after := #[{ on := 11, ground := Ground.data }], guard := none }) (v := .pointer (some ⟨bc, n * 5 + 1, none⟩)) rfl (by kernel_rfl) (by kernel_rfl) (by kernel_rfl) (by kernel_rfl) (fun _ _ _ h => h) (Or.inl ⟨by kernel_rfl, fun W h => (by first | kernel_rfl | go_simp)⟩) hS ?_
    try simp only [Act.put, List.setIfInBounds_toArray, List.set_cons_zero, List.set_cons_succ]
    refine wpAnyF_take (i := 13) (oi := { dst := some 48, op := Op.load 3 (Operand.tmp 47), type := 3, pos := "soft.go:185", after := #[{ on := 12, ground := Ground.data }], guard := none }) (v := .int .i64 (m.stamp n)) rfl (by kernel_rfl) (by kernel_rfl) (by kernel_rfl) (by kernel_rfl) (fun _ _ _ h => h) (Or.inl ⟨by kernel_rfl, fun W h => Op1.ld_int (.tmp 47) (by kernel_rfl) (by kernel_rfl) W (by have := h.2.stamp n hn; rw [Nat.zero_add] at this; exact this)⟩) hS ?_
    try simp only [Act.put, List.setIfInBounds_toArray, List.set_cons_zero, List.set_cons_succ]
    refine wpAnyF_take (i := 14) (oi := { dst := some 49, op := Op.move (Operand.tmp 3), type := 9, pos := "soft.go:185", after := #[], guard := none }) (v := .string text) rfl (by kernel_rfl) (by kernel_rfl) (by kernel_rfl) (by kernel_rfl) (fun _ _ _ h => h) (Or.inl ⟨by kernel_rfl, fun W h => (by first | kernel_rfl | go_simp)⟩) hS ?_
    try simp only [Act.put, List.setIfInBounds_toArray, List.set_cons_zero, List.set_cons_succ]
    refine wpAnyF_take (i := 15) (oi := { dst := some 50, op := Op.build 41 #[(0, Operand.tmp 48), (1, Operand.tmp 49)], type := 41, pos := "soft.go:185", after := #[{ on := 13, ground := Ground.data }, { on := 14, ground := Ground.data }], guard := none }) (v := .agg #[.int .i64 (m.stamp n), .string text]) rfl (by kernel_rfl) (by kernel_rfl) (by kernel_rfl) (by kernel_rfl) (fun _ _ _ h => h) (Or.inl ⟨by kernel_rfl, fun W h => (by first | kernel_rfl | go_simp)⟩) hS ?_
    try simp only [Act.put, List.setIfInBounds_toArray, List.set_cons_zero, List.set_cons_succ]
    refine wpAnyF_free (i := 16) (oi := { dst := some 51, op := Op.nilCheck (Operand.tmp 38), type := 0, pos := "soft.go:185", after := #[{ on := 3, ground := Ground.data }], guard := none }) (v := .pointer (some ⟨bc, 0, none⟩)) rfl (by kernel_rfl) (by kernel_rfl) (by kernel_rfl) (by kernel_rfl) (fun _ _ _ h => h) (Or.inl ⟨by kernel_rfl, fun W _ => (by first | kernel_rfl | go_simp)⟩) hS ?_
    try simp only [Act.put, List.setIfInBounds_toArray, List.set_cons_zero, List.set_cons_succ]
    refine wpAnyF_free (i := 17) (oi := { dst := some 52, op := Op.fieldAddr 57 (Operand.tmp 51) 0, type := 0, pos := "soft.go:185", after := #[{ on := 16, ground := Ground.data }], guard := none }) (v := .pointer (some ⟨bc, 0, none⟩)) rfl (by kernel_rfl) (by kernel_rfl) (by kernel_rfl) (by kernel_rfl) (fun _ _ _ h => h) (Or.inl ⟨by kernel_rfl, fun W _ => (by first | kernel_rfl | go_simp)⟩) hS ?_
    try simp only [Act.put, List.setIfInBounds_toArray, List.set_cons_zero, List.set_cons_succ]
    refine wpAnyF_free (i := 18) (oi := { dst := some 53, op := Op.fieldAddr 44 (Operand.tmp 52) 2, type := 0, pos := "soft.go:185", after := #[{ on := 17, ground := Ground.data }], guard := none }) (v := .pointer (some ⟨bc, 76, none⟩)) rfl (by kernel_rfl) (by kernel_rfl) (by kernel_rfl) (by kernel_rfl) (fun _ _ _ h => h) (Or.inl ⟨by kernel_rfl, fun W _ => (by first | kernel_rfl | go_simp)⟩) hS ?_
    try simp only [Act.put, List.setIfInBounds_toArray, List.set_cons_zero, List.set_cons_succ]
    refine wpAnyF_take (i := 19) (oi := { dst := some 54, op := Op.indexAddr 42 (Operand.tmp 53) (Operand.tmp 44), type := 0, pos := "soft.go:185", after := #[{ on := 18, ground := Ground.data }, { on := 9, ground := Ground.data }, { on := 0, ground := Ground.phase }, { on := 1, ground := Ground.phase }, { on := 2, ground := Ground.phase }, { on := 3, ground := Ground.phase }, { on := 4, ground := Ground.phase }, { on := 5, ground := Ground.phase }, { on := 6, ground := Ground.phase }, { on := 7, ground := Ground.phase }, { on := 8, ground := Ground.phase }, { on := 9, ground := Ground.phase }, { on := 10, ground := Ground.phase }, { on := 11, ground := Ground.phase }, { on := 12, ground := Ground.phase }, { on := 13, ground := Ground.phase }, { on := 14, ground := Ground.phase }, { on := 15, ground := Ground.phase }], guard := none }) (v := .pointer (some ⟨bc, 76 + x * 2, none⟩)) rfl (by kernel_rfl) (by kernel_rfl) (by kernel_rfl) (by kernel_rfl) (fun _ _ _ h => h) (Or.inl ⟨by kernel_rfl, fun W h => Op1.ix_data (.tmp 53) (.tmp 44) (by kernel_rfl) (by kernel_rfl) (by kernel_rfl) (hx) W⟩) hS ?_
    try simp only [Act.put, List.setIfInBounds_toArray, List.set_cons_zero, List.set_cons_succ]
    generalize World.drew _ = W8 at hS FM1 ⊢
    refine wpAnyF_last (o := { dst := none, op := Op.store 41 (Operand.tmp 54) (Operand.tmp 50), type := 0, pos := "soft.go:185", after := #[{ on := 19, ground := Ground.data }, { on := 15, ground := Ground.data }, { on := 0, ground := Ground.phase }, { on := 1, ground := Ground.phase }, { on := 2, ground := Ground.phase }, { on := 3, ground := Ground.phase }, { on := 4, ground := Ground.phase }, { on := 5, ground := Ground.phase }, { on := 6, ground := Ground.phase }, { on := 7, ground := Ground.phase }, { on := 8, ground := Ground.phase }, { on := 9, ground := Ground.phase }, { on := 10, ground := Ground.phase }, { on := 11, ground := Ground.phase }, { on := 12, ground := Ground.phase }, { on := 13, ground := Ground.phase }, { on := 14, ground := Ground.phase }, { on := 15, ground := Ground.phase }], guard := none }) (by kernel_rfl) rfl (by kernel_rfl) (by kernel_rfl) (fun K hK => ?_)
    refine Op1.st_part (cells := #[.int .i64 (m.stamp n), .string text]) (o0 := 76 + x * 2) 41 (.tmp 54) (.tmp 50) (by kernel_rfl) rfl (by kernel_rfl) (by kernel_rfl) (unhide FM1).row sz_dat (by have := (unhide HM).size; simp; omega) (by simp [Value.oneCell']) ?_
    refine hK.out _ _ ?_
    clear hK K
    try simp only [Act.put, List.setIfInBounds_toArray, List.set_cons_zero, List.set_cons_succ]
    refine wpAnyF_done (by kernel_rfl) ?_ _
    have DONE := hide (Fd.dat (unhide FM1) (unhide HM) hx (m.stamp n) text ht)
    clear hS
    go_wp2_with fail
    go_end0
    exact ⟨rfl, by rw [unhide FIN]; exact unhide DONE⟩
end
end Go.Proofs.YtmbpckmpnnmnmacGreat
namespace Go.Proofs.YtmbpckmpnnmnmacGreat
open Go.RowKit
open Idl (Stp chk stpA)
theorem scode_zero {m k : Img} {x : Stp} (h : Img.scode m k x = 0) : Img.scheck m x = 0 ∧ Img.sfull m k x = false := by
  have h0 : Img.scheck m x = 0 := by
    unfold Img.scode at h
    by_cases e : Img.scheck m x = 0
    · exact e
    · rw [if_pos e] at h; exact absurd h e
  refine ⟨h0, ?_⟩
  unfold Img.scode at h
  rw [if_neg (by rw [h0]; simp)] at h
  cases e : Img.sfull m k x
  · rfl
  · rw [e] at h; simp at h
section
variable {w w0 w1 : World} {bf bc : Nat} {cs ds rows : Array Value} {m k : Img} {last : Int}
theorem links_few {m : Img} (hx : Img.Ex m) {n : Nat} (hn : n < 8) (hl : m.live n = true) : 1 ≤ m.links n ∧ m.links n ≤ 12 := by
  have h := hx.links n hn hl
  have := Img.refs_le m (n : Int)
  omega
theorem full_five {m k : Img} {x : Stp} (hm : m.check = 0) (h : Img.scode m k x = 0) : x.kind = 5 → ∃ n q : Nat, n < 8 ∧ q < 2 ∧ Img.inoOf m x.dir x.name = (n : Int) ∧ x.p = (q : Int) := fun h5 => by
  have t := Img.take h
  obtain ⟨j, n, hT⟩ := Img.there hm (t.old (by omega))
  obtain ⟨p0, p2⟩ := t.part (.inl h5)
  obtain ⟨q, hq⟩ := Int.eq_ofNat_of_zero_le p0
  exact ⟨n, q, hT.n8, by omega, hT.of, hq⟩
theorem five_of_check {m : Img} {x : Stp} (hm : m.check = 0) (h : Img.scheck m x = 0) : x.kind = 5 → ∃ n q : Nat, n < 8 ∧ q < 2 ∧ Img.inoOf m x.dir x.name = (n : Int) ∧ x.p = (q : Int) := fun h5 => by
  have hc : chk x = 0 := by
    unfold Img.scheck at h
    by_cases e : chk x = 0
    · exact e
    · rw [if_pos e] at h; exact absurd h e
  obtain ⟨_, _, _, _, _, a6⟩ := Img.chk_names hc
  have ho : 0 ≤ Img.inoOf m x.dir x.name := by
    unfold Img.scheck at h
    rw [if_neg (by rw [hc]; simp), if_neg (by omega)] at h
    by_cases z : Img.inoOf m x.dir x.name < 0
    · rw [if_pos z] at h; simp at h
    · omega
  obtain ⟨j, n, hT⟩ := Img.there hm ho
  obtain ⟨p0, p2⟩ := a6 (.inl h5)
  obtain ⟨q, hq⟩ := Int.eq_ofNat_of_zero_le p0
  exact ⟨n, q, hT.n8, by omega, hT.of, hq⟩
/-- the boxed step is there still -/
theorem Fd.cell {w0 w : World} {ds : Array Value} {m : Img} {last : Int} (h : Fd w0 w bf bc ds m last) {g j : Nat} (hg : g < w0.heap.size) (h1 : g ≠ bf) (h2 : g ≠ bc) : w.cell? ⟨g, j, none⟩ = w0.cell? ⟨g, j, none⟩ := by
  obtain ⟨_, hm, _⟩ := h
  exact World.cell?_of_block (hm.chg.block g hg (fun z => by rcases z with z | z; exact h1 z; exact h2 z))
theorem Fl.after (h : Fl w bf bc cs ds m k last) {W W' : World} (hb : Below w.heap.size w W) {m' : Img} {l' : Int} (hd : Fd W W' bf bc ds m' l') : Fd w W' bf bc ds m' l' := (h.fd.call hb).trans hd
set_option maxHeartbeats 2000000 in
set_option maxRecDepth 100000 in
theorem sDo_code (h : Fl w bf bc cs ds m k last) (hG : Img.Good m last) (hla : last < 4611686018427387904) (x : Stp) (hn : x.name.size ≤ maxLen) (ht : x.to.size ≤ maxLen) (hx : x.text.size ≤ maxLen) (hc : Img.scode m k x ≠ 0) :
    Calls Tryz.prog 40 #[.pointer (some ⟨bf, 0, none⟩), .agg (stpA x)] w fun e w' => e = .returned (.int .i64 (Img.scode m k x)) ∧ Below w.heap.size w w' := by
  have BEL := hide (show Below w.heap.size w (w.alloc (.cells (stpA x) 31)) from (Below.refl _ w).alloc (Nat.le_refl _) _)
  have C1 := hide (scheck_any (h.below (unhide BEL)) x hn ht hx)
  have HC := hide fun W bW => stp_box w x W bW
  by_cases hk : Img.scheck m x = 0
  · have C2 := hide fun W (bW : Below w.heap.size w W) => sfull_any (h.below bW) hla x (five_of_check hG.ex.ok hk)
    have hf : Img.sfull m k x = true := by
      unfold Img.scode at hc
      rw [if_neg (by rw [hk]; simp)] at hc
      cases e : Img.sfull m k x
      · rw [e] at hc; simp at hc
      · rfl
    have e6 : Img.scode m k x = 6 := by unfold Img.scode; rw [if_neg (by rw [hk]; simp), if_pos hf]
    rw [e6]
    rw [hk] at C1
    rw [hf] at C2
    clear h hG hc hk hf e6
    obtain ⟨kind, dir, toDir, p, name, tu, text⟩ := x
    go_enter Tryz.func40, Tryz.ntmps40
    go_wp2_with fail
    refine (unhide C1).mono ?_
    rintro e w1 ⟨rfl, b1⟩
    have B1 := hide ((unhide BEL).trans (b1.mono (by simp)))
    have d0 := unhide HC w1 b1 0 _ rfl
    have d1 := unhide HC w1 b1 1 _ rfl
    have d2 := unhide HC w1 b1 2 _ rfl
    have d3 := unhide HC w1 b1 3 _ rfl
    have d4 := unhide HC w1 b1 4 _ rfl
    have d5 := unhide HC w1 b1 5 _ rfl
    have d6 := unhide HC w1 b1 6 _ rfl
    clear b1
    go_wp2_with fail
    refine (unhide C2 w1 (unhide B1)).mono ?_
    rintro e w2 ⟨rfl, b2⟩
    have B2 := hide ((unhide B1).trans (b2.mono (unhide B1).size))
    clear b2
    go_wp2_with fail
    go_ret
    exact ⟨rfl, unhide B2⟩
  · have e1 : Img.scode m k x = Img.scheck m x := by unfold Img.scode; rw [if_pos hk]
    rw [e1]
    generalize Img.scheck m x = ck at C1 hk
    have u1 : (ck != 0) = true := by simpa using hk
    clear h hG hc e1 HC
    obtain ⟨kind, dir, toDir, p, name, tu, text⟩ := x
    go_enter Tryz.func40, Tryz.ntmps40
    go_wp2_with fail
    refine (unhide C1).mono ?_
    rintro e w1 ⟨rfl, b1⟩
    have B1 := hide ((unhide BEL).trans (b1.mono (by simp)))
    clear b1
    go_wp2_with fail
    go_ret
    exact ⟨rfl, unhide B1⟩
set_option maxHeartbeats 2000000 in
set_option maxRecDepth 100000 in
theorem sDo_make (h : Fl w bf bc cs ds m k last) (hG : Img.Good m last) (hla : last < 4611686018427387904) (dir toDir p : Int) (name tu text : ByteArray) (hn : name.size ≤ maxLen) (ht : tu.size ≤ maxLen) (hx : text.size ≤ maxLen) (hc : Img.scode m k ⟨1, dir, toDir, p, name, tu, text⟩ = 0) :
    Calls Tryz.prog 40 #[.pointer (some ⟨bf, 0, none⟩), .agg (stpA ⟨1, dir, toDir, p, name, tu, text⟩)] w fun e w' => e = .returned (.int .i64 0) ∧ Fd w w' bf bc ds (Img.sstep m k last ⟨1, dir, toDir, p, name, tu, text⟩) (Img.slast m k last ⟨1, dir, toDir, p, name, tu, text⟩) := by
  have BEL := hide (show Below w.heap.size w (w.alloc (.cells (stpA ⟨1, dir, toDir, p, name, tu, text⟩) 31)) from (Below.refl _ w).alloc (Nat.le_refl _) _)
  have C1 := hide (scheck_any (h.below (unhide BEL)) ⟨1, dir, toDir, p, name, tu, text⟩ hn ht hx)
  have HC := hide fun W bW => stp_box w ⟨1, dir, toDir, p, name, tu, text⟩ W bW
  have C2 := hide fun W (bW : Below w.heap.size w W) => sfull_any (h.below bW) hla ⟨1, dir, toDir, p, name, tu, text⟩ (full_five hG.ex.ok hc)
  rw [(scode_zero hc).1] at C1
  rw [(scode_zero hc).2] at C2
  have HF := hide h
  have tk := Img.take hc
  have hst : Img.sstep m k last ⟨1, dir, toDir, p, name, tu, text⟩ = Img.added (Img.started m k last) k dir name (Img.freeIno m k).toNat := by
    rcases Img.sstep_cases (last := last) hc with ⟨z, e⟩ | ⟨z, e⟩ | ⟨z, e⟩ | ⟨z, e⟩ | ⟨z, e⟩ | ⟨z, e⟩
    all_goals first | exact e | (exfalso; revert z; decide) | (simp at z)
  have hsl : Img.slast m k last ⟨1, dir, toDir, p, name, tu, text⟩ = last + 1 := by unfold Img.slast; first | rw [if_pos ⟨hc, rfl⟩] | rw [if_neg (fun z => by have := z.2; simp at this)]
  rw [hst, hsl]
  obtain ⟨n, s, hC⟩ := Img.comes hG hc rfl
  have d0' : 0 ≤ dir := tk.dir.1
  have d3' : dir < 3 := tk.dir.2
  obtain ⟨dd, rfl⟩ := Int.eq_ofNat_of_zero_le d0'
  have hdd : dd < 3 := by omega
  rw [hC.ino, Int.toNat_natCast]
  have hn8 := hC.n8
  have hs4 := hC.slot.s4
  have HS1 := hide hC.slot'.eq
  have C3 := hide fun W (bW : Below w.heap.size w W) => sstart_any (h.below bW) hC.n8 hC.ino hG.lo hla
  have HL1 := hide (show 0 ≤ (Img.started m k last).links n ∧ (Img.started m k last).links n ≤ 100 by unfold Img.started; rw [hC.ino, Int.toNat_natCast, Img.putIno_links, if_pos rfl]; simp)
  have HK := hide h.disk
  generalize Img.started m k last = m1 at C3 HL1 HS1 ⊢
  clear h hc tk hst hsl hG hC d0' d3'
  go_enter Tryz.func40, Tryz.ntmps40
  go_wp2_with fail
  refine (unhide C1).mono ?_
  rintro e w1 ⟨rfl, b1⟩
  have A1 := hide b1
  have B1 := hide ((unhide BEL).trans (b1.mono (by simp)))
  have d0 := unhide HC w1 b1 0 _ rfl
  have d1 := unhide HC w1 b1 1 _ rfl
  have d2 := unhide HC w1 b1 2 _ rfl
  have d3 := unhide HC w1 b1 3 _ rfl
  have d4 := unhide HC w1 b1 4 _ rfl
  have d5 := unhide HC w1 b1 5 _ rfl
  have d6 := unhide HC w1 b1 6 _ rfl
  clear b1
  go_wp2_with fail
  refine (unhide C2 w1 (unhide B1)).mono ?_
  rintro e w2 ⟨rfl, b2⟩
  clear d0 d1 d2 d3 d4 d5 d6
  have B2 := hide ((unhide B1).trans (b2.mono (unhide B1).size))
  have A2 := hide ((unhide A1).trans (b2.mono (unhide A1).size))
  have d0 := unhide HC w2 (unhide A2) 0 _ rfl
  have d1 := unhide HC w2 (unhide A2) 1 _ rfl
  have d2 := unhide HC w2 (unhide A2) 2 _ rfl
  have d3 := unhide HC w2 (unhide A2) 3 _ rfl
  have d4 := unhide HC w2 (unhide A2) 4 _ rfl
  have d5 := unhide HC w2 (unhide A2) 5 _ rfl
  have d6 := unhide HC w2 (unhide A2) 6 _ rfl
  clear b2 A1 B1 C1 C2
  have AD := hide ((unhide A2).drew)
  have BD := hide ((unhide B2).drew)
  have NE := hide (And.intro (Nat.ne_of_gt (unhide HF).flt) (Nat.ne_of_gt (unhide HF).clt))
  have XLT := hide (show w.heap.size < w2.drew.heap.size from Nat.lt_of_lt_of_le (by simp) (unhide AD).size)
  go_wp2_with fail
  refine wp_region_held_drew (S := fun W => ∀ (j : Nat) (u : Value), (stpA ⟨1, (dd : Int), toDir, p, name, tu, text⟩)[j]? = some u → W.cell? ⟨w.heap.size, j, none⟩ = some u) (by kernel_rfl) (unhide HC _ (unhide AD)) (fun hS => ?_)
  refine wpAnyH_take (i := 0) (oi := { dst := some 19, op := Op.move (Operand.tmp 0), type := 46, pos := "soft.go:46", after := #[], guard := none }) (v := .pointer (some ⟨bf, 0, none⟩)) rfl (by kernel_rfl) (by kernel_rfl) (by kernel_rfl) (fun _ _ _ h => h) (Or.inl ⟨by kernel_rfl, fun W h => (by first | kernel_rfl | go_simp)⟩) hS ?_
  try simp only [Act.put, List.setIfInBounds_toArray, List.set_cons_zero, List.set_cons_succ]
  refine wpAnyH_take (i := 1) (oi := { dst := some 20, op := Op.fieldAddr 31 (Operand.tmp 3) 1, type := 0, pos := "soft.go:46", after := #[], guard := none }) (v := .pointer (some ⟨w.heap.size, 1, none⟩)) rfl (by kernel_rfl) (by kernel_rfl) (by kernel_rfl) (fun _ _ _ h => h) (Or.inl ⟨by kernel_rfl, fun W h => (by first | kernel_rfl | go_simp)⟩) hS ?_
  try simp only [Act.put, List.setIfInBounds_toArray, List.set_cons_zero, List.set_cons_succ]
  refine wpAnyH_take (i := 2) (oi := { dst := some 21, op := Op.load 3 (Operand.tmp 20), type := 3, pos := "soft.go:46", after := #[{ on := 1, ground := Ground.data }], guard := none }) (v := .int .i64 (dd : Int)) rfl (by kernel_rfl) (by kernel_rfl) (by kernel_rfl) (fun _ _ _ h => h) (Or.inl ⟨by kernel_rfl, fun W h => Op1.ld_int (.tmp 20) (by kernel_rfl) (by kernel_rfl) W (h 1 _ rfl)⟩) hS ?_
  try simp only [Act.put, List.setIfInBounds_toArray, List.set_cons_zero, List.set_cons_succ]
  refine wpAnyH_take (i := 3) (oi := { dst := some 22, op := Op.fieldAddr 31 (Operand.tmp 3) 4, type := 0, pos := "soft.go:46", after := #[], guard := none }) (v := .pointer (some ⟨w.heap.size, 4, none⟩)) rfl (by kernel_rfl) (by kernel_rfl) (by kernel_rfl) (fun _ _ _ h => h) (Or.inl ⟨by kernel_rfl, fun W h => (by first | kernel_rfl | go_simp)⟩) hS ?_
  try simp only [Act.put, List.setIfInBounds_toArray, List.set_cons_zero, List.set_cons_succ]
  refine wpAnyH_take (i := 4) (oi := { dst := some 23, op := Op.load 9 (Operand.tmp 22), type := 9, pos := "soft.go:46", after := #[{ on := 3, ground := Ground.data }], guard := none }) (v := .string name) rfl (by kernel_rfl) (by kernel_rfl) (by kernel_rfl) (fun _ _ _ h => h) (Or.inl ⟨by kernel_rfl, fun W h => Op1.ld_str (.tmp 22) (by kernel_rfl) (by kernel_rfl) W (h 4 _ rfl)⟩) hS ?_
  try simp only [Act.put, List.setIfInBounds_toArray, List.set_cons_zero, List.set_cons_succ]
  refine wpAnyH_take (i := 5) (oi := { dst := some 24, op := Op.move (Operand.tmp 0), type := 46, pos := "soft.go:46", after := #[], guard := none }) (v := .pointer (some ⟨bf, 0, none⟩)) rfl (by kernel_rfl) (by kernel_rfl) (by kernel_rfl) (fun _ _ _ h => h) (Or.inl ⟨by kernel_rfl, fun W h => (by first | kernel_rfl | go_simp)⟩) hS ?_
  try simp only [Act.put, List.setIfInBounds_toArray, List.set_cons_zero, List.set_cons_succ]
  generalize World.drew _ = W0 at hS BD XLT ⊢
  refine wpAnyH_ready (rs := [6]) (by kernel_rfl) (by simp) ?_
  refine AllReadyH.cons (o := { dst := some 25, op := Op.call { callee := Callee.value (Operand.func 67), args := #[Operand.tmp 24], argTypes := #[46] }, type := 3, pos := "soft.go:46", after := #[{ on := 5, ground := Ground.data }], guard := none }) rfl (fun K hK => ?_) AllReadyH.nil
  rw [if_pos (by kernel_rfl)]
  go_simp
  refine (unhide C3 W0 (unhide BD)).mono ?_
  rintro e w3 ⟨rfl, f3⟩
  have F3 := hide f3
  obtain ⟨cs3, h3⟩ := f3.fl (unhide HK)
  have C4 := hide (sadd_any h3 hdd hn8 hs4 (unhide HS1) name hn (unhide HL1))
  have XL3 := hide (show w.heap.size < w3.heap.size from by obtain ⟨_, z, _⟩ := f3; exact Nat.lt_of_lt_of_le (unhide XLT) z.size)
  clear f3 h3
  go_wp2_with fail
  refine hK.out _ _ (fun j u hj => ((unhide F3).cell (unhide XLT) (unhide NE).1 (unhide NE).2).trans (hS j u hj)) (fun hS1 => ?_)
  clear hK K
  try simp only [Act.put, List.setIfInBounds_toArray, List.set_cons_zero, List.set_cons_succ]
  refine wpAnyH_ready (rs := [7]) (by kernel_rfl) (by simp) ?_
  refine AllReadyH.cons (o := { dst := some 26, op := Op.call { callee := Callee.value (Operand.func 66), args := #[Operand.tmp 19, Operand.tmp 21, Operand.tmp 23, Operand.tmp 25], argTypes := #[46, 3, 9, 3] }, type := 0, pos := "soft.go:46", after := #[{ on := 0, ground := Ground.data }, { on := 2, ground := Ground.data }, { on := 4, ground := Ground.data }, { on := 6, ground := Ground.data }, { on := 6, ground := Ground.chain }], guard := none }) rfl (fun K hK => ?_) AllReadyH.nil
  rw [if_pos (by kernel_rfl)]
  go_simp
  refine (unhide C4).mono ?_
  rintro e w4 ⟨rfl, f4⟩
  have F4 := hide ((unhide HF).after (unhide BD) ((unhide F3).trans f4))
  have F5 := hide f4
  clear f4
  go_wp2_with fail
  refine hK.out _ _ (fun j u hj => ((unhide F5).cell (unhide XL3) (unhide NE).1 (unhide NE).2).trans (hS1 j u hj)) (fun hS2 => ?_)
  clear hK K
  try simp only [Act.put, List.setIfInBounds_toArray, List.set_cons_zero, List.set_cons_succ]
  refine wpAnyH_done (by kernel_rfl) ?_ _
  clear hS hS1 hS2 F3 F5 C4
  clear d0 d1 d2 d3 d4 d5 d6
  go_wp2_with fail
  go_ret
  exact ⟨rfl, unhide F4⟩
set_option maxHeartbeats 2000000 in
set_option maxRecDepth 100000 in
theorem sDo_link (h : Fl w bf bc cs ds m k last) (hG : Img.Good m last) (hla : last < 4611686018427387904) (dir toDir p : Int) (name tu text : ByteArray) (hn : name.size ≤ maxLen) (ht : tu.size ≤ maxLen) (hx : text.size ≤ maxLen) (hc : Img.scode m k ⟨2, dir, toDir, p, name, tu, text⟩ = 0) :
    Calls Tryz.prog 40 #[.pointer (some ⟨bf, 0, none⟩), .agg (stpA ⟨2, dir, toDir, p, name, tu, text⟩)] w fun e w' => e = .returned (.int .i64 0) ∧ Fd w w' bf bc ds (Img.sstep m k last ⟨2, dir, toDir, p, name, tu, text⟩) (Img.slast m k last ⟨2, dir, toDir, p, name, tu, text⟩) := by
  have BEL := hide (show Below w.heap.size w (w.alloc (.cells (stpA ⟨2, dir, toDir, p, name, tu, text⟩) 31)) from (Below.refl _ w).alloc (Nat.le_refl _) _)
  have C1 := hide (scheck_any (h.below (unhide BEL)) ⟨2, dir, toDir, p, name, tu, text⟩ hn ht hx)
  have HC := hide fun W bW => stp_box w ⟨2, dir, toDir, p, name, tu, text⟩ W bW
  have C2 := hide fun W (bW : Below w.heap.size w W) => sfull_any (h.below bW) hla ⟨2, dir, toDir, p, name, tu, text⟩ (full_five hG.ex.ok hc)
  rw [(scode_zero hc).1] at C1
  rw [(scode_zero hc).2] at C2
  have HF := hide h
  have tk := Img.take hc
  have hst : Img.sstep m k last ⟨2, dir, toDir, p, name, tu, text⟩ = Img.added m k toDir tu (Img.inoOf m dir name).toNat := by
    rcases Img.sstep_cases (last := last) hc with ⟨z, e⟩ | ⟨z, e⟩ | ⟨z, e⟩ | ⟨z, e⟩ | ⟨z, e⟩ | ⟨z, e⟩
    all_goals first | exact e | (exfalso; revert z; decide) | (simp at z)
  have hsl : Img.slast m k last ⟨2, dir, toDir, p, name, tu, text⟩ = last := by unfold Img.slast; first | rw [if_pos ⟨hc, rfl⟩] | rw [if_neg (fun z => by have := z.2; simp at this)]
  rw [hst, hsl]
  obtain ⟨j, n, s, hT, hS, hX⟩ := Img.linked hG hc (.inl rfl)
  have t0 : 0 ≤ toDir := (tk.to (.inl rfl)).1.1
  have t3 : toDir < 3 := (tk.to (.inl rfl)).1.2
  obtain ⟨dd, rfl⟩ := Int.eq_ofNat_of_zero_le t0
  have hdd : dd < 3 := by omega
  rw [show (Img.inoOf m dir name).toNat = n by rw [show Img.inoOf m dir name = (n : Int) from hT.of]; rfl]
  have hn8 := hT.n8
  have hs4 := hS.s4
  have C3 := hide fun W (bW : Below w.heap.size w W) => sfind_any (h.below bW) dir name
  rw [show Img.inoOf m dir name = (n : Int) from hT.of] at C3
  have C4 := hide fun W (bW : Below w.heap.size w W) => sadd_any (h.below bW) hdd hT.n8 hS.s4 hS.eq tu ht (by have := links_few hG.ex hT.n8 hT.live; omega)
  clear h hc tk hst hsl hG hT hS hX t0 t3
  go_enter Tryz.func40, Tryz.ntmps40
  go_wp2_with fail
  refine (unhide C1).mono ?_
  rintro e w1 ⟨rfl, b1⟩
  have A1 := hide b1
  have B1 := hide ((unhide BEL).trans (b1.mono (by simp)))
  have d0 := unhide HC w1 b1 0 _ rfl
  have d1 := unhide HC w1 b1 1 _ rfl
  have d2 := unhide HC w1 b1 2 _ rfl
  have d3 := unhide HC w1 b1 3 _ rfl
  have d4 := unhide HC w1 b1 4 _ rfl
  have d5 := unhide HC w1 b1 5 _ rfl
  have d6 := unhide HC w1 b1 6 _ rfl
  clear b1
  go_wp2_with fail
  refine (unhide C2 w1 (unhide B1)).mono ?_
  rintro e w2 ⟨rfl, b2⟩
  clear d0 d1 d2 d3 d4 d5 d6
  have B2 := hide ((unhide B1).trans (b2.mono (unhide B1).size))
  have A2 := hide ((unhide A1).trans (b2.mono (unhide A1).size))
  have d0 := unhide HC w2 (unhide A2) 0 _ rfl
  have d1 := unhide HC w2 (unhide A2) 1 _ rfl
  have d2 := unhide HC w2 (unhide A2) 2 _ rfl
  have d3 := unhide HC w2 (unhide A2) 3 _ rfl
  have d4 := unhide HC w2 (unhide A2) 4 _ rfl
  have d5 := unhide HC w2 (unhide A2) 5 _ rfl
  have d6 := unhide HC w2 (unhide A2) 6 _ rfl
  clear b2 A1 B1 C1 C2
  have AD := hide ((unhide A2).drew)
  have BD := hide ((unhide B2).drew)
  have NE := hide (And.intro (Nat.ne_of_gt (unhide HF).flt) (Nat.ne_of_gt (unhide HF).clt))
  have XLT := hide (show w.heap.size < w2.drew.heap.size from Nat.lt_of_lt_of_le (by simp) (unhide AD).size)
  go_wp2_with fail
  refine wp_region_held_drew (S := fun W => ∀ (j : Nat) (u : Value), (stpA ⟨2, dir, (dd : Int), p, name, tu, text⟩)[j]? = some u → W.cell? ⟨w.heap.size, j, none⟩ = some u) (by kernel_rfl) (unhide HC _ (unhide AD)) (fun hS => ?_)
  refine wpAnyH_take (i := 0) (oi := { dst := some 29, op := Op.move (Operand.tmp 0), type := 46, pos := "soft.go:48", after := #[], guard := none }) (v := .pointer (some ⟨bf, 0, none⟩)) rfl (by kernel_rfl) (by kernel_rfl) (by kernel_rfl) (fun _ _ _ h => h) (Or.inl ⟨by kernel_rfl, fun W h => (by first | kernel_rfl | go_simp)⟩) hS ?_
  try simp only [Act.put, List.setIfInBounds_toArray, List.set_cons_zero, List.set_cons_succ]
  refine wpAnyH_take (i := 1) (oi := { dst := some 30, op := Op.fieldAddr 31 (Operand.tmp 3) 2, type := 0, pos := "soft.go:48", after := #[], guard := none }) (v := .pointer (some ⟨w.heap.size, 2, none⟩)) rfl (by kernel_rfl) (by kernel_rfl) (by kernel_rfl) (fun _ _ _ h => h) (Or.inl ⟨by kernel_rfl, fun W h => (by first | kernel_rfl | go_simp)⟩) hS ?_
  try simp only [Act.put, List.setIfInBounds_toArray, List.set_cons_zero, List.set_cons_succ]
  refine wpAnyH_take (i := 2) (oi := { dst := some 31, op := Op.load 3 (Operand.tmp 30), type := 3, pos := "soft.go:48", after := #[{ on := 1, ground := Ground.data }], guard := none }) (v := .int .i64 (dd : Int)) rfl (by kernel_rfl) (by kernel_rfl) (by kernel_rfl) (fun _ _ _ h => h) (Or.inl ⟨by kernel_rfl, fun W h => Op1.ld_int (.tmp 30) (by kernel_rfl) (by kernel_rfl) W (h 2 _ rfl)⟩) hS ?_
  try simp only [Act.put, List.setIfInBounds_toArray, List.set_cons_zero, List.set_cons_succ]
  refine wpAnyH_take (i := 3) (oi := { dst := some 32, op := Op.fieldAddr 31 (Operand.tmp 3) 5, type := 0, pos := "soft.go:48", after := #[], guard := none }) (v := .pointer (some ⟨w.heap.size, 5, none⟩)) rfl (by kernel_rfl) (by kernel_rfl) (by kernel_rfl) (fun _ _ _ h => h) (Or.inl ⟨by kernel_rfl, fun W h => (by first | kernel_rfl | go_simp)⟩) hS ?_
  try simp only [Act.put, List.setIfInBounds_toArray, List.set_cons_zero, List.set_cons_succ]
  refine wpAnyH_take (i := 4) (oi := { dst := some 33, op := Op.load 9 (Operand.tmp 32), type := 9, pos := "soft.go:48", after := #[{ on := 3, ground := Ground.data }], guard := none }) (v := .string tu) rfl (by kernel_rfl) (by kernel_rfl) (by kernel_rfl) (fun _ _ _ h => h) (Or.inl ⟨by kernel_rfl, fun W h => Op1.ld_str (.tmp 32) (by kernel_rfl) (by kernel_rfl) W (h 5 _ rfl)⟩) hS ?_
  try simp only [Act.put, List.setIfInBounds_toArray, List.set_cons_zero, List.set_cons_succ]
  refine wpAnyH_take (i := 5) (oi := { dst := some 34, op := Op.move (Operand.tmp 0), type := 46, pos := "soft.go:48", after := #[], guard := none }) (v := .pointer (some ⟨bf, 0, none⟩)) rfl (by kernel_rfl) (by kernel_rfl) (by kernel_rfl) (fun _ _ _ h => h) (Or.inl ⟨by kernel_rfl, fun W h => (by first | kernel_rfl | go_simp)⟩) hS ?_
  try simp only [Act.put, List.setIfInBounds_toArray, List.set_cons_zero, List.set_cons_succ]
  refine wpAnyH_take (i := 6) (oi := { dst := some 35, op := Op.fieldAddr 31 (Operand.tmp 3) 1, type := 0, pos := "soft.go:48", after := #[], guard := none }) (v := .pointer (some ⟨w.heap.size, 1, none⟩)) rfl (by kernel_rfl) (by kernel_rfl) (by kernel_rfl) (fun _ _ _ h => h) (Or.inl ⟨by kernel_rfl, fun W h => (by first | kernel_rfl | go_simp)⟩) hS ?_
  try simp only [Act.put, List.setIfInBounds_toArray, List.set_cons_zero, List.set_cons_succ]
  refine wpAnyH_take (i := 7) (oi := { dst := some 36, op := Op.load 3 (Operand.tmp 35), type := 3, pos := "soft.go:48", after := #[{ on := 6, ground := Ground.data }], guard := none }) (v := .int .i64 dir) rfl (by kernel_rfl) (by kernel_rfl) (by kernel_rfl) (fun _ _ _ h => h) (Or.inl ⟨by kernel_rfl, fun W h => Op1.ld_int (.tmp 35) (by kernel_rfl) (by kernel_rfl) W (h 1 _ rfl)⟩) hS ?_
  try simp only [Act.put, List.setIfInBounds_toArray, List.set_cons_zero, List.set_cons_succ]
  refine wpAnyH_take (i := 8) (oi := { dst := some 37, op := Op.fieldAddr 31 (Operand.tmp 3) 4, type := 0, pos := "soft.go:48", after := #[], guard := none }) (v := .pointer (some ⟨w.heap.size, 4, none⟩)) rfl (by kernel_rfl) (by kernel_rfl) (by kernel_rfl) (fun _ _ _ h => h) (Or.inl ⟨by kernel_rfl, fun W h => (by first | kernel_rfl | go_simp)⟩) hS ?_
  try simp only [Act.put, List.setIfInBounds_toArray, List.set_cons_zero, List.set_cons_succ]
  refine wpAnyH_take (i := 9) (oi := { dst := some 38, op := Op.load 9 (Operand.tmp 37), type := 9, pos := "soft.go:48", after := #[{ on := 8, ground := Ground.data }], guard := none }) (v := .string name) rfl (by kernel_rfl) (by kernel_rfl) (by kernel_rfl) (fun _ _ _ h => h) (Or.inl ⟨by kernel_rfl, fun W h => Op1.ld_str (.tmp 37) (by kernel_rfl) (by kernel_rfl) W (h 4 _ rfl)⟩) hS ?_
  try simp only [Act.put, List.setIfInBounds_toArray, List.set_cons_zero, List.set_cons_succ]
  generalize World.drew _ = W0 at hS BD XLT ⊢
  refine wpAnyH_ready (rs := [10]) (by kernel_rfl) (by simp) ?_
  refine AllReadyH.cons (o := { dst := some 39, op := Op.call { callee := Callee.value (Operand.func 68), args := #[Operand.tmp 34, Operand.tmp 36, Operand.tmp 38], argTypes := #[46, 3, 9] }, type := 3, pos := "soft.go:48", after := #[{ on := 5, ground := Ground.data }, { on := 7, ground := Ground.data }, { on := 9, ground := Ground.data }], guard := none }) rfl (fun K hK => ?_) AllReadyH.nil
  rw [if_pos (by kernel_rfl)]
  go_simp
  refine (unhide C3 W0 (unhide BD)).mono ?_
  rintro e wq ⟨rfl, e9⟩
  rw [e9]
  clear e9 wq
  go_wp2_with fail
  refine hK.out _ _ (hS) (fun hS1 => ?_)
  clear hK K
  try simp only [Act.put, List.setIfInBounds_toArray, List.set_cons_zero, List.set_cons_succ]
  refine wpAnyH_ready (rs := [11]) (by kernel_rfl) (by simp) ?_
  refine AllReadyH.cons (o := { dst := some 40, op := Op.call { callee := Callee.value (Operand.func 66), args := #[Operand.tmp 29, Operand.tmp 31, Operand.tmp 33, Operand.tmp 39], argTypes := #[46, 3, 9, 3] }, type := 0, pos := "soft.go:48", after := #[{ on := 0, ground := Ground.data }, { on := 2, ground := Ground.data }, { on := 4, ground := Ground.data }, { on := 10, ground := Ground.data }, { on := 10, ground := Ground.chain }], guard := none }) rfl (fun K hK => ?_) AllReadyH.nil
  rw [if_pos (by kernel_rfl)]
  go_simp
  refine (unhide C4 W0 (unhide BD)).mono ?_
  rintro e w4 ⟨rfl, f4⟩
  have F4 := hide f4
  clear f4
  go_wp2_with fail
  refine hK.out _ _ (fun j u hj => ((unhide F4).cell (unhide XLT) (unhide NE).1 (unhide NE).2).trans (hS1 j u hj)) (fun hS2 => ?_)
  clear hK K
  try simp only [Act.put, List.setIfInBounds_toArray, List.set_cons_zero, List.set_cons_succ]
  refine wpAnyH_done (by kernel_rfl) ?_ _
  have F5 := hide ((unhide HF).after (unhide BD) (unhide F4))
  clear hS hS1 hS2 F4 C4
  clear d0 d1 d2 d3 d4 d5 d6
  go_wp2_with fail
  go_ret
  exact ⟨rfl, unhide F5⟩
set_option maxHeartbeats 2000000 in
set_option maxRecDepth 100000 in
theorem sDo_unlink (h : Fl w bf bc cs ds m k last) (hG : Img.Good m last) (hla : last < 4611686018427387904) (dir toDir p : Int) (name tu text : ByteArray) (hn : name.size ≤ maxLen) (ht : tu.size ≤ maxLen) (hx : text.size ≤ maxLen) (hc : Img.scode m k ⟨3, dir, toDir, p, name, tu, text⟩ = 0) :
    Calls Tryz.prog 40 #[.pointer (some ⟨bf, 0, none⟩), .agg (stpA ⟨3, dir, toDir, p, name, tu, text⟩)] w fun e w' => e = .returned (.int .i64 0) ∧ Fd w w' bf bc ds (Img.sstep m k last ⟨3, dir, toDir, p, name, tu, text⟩) (Img.slast m k last ⟨3, dir, toDir, p, name, tu, text⟩) := by
  have BEL := hide (show Below w.heap.size w (w.alloc (.cells (stpA ⟨3, dir, toDir, p, name, tu, text⟩) 31)) from (Below.refl _ w).alloc (Nat.le_refl _) _)
  have C1 := hide (scheck_any (h.below (unhide BEL)) ⟨3, dir, toDir, p, name, tu, text⟩ hn ht hx)
  have HC := hide fun W bW => stp_box w ⟨3, dir, toDir, p, name, tu, text⟩ W bW
  have C2 := hide fun W (bW : Below w.heap.size w W) => sfull_any (h.below bW) hla ⟨3, dir, toDir, p, name, tu, text⟩ (full_five hG.ex.ok hc)
  rw [(scode_zero hc).1] at C1
  rw [(scode_zero hc).2] at C2
  have HF := hide h
  have tk := Img.take hc
  have hst : Img.sstep m k last ⟨3, dir, toDir, p, name, tu, text⟩ = Img.dropped m dir name := by
    rcases Img.sstep_cases (last := last) hc with ⟨z, e⟩ | ⟨z, e⟩ | ⟨z, e⟩ | ⟨z, e⟩ | ⟨z, e⟩ | ⟨z, e⟩
    all_goals first | exact e | (exfalso; revert z; decide) | (simp at z)
  have hsl : Img.slast m k last ⟨3, dir, toDir, p, name, tu, text⟩ = last := by unfold Img.slast; first | rw [if_pos ⟨hc, rfl⟩] | rw [if_neg (fun z => by have := z.2; simp at this)]
  rw [hst, hsl]
  obtain ⟨j, n, hT⟩ := Img.there hG.ex.ok (tk.old (by simp))
  have t0 : 0 ≤ dir := tk.dir.1
  obtain ⟨dd, rfl⟩ := Int.eq_ofNat_of_zero_le t0
  have C3 := hide fun W (bW : Below w.heap.size w W) => sdrop_any (h.below bW) name hT (by have := links_few hG.ex hT.n8 hT.live; omega)
  clear h hc tk hst hsl hG hT t0
  go_enter Tryz.func40, Tryz.ntmps40
  go_wp2_with fail
  refine (unhide C1).mono ?_
  rintro e w1 ⟨rfl, b1⟩
  have A1 := hide b1
  have B1 := hide ((unhide BEL).trans (b1.mono (by simp)))
  have d0 := unhide HC w1 b1 0 _ rfl
  have d1 := unhide HC w1 b1 1 _ rfl
  have d2 := unhide HC w1 b1 2 _ rfl
  have d3 := unhide HC w1 b1 3 _ rfl
  have d4 := unhide HC w1 b1 4 _ rfl
  have d5 := unhide HC w1 b1 5 _ rfl
  have d6 := unhide HC w1 b1 6 _ rfl
  clear b1
  go_wp2_with fail
  refine (unhide C2 w1 (unhide B1)).mono ?_
  rintro e w2 ⟨rfl, b2⟩
  clear d0 d1 d2 d3 d4 d5 d6
  have B2 := hide ((unhide B1).trans (b2.mono (unhide B1).size))
  have A2 := hide ((unhide A1).trans (b2.mono (unhide A1).size))
  have d0 := unhide HC w2 (unhide A2) 0 _ rfl
  have d1 := unhide HC w2 (unhide A2) 1 _ rfl
  have d2 := unhide HC w2 (unhide A2) 2 _ rfl
  have d3 := unhide HC w2 (unhide A2) 3 _ rfl
  have d4 := unhide HC w2 (unhide A2) 4 _ rfl
  have d5 := unhide HC w2 (unhide A2) 5 _ rfl
  have d6 := unhide HC w2 (unhide A2) 6 _ rfl
  clear b2 A1 B1 C1 C2
  go_wp2_with fail
  refine (unhide C3 w2 (unhide B2)).mono ?_
  rintro e w4 ⟨rfl, f4⟩
  have F4 := hide ((unhide HF).after (unhide B2) f4)
  clear f4 C3 d0 d1 d2 d3 d4 d5 d6
  go_wp2_with fail
  go_ret
  exact ⟨rfl, unhide F4⟩
set_option maxHeartbeats 2000000 in
set_option maxRecDepth 100000 in
theorem sDo_rename (h : Fl w bf bc cs ds m k last) (hG : Img.Good m last) (hla : last < 4611686018427387904) (dir toDir p : Int) (name tu text : ByteArray) (hn : name.size ≤ maxLen) (ht : tu.size ≤ maxLen) (hx : text.size ≤ maxLen) (hc : Img.scode m k ⟨4, dir, toDir, p, name, tu, text⟩ = 0) :
    Calls Tryz.prog 40 #[.pointer (some ⟨bf, 0, none⟩), .agg (stpA ⟨4, dir, toDir, p, name, tu, text⟩)] w fun e w' => e = .returned (.int .i64 0) ∧ Fd w w' bf bc ds (Img.sstep m k last ⟨4, dir, toDir, p, name, tu, text⟩) (Img.slast m k last ⟨4, dir, toDir, p, name, tu, text⟩) := by
  have BEL := hide (show Below w.heap.size w (w.alloc (.cells (stpA ⟨4, dir, toDir, p, name, tu, text⟩) 31)) from (Below.refl _ w).alloc (Nat.le_refl _) _)
  have C1 := hide (scheck_any (h.below (unhide BEL)) ⟨4, dir, toDir, p, name, tu, text⟩ hn ht hx)
  have HC := hide fun W bW => stp_box w ⟨4, dir, toDir, p, name, tu, text⟩ W bW
  have C2 := hide fun W (bW : Below w.heap.size w W) => sfull_any (h.below bW) hla ⟨4, dir, toDir, p, name, tu, text⟩ (full_five hG.ex.ok hc)
  rw [(scode_zero hc).1] at C1
  rw [(scode_zero hc).2] at C2
  have HF := hide h
  have tk := Img.take hc
  have hst : Img.sstep m k last ⟨4, dir, toDir, p, name, tu, text⟩ = Img.dropped (Img.added m k toDir tu (Img.inoOf m dir name).toNat) dir name := by
    rcases Img.sstep_cases (last := last) hc with ⟨z, e⟩ | ⟨z, e⟩ | ⟨z, e⟩ | ⟨z, e⟩ | ⟨z, e⟩ | ⟨z, e⟩
    all_goals first | exact e | (exfalso; revert z; decide) | (simp at z)
  have hsl : Img.slast m k last ⟨4, dir, toDir, p, name, tu, text⟩ = last := by unfold Img.slast; first | rw [if_pos ⟨hc, rfl⟩] | rw [if_neg (fun z => by have := z.2; simp at this)]
  rw [hst, hsl]
  obtain ⟨j, n, s, hT, hS, hX⟩ := Img.linked hG hc (.inr rfl)
  have t0 : 0 ≤ toDir := (tk.to (.inr rfl)).1.1
  have t3 : toDir < 3 := (tk.to (.inr rfl)).1.2
  obtain ⟨dd, rfl⟩ := Int.eq_ofNat_of_zero_le t0
  have hdd : dd < 3 := by omega
  rw [show (Img.inoOf m dir name).toNat = n by rw [show Img.inoOf m dir name = (n : Int) from hT.of]; rfl]
  have hn8 := hT.n8
  have hs4 := hS.s4
  have C3 := hide fun W (bW : Below w.heap.size w W) => sfind_any (h.below bW) dir name
  rw [show Img.inoOf m dir name = (n : Int) from hT.of] at C3
  have C4 := hide fun W (bW : Below w.heap.size w W) => sadd_any (h.below bW) hdd hT.n8 hS.s4 hS.eq tu ht (by have := links_few hG.ex hT.n8 hT.live; omega)
  have u0 : 0 ≤ dir := tk.dir.1
  obtain ⟨ee, rfl⟩ := Int.eq_ofNat_of_zero_le u0
  have hX' : Img.Ex (Img.added m k (dd : Int) tu n) := hX
  have C5 := hide fun W (cs1 : Array Value) (h1 : Fl W bf bc cs1 ds (Img.added m k (dd : Int) tu n) k last) => sdrop_any h1 name (hT.added hS hX.ok) (by have := links_few hX' hT.n8 (by rw [Img.added_live]; exact hT.live); omega)
  have HK := hide h.disk
  generalize Img.added m k (dd : Int) tu n = m1 at C4 C5 ⊢
  clear h hc tk hst hsl hG hT hS hX hX' t0 t3 u0
  go_enter Tryz.func40, Tryz.ntmps40
  go_wp2_with fail
  refine (unhide C1).mono ?_
  rintro e w1 ⟨rfl, b1⟩
  have A1 := hide b1
  have B1 := hide ((unhide BEL).trans (b1.mono (by simp)))
  have d0 := unhide HC w1 b1 0 _ rfl
  have d1 := unhide HC w1 b1 1 _ rfl
  have d2 := unhide HC w1 b1 2 _ rfl
  have d3 := unhide HC w1 b1 3 _ rfl
  have d4 := unhide HC w1 b1 4 _ rfl
  have d5 := unhide HC w1 b1 5 _ rfl
  have d6 := unhide HC w1 b1 6 _ rfl
  clear b1
  go_wp2_with fail
  refine (unhide C2 w1 (unhide B1)).mono ?_
  rintro e w2 ⟨rfl, b2⟩
  clear d0 d1 d2 d3 d4 d5 d6
  have B2 := hide ((unhide B1).trans (b2.mono (unhide B1).size))
  have A2 := hide ((unhide A1).trans (b2.mono (unhide A1).size))
  have d0 := unhide HC w2 (unhide A2) 0 _ rfl
  have d1 := unhide HC w2 (unhide A2) 1 _ rfl
  have d2 := unhide HC w2 (unhide A2) 2 _ rfl
  have d3 := unhide HC w2 (unhide A2) 3 _ rfl
  have d4 := unhide HC w2 (unhide A2) 4 _ rfl
  have d5 := unhide HC w2 (unhide A2) 5 _ rfl
  have d6 := unhide HC w2 (unhide A2) 6 _ rfl
  clear b2 A1 B1 C1 C2
  have AD := hide ((unhide A2).drew)
  have BD := hide ((unhide B2).drew)
  have NE := hide (And.intro (Nat.ne_of_gt (unhide HF).flt) (Nat.ne_of_gt (unhide HF).clt))
  have XLT := hide (show w.heap.size < w2.drew.heap.size from Nat.lt_of_lt_of_le (by simp) (unhide AD).size)
  go_wp2_with fail
  refine wp_region_held_drew (S := fun W => ∀ (j : Nat) (u : Value), (stpA ⟨4, (ee : Int), (dd : Int), p, name, tu, text⟩)[j]? = some u → W.cell? ⟨w.heap.size, j, none⟩ = some u) (by kernel_rfl) (unhide HC _ (unhide AD)) (fun hS => ?_)
  refine wpAnyH_take (i := 0) (oi := { dst := some 51, op := Op.move (Operand.tmp 0), type := 46, pos := "soft.go:53", after := #[], guard := none }) (v := .pointer (some ⟨bf, 0, none⟩)) rfl (by kernel_rfl) (by kernel_rfl) (by kernel_rfl) (fun _ _ _ h => h) (Or.inl ⟨by kernel_rfl, fun W h => (by first | kernel_rfl | go_simp)⟩) hS ?_
  try simp only [Act.put, List.setIfInBounds_toArray, List.set_cons_zero, List.set_cons_succ]
  refine wpAnyH_take (i := 1) (oi := { dst := some 52, op := Op.fieldAddr 31 (Operand.tmp 3) 2, type := 0, pos := "soft.go:53", after := #[], guard := none }) (v := .pointer (some ⟨w.heap.size, 2, none⟩)) rfl (by kernel_rfl) (by kernel_rfl) (by kernel_rfl) (fun _ _ _ h => h) (Or.inl ⟨by kernel_rfl, fun W h => (by first | kernel_rfl | go_simp)⟩) hS ?_
  try simp only [Act.put, List.setIfInBounds_toArray, List.set_cons_zero, List.set_cons_succ]
  refine wpAnyH_take (i := 2) (oi := { dst := some 53, op := Op.load 3 (Operand.tmp 52), type := 3, pos := "soft.go:53", after := #[{ on := 1, ground := Ground.data }], guard := none }) (v := .int .i64 (dd : Int)) rfl (by kernel_rfl) (by kernel_rfl) (by kernel_rfl) (fun _ _ _ h => h) (Or.inl ⟨by kernel_rfl, fun W h => Op1.ld_int (.tmp 52) (by kernel_rfl) (by kernel_rfl) W (h 2 _ rfl)⟩) hS ?_
  try simp only [Act.put, List.setIfInBounds_toArray, List.set_cons_zero, List.set_cons_succ]
  refine wpAnyH_take (i := 3) (oi := { dst := some 54, op := Op.fieldAddr 31 (Operand.tmp 3) 5, type := 0, pos := "soft.go:53", after := #[], guard := none }) (v := .pointer (some ⟨w.heap.size, 5, none⟩)) rfl (by kernel_rfl) (by kernel_rfl) (by kernel_rfl) (fun _ _ _ h => h) (Or.inl ⟨by kernel_rfl, fun W h => (by first | kernel_rfl | go_simp)⟩) hS ?_
  try simp only [Act.put, List.setIfInBounds_toArray, List.set_cons_zero, List.set_cons_succ]
  refine wpAnyH_take (i := 4) (oi := { dst := some 55, op := Op.load 9 (Operand.tmp 54), type := 9, pos := "soft.go:53", after := #[{ on := 3, ground := Ground.data }], guard := none }) (v := .string tu) rfl (by kernel_rfl) (by kernel_rfl) (by kernel_rfl) (fun _ _ _ h => h) (Or.inl ⟨by kernel_rfl, fun W h => Op1.ld_str (.tmp 54) (by kernel_rfl) (by kernel_rfl) W (h 5 _ rfl)⟩) hS ?_
  try simp only [Act.put, List.setIfInBounds_toArray, List.set_cons_zero, List.set_cons_succ]
  refine wpAnyH_take (i := 5) (oi := { dst := some 56, op := Op.move (Operand.tmp 0), type := 46, pos := "soft.go:53", after := #[], guard := none }) (v := .pointer (some ⟨bf, 0, none⟩)) rfl (by kernel_rfl) (by kernel_rfl) (by kernel_rfl) (fun _ _ _ h => h) (Or.inl ⟨by kernel_rfl, fun W h => (by first | kernel_rfl | go_simp)⟩) hS ?_
  try simp only [Act.put, List.setIfInBounds_toArray, List.set_cons_zero, List.set_cons_succ]
  refine wpAnyH_take (i := 6) (oi := { dst := some 57, op := Op.fieldAddr 31 (Operand.tmp 3) 1, type := 0, pos := "soft.go:53", after := #[], guard := none }) (v := .pointer (some ⟨w.heap.size, 1, none⟩)) rfl (by kernel_rfl) (by kernel_rfl) (by kernel_rfl) (fun _ _ _ h => h) (Or.inl ⟨by kernel_rfl, fun W h => (by first | kernel_rfl | go_simp)⟩) hS ?_
  try simp only [Act.put, List.setIfInBounds_toArray, List.set_cons_zero, List.set_cons_succ]
  refine wpAnyH_take (i := 7) (oi := { dst := some 58, op := Op.load 3 (Operand.tmp 57), type := 3, pos := "soft.go:53", after := #[{ on := 6, ground := Ground.data }], guard := none }) (v := .int .i64 (ee : Int)) rfl (by kernel_rfl) (by kernel_rfl) (by kernel_rfl) (fun _ _ _ h => h) (Or.inl ⟨by kernel_rfl, fun W h => Op1.ld_int (.tmp 57) (by kernel_rfl) (by kernel_rfl) W (h 1 _ rfl)⟩) hS ?_
  try simp only [Act.put, List.setIfInBounds_toArray, List.set_cons_zero, List.set_cons_succ]
  refine wpAnyH_take (i := 8) (oi := { dst := some 59, op := Op.fieldAddr 31 (Operand.tmp 3) 4, type := 0, pos := "soft.go:53", after := #[], guard := none }) (v := .pointer (some ⟨w.heap.size, 4, none⟩)) rfl (by kernel_rfl) (by kernel_rfl) (by kernel_rfl) (fun _ _ _ h => h) (Or.inl ⟨by kernel_rfl, fun W h => (by first | kernel_rfl | go_simp)⟩) hS ?_
  try simp only [Act.put, List.setIfInBounds_toArray, List.set_cons_zero, List.set_cons_succ]
  refine wpAnyH_take (i := 9) (oi := { dst := some 60, op := Op.load 9 (Operand.tmp 59), type := 9, pos := "soft.go:53", after := #[{ on := 8, ground := Ground.data }], guard := none }) (v := .string name) rfl (by kernel_rfl) (by kernel_rfl) (by kernel_rfl) (fun _ _ _ h => h) (Or.inl ⟨by kernel_rfl, fun W h => Op1.ld_str (.tmp 59) (by kernel_rfl) (by kernel_rfl) W (h 4 _ rfl)⟩) hS ?_
  try simp only [Act.put, List.setIfInBounds_toArray, List.set_cons_zero, List.set_cons_succ]
  generalize World.drew _ = W0 at hS BD XLT ⊢
  refine wpAnyH_ready (rs := [10]) (by kernel_rfl) (by simp) ?_
  refine AllReadyH.cons (o := { dst := some 61, op := Op.call { callee := Callee.value (Operand.func 68), args := #[Operand.tmp 56, Operand.tmp 58, Operand.tmp 60], argTypes := #[46, 3, 9] }, type := 3, pos := "soft.go:53", after := #[{ on := 5, ground := Ground.data }, { on := 7, ground := Ground.data }, { on := 9, ground := Ground.data }], guard := none }) rfl (fun K hK => ?_) AllReadyH.nil
  rw [if_pos (by kernel_rfl)]
  go_simp
  refine (unhide C3 W0 (unhide BD)).mono ?_
  rintro e wq ⟨rfl, e9⟩
  rw [e9]
  clear e9 wq
  go_wp2_with fail
  refine hK.out _ _ (hS) (fun hS1 => ?_)
  clear hK K
  try simp only [Act.put, List.setIfInBounds_toArray, List.set_cons_zero, List.set_cons_succ]
  refine wpAnyH_ready (rs := [11]) (by kernel_rfl) (by simp) ?_
  refine AllReadyH.cons (o := { dst := some 62, op := Op.call { callee := Callee.value (Operand.func 66), args := #[Operand.tmp 51, Operand.tmp 53, Operand.tmp 55, Operand.tmp 61], argTypes := #[46, 3, 9, 3] }, type := 0, pos := "soft.go:53", after := #[{ on := 0, ground := Ground.data }, { on := 2, ground := Ground.data }, { on := 4, ground := Ground.data }, { on := 10, ground := Ground.data }, { on := 10, ground := Ground.chain }], guard := none }) rfl (fun K hK => ?_) AllReadyH.nil
  rw [if_pos (by kernel_rfl)]
  go_simp
  refine (unhide C4 W0 (unhide BD)).mono ?_
  rintro e w4 ⟨rfl, f4⟩
  have F4 := hide f4
  clear f4
  go_wp2_with fail
  refine hK.out _ _ (fun j u hj => ((unhide F4).cell (unhide XLT) (unhide NE).1 (unhide NE).2).trans (hS1 j u hj)) (fun hS2 => ?_)
  clear hK K
  try simp only [Act.put, List.setIfInBounds_toArray, List.set_cons_zero, List.set_cons_succ]
  refine wpAnyH_done (by kernel_rfl) ?_ _
  have g1 := hS2 1 _ rfl
  have g4 := hS2 4 _ rfl
  obtain ⟨cs4, h4⟩ := (unhide F4).fl (unhide HK)
  have C6 := hide (unhide C5 w4 cs4 h4)
  clear h4 C4 C5 hS hS1 hS2
  clear d0 d1 d2 d3 d4 d5 d6
  go_wp2_with fail
  refine (unhide C6).mono ?_
  rintro e w5 ⟨rfl, f5⟩
  have F5 := hide ((unhide HF).after (unhide BD) ((unhide F4).trans f5))
  clear f5 F4 C6 g1 g4
  go_wp2_with fail
  go_ret
  exact ⟨rfl, unhide F5⟩
set_option maxHeartbeats 2000000 in
set_option maxRecDepth 100000 in
theorem sDo_put (h : Fl w bf bc cs ds m k last) (hG : Img.Good m last) (hla : last < 4611686018427387904) (dir toDir p : Int) (name tu text : ByteArray) (hn : name.size ≤ maxLen) (ht : tu.size ≤ maxLen) (hx : text.size ≤ maxLen) (hc : Img.scode m k ⟨5, dir, toDir, p, name, tu, text⟩ = 0) :
    Calls Tryz.prog 40 #[.pointer (some ⟨bf, 0, none⟩), .agg (stpA ⟨5, dir, toDir, p, name, tu, text⟩)] w fun e w' => e = .returned (.int .i64 0) ∧ Fd w w' bf bc ds (Img.sstep m k last ⟨5, dir, toDir, p, name, tu, text⟩) (Img.slast m k last ⟨5, dir, toDir, p, name, tu, text⟩) := by
  have BEL := hide (show Below w.heap.size w (w.alloc (.cells (stpA ⟨5, dir, toDir, p, name, tu, text⟩) 31)) from (Below.refl _ w).alloc (Nat.le_refl _) _)
  have C1 := hide (scheck_any (h.below (unhide BEL)) ⟨5, dir, toDir, p, name, tu, text⟩ hn ht hx)
  have HC := hide fun W bW => stp_box w ⟨5, dir, toDir, p, name, tu, text⟩ W bW
  have C2 := hide fun W (bW : Below w.heap.size w W) => sfull_any (h.below bW) hla ⟨5, dir, toDir, p, name, tu, text⟩ (full_five hG.ex.ok hc)
  rw [(scode_zero hc).1] at C1
  rw [(scode_zero hc).2] at C2
  have HF := hide h
  have tk := Img.take hc
  have hst : Img.sstep m k last ⟨5, dir, toDir, p, name, tu, text⟩ = Img.putPart m k (Img.inoOf m dir name).toNat p.toNat text := by
    rcases Img.sstep_cases (last := last) hc with ⟨z, e⟩ | ⟨z, e⟩ | ⟨z, e⟩ | ⟨z, e⟩ | ⟨z, e⟩ | ⟨z, e⟩
    all_goals first | exact e | (exfalso; revert z; decide) | (simp at z)
  have hsl : Img.slast m k last ⟨5, dir, toDir, p, name, tu, text⟩ = last := by unfold Img.slast; first | rw [if_pos ⟨hc, rfl⟩] | rw [if_neg (fun z => by have := z.2; simp at this)]
  rw [hst, hsl]
  obtain ⟨j, n, hT⟩ := Img.there hG.ex.ok (tk.old (by simp))
  obtain ⟨q0, q2⟩ := tk.part (.inl rfl)
  have q0 : 0 ≤ p := q0
  have q2 : p < 2 := q2
  obtain ⟨q, rfl⟩ := Int.eq_ofNat_of_zero_le q0
  have hq : q < 2 := by omega
  have hn8 := hT.n8
  have C3 := hide fun W (bW : Below w.heap.size w W) => sfind_any (h.below bW) dir name
  rw [show Img.inoOf m dir name = (n : Int) from hT.of] at C3
  simp only [Int.toNat_natCast]
  rw [show (Img.inoOf m dir name).toNat = n by rw [show Img.inoOf m dir name = (n : Int) from hT.of]; rfl]
  have hdat := tk.data rfl
  rw [show Img.inoOf m dir name = (n : Int) from hT.of] at hdat
  simp only [Int.toNat_natCast] at hdat
  obtain ⟨xx, hx9, hxc⟩ : ∃ xx : Nat, xx < 9 ∧ ((m.part n q < 0 ∧ Img.freeData m k = (xx : Int)) ∨ m.part n q = (xx : Int)) := by
    by_cases z : m.part n q < 0
    · obtain ⟨xx, h1, h2, _⟩ := Img.dataAt (hdat z)
      exact ⟨xx, h1, .inl ⟨z, h2⟩⟩
    · rcases Img.checkPart_iff.1 ((Img.inode_parts_ok hG.ex.ok hT.n8 hT.live).2.2 q hq) with y | ⟨y, _⟩
      · omega
      · have hb : 0 ≤ m.part n q ∧ m.part n q < 9 := by simpa [Img.isD] using y
        obtain ⟨xx, hxx⟩ := Int.eq_ofNat_of_zero_le hb.1
        exact ⟨xx, by omega, .inr hxx⟩
  have C4 := hide fun W (bW : Below w.heap.size w W) => sput_any (h.below bW) hT.n8 hq hx9 text hx hxc
  clear h hc tk hst hsl hG hT q0 q2 hdat hxc
  go_enter Tryz.func40, Tryz.ntmps40
  go_wp2_with fail
  refine (unhide C1).mono ?_
  rintro e w1 ⟨rfl, b1⟩
  have A1 := hide b1
  have B1 := hide ((unhide BEL).trans (b1.mono (by simp)))
  have d0 := unhide HC w1 b1 0 _ rfl
  have d1 := unhide HC w1 b1 1 _ rfl
  have d2 := unhide HC w1 b1 2 _ rfl
  have d3 := unhide HC w1 b1 3 _ rfl
  have d4 := unhide HC w1 b1 4 _ rfl
  have d5 := unhide HC w1 b1 5 _ rfl
  have d6 := unhide HC w1 b1 6 _ rfl
  clear b1
  go_wp2_with fail
  refine (unhide C2 w1 (unhide B1)).mono ?_
  rintro e w2 ⟨rfl, b2⟩
  clear d0 d1 d2 d3 d4 d5 d6
  have B2 := hide ((unhide B1).trans (b2.mono (unhide B1).size))
  have A2 := hide ((unhide A1).trans (b2.mono (unhide A1).size))
  have d0 := unhide HC w2 (unhide A2) 0 _ rfl
  have d1 := unhide HC w2 (unhide A2) 1 _ rfl
  have d2 := unhide HC w2 (unhide A2) 2 _ rfl
  have d3 := unhide HC w2 (unhide A2) 3 _ rfl
  have d4 := unhide HC w2 (unhide A2) 4 _ rfl
  have d5 := unhide HC w2 (unhide A2) 5 _ rfl
  have d6 := unhide HC w2 (unhide A2) 6 _ rfl
  clear b2 A1 B1 C1 C2
  have AD := hide ((unhide A2).drew)
  have BD := hide ((unhide B2).drew)
  have NE := hide (And.intro (Nat.ne_of_gt (unhide HF).flt) (Nat.ne_of_gt (unhide HF).clt))
  have XLT := hide (show w.heap.size < w2.drew.heap.size from Nat.lt_of_lt_of_le (by simp) (unhide AD).size)
  go_wp2_with fail
  refine wp_region_held_drew (S := fun W => ∀ (j : Nat) (u : Value), (stpA ⟨5, dir, toDir, (q : Int), name, tu, text⟩)[j]? = some u → W.cell? ⟨w.heap.size, j, none⟩ = some u) (by kernel_rfl) (unhide HC _ (unhide AD)) (fun hS => ?_)
  refine wpAnyH_take (i := 0) (oi := { dst := some 71, op := Op.move (Operand.tmp 0), type := 46, pos := "soft.go:56", after := #[], guard := none }) (v := .pointer (some ⟨bf, 0, none⟩)) rfl (by kernel_rfl) (by kernel_rfl) (by kernel_rfl) (fun _ _ _ h => h) (Or.inl ⟨by kernel_rfl, fun W h => (by first | kernel_rfl | go_simp)⟩) hS ?_
  try simp only [Act.put, List.setIfInBounds_toArray, List.set_cons_zero, List.set_cons_succ]
  refine wpAnyH_take (i := 1) (oi := { dst := some 72, op := Op.move (Operand.tmp 0), type := 46, pos := "soft.go:56", after := #[], guard := none }) (v := .pointer (some ⟨bf, 0, none⟩)) rfl (by kernel_rfl) (by kernel_rfl) (by kernel_rfl) (fun _ _ _ h => h) (Or.inl ⟨by kernel_rfl, fun W h => (by first | kernel_rfl | go_simp)⟩) hS ?_
  try simp only [Act.put, List.setIfInBounds_toArray, List.set_cons_zero, List.set_cons_succ]
  refine wpAnyH_take (i := 2) (oi := { dst := some 73, op := Op.fieldAddr 31 (Operand.tmp 3) 1, type := 0, pos := "soft.go:56", after := #[], guard := none }) (v := .pointer (some ⟨w.heap.size, 1, none⟩)) rfl (by kernel_rfl) (by kernel_rfl) (by kernel_rfl) (fun _ _ _ h => h) (Or.inl ⟨by kernel_rfl, fun W h => (by first | kernel_rfl | go_simp)⟩) hS ?_
  try simp only [Act.put, List.setIfInBounds_toArray, List.set_cons_zero, List.set_cons_succ]
  refine wpAnyH_take (i := 3) (oi := { dst := some 74, op := Op.load 3 (Operand.tmp 73), type := 3, pos := "soft.go:56", after := #[{ on := 2, ground := Ground.data }], guard := none }) (v := .int .i64 dir) rfl (by kernel_rfl) (by kernel_rfl) (by kernel_rfl) (fun _ _ _ h => h) (Or.inl ⟨by kernel_rfl, fun W h => Op1.ld_int (.tmp 73) (by kernel_rfl) (by kernel_rfl) W (h 1 _ rfl)⟩) hS ?_
  try simp only [Act.put, List.setIfInBounds_toArray, List.set_cons_zero, List.set_cons_succ]
  refine wpAnyH_take (i := 4) (oi := { dst := some 75, op := Op.fieldAddr 31 (Operand.tmp 3) 4, type := 0, pos := "soft.go:56", after := #[], guard := none }) (v := .pointer (some ⟨w.heap.size, 4, none⟩)) rfl (by kernel_rfl) (by kernel_rfl) (by kernel_rfl) (fun _ _ _ h => h) (Or.inl ⟨by kernel_rfl, fun W h => (by first | kernel_rfl | go_simp)⟩) hS ?_
  try simp only [Act.put, List.setIfInBounds_toArray, List.set_cons_zero, List.set_cons_succ]
  refine wpAnyH_take (i := 5) (oi := { dst := some 76, op := Op.load 9 (Operand.tmp 75), type := 9, pos := "soft.go:56", after := #[{ on := 4, ground := Ground.data }], guard := none }) (v := .string name) rfl (by kernel_rfl) (by kernel_rfl) (by kernel_rfl) (fun _ _ _ h => h) (Or.inl ⟨by kernel_rfl, fun W h => Op1.ld_str (.tmp 75) (by kernel_rfl) (by kernel_rfl) W (h 4 _ rfl)⟩) hS ?_
  try simp only [Act.put, List.setIfInBounds_toArray, List.set_cons_zero, List.set_cons_succ]
  refine wpAnyH_take (i := 7) (oi := { dst := some 78, op := Op.fieldAddr 31 (Operand.tmp 3) 3, type := 0, pos := "soft.go:56", after := #[], guard := none }) (v := .pointer (some ⟨w.heap.size, 3, none⟩)) rfl (by kernel_rfl) (by kernel_rfl) (by kernel_rfl) (fun _ _ _ h => h) (Or.inl ⟨by kernel_rfl, fun W h => (by first | kernel_rfl | go_simp)⟩) hS ?_
  try simp only [Act.put, List.setIfInBounds_toArray, List.set_cons_zero, List.set_cons_succ]
  refine wpAnyH_take (i := 8) (oi := { dst := some 79, op := Op.load 3 (Operand.tmp 78), type := 3, pos := "soft.go:56", after := #[{ on := 7, ground := Ground.data }], guard := none }) (v := .int .i64 (q : Int)) rfl (by kernel_rfl) (by kernel_rfl) (by kernel_rfl) (fun _ _ _ h => h) (Or.inl ⟨by kernel_rfl, fun W h => Op1.ld_int (.tmp 78) (by kernel_rfl) (by kernel_rfl) W (h 3 _ rfl)⟩) hS ?_
  try simp only [Act.put, List.setIfInBounds_toArray, List.set_cons_zero, List.set_cons_succ]
  refine wpAnyH_take (i := 9) (oi := { dst := some 80, op := Op.fieldAddr 31 (Operand.tmp 3) 6, type := 0, pos := "soft.go:56", after := #[], guard := none }) (v := .pointer (some ⟨w.heap.size, 6, none⟩)) rfl (by kernel_rfl) (by kernel_rfl) (by kernel_rfl) (fun _ _ _ h => h) (Or.inl ⟨by kernel_rfl, fun W h => (by first | kernel_rfl | go_simp)⟩) hS ?_
  try simp only [Act.put, List.setIfInBounds_toArray, List.set_cons_zero, List.set_cons_succ]
  refine wpAnyH_take (i := 10) (oi := { dst := some 81, op := Op.load 9 (Operand.tmp 80), type := 9, pos := "soft.go:56", after := #[{ on := 9, ground := Ground.data }], guard := none }) (v := .string text) rfl (by kernel_rfl) (by kernel_rfl) (by kernel_rfl) (fun _ _ _ h => h) (Or.inl ⟨by kernel_rfl, fun W h => Op1.ld_str (.tmp 80) (by kernel_rfl) (by kernel_rfl) W (h 6 _ rfl)⟩) hS ?_
  try simp only [Act.put, List.setIfInBounds_toArray, List.set_cons_zero, List.set_cons_succ]
  generalize World.drew _ = W0 at hS BD XLT ⊢
  refine wpAnyH_ready (rs := [6]) (by kernel_rfl) (by simp) ?_
  refine AllReadyH.cons (o := { dst := some 77, op := Op.call { callee := Callee.value (Operand.func 68), args := #[Operand.tmp 72, Operand.tmp 74, Operand.tmp 76], argTypes := #[46, 3, 9] }, type := 3, pos := "soft.go:56", after := #[{ on := 1, ground := Ground.data }, { on := 3, ground := Ground.data }, { on := 5, ground := Ground.data }], guard := none }) rfl (fun K hK => ?_) AllReadyH.nil
  rw [if_pos (by kernel_rfl)]
  go_simp
  refine (unhide C3 W0 (unhide BD)).mono ?_
  rintro e wq ⟨rfl, e9⟩
  rw [e9]
  clear e9 wq
  go_wp2_with fail
  refine hK.out _ _ (hS) (fun hS1 => ?_)
  clear hK K
  try simp only [Act.put, List.setIfInBounds_toArray, List.set_cons_zero, List.set_cons_succ]
  refine wpAnyH_ready (rs := [11]) (by kernel_rfl) (by simp) ?_
  refine AllReadyH.cons (o := { dst := some 82, op := Op.call { callee := Callee.value (Operand.func 70), args := #[Operand.tmp 71, Operand.tmp 77, Operand.tmp 79, Operand.tmp 81], argTypes := #[46, 3, 3, 9] }, type := 0, pos := "soft.go:56", after := #[{ on := 0, ground := Ground.data }, { on := 6, ground := Ground.data }, { on := 8, ground := Ground.data }, { on := 10, ground := Ground.data }, { on := 6, ground := Ground.chain }], guard := none }) rfl (fun K hK => ?_) AllReadyH.nil
  rw [if_pos (by kernel_rfl)]
  go_simp
  refine (unhide C4 W0 (unhide BD)).mono ?_
  rintro e w4 ⟨rfl, f4⟩
  have F4 := hide f4
  clear f4
  go_wp2_with fail
  refine hK.out _ _ (fun j u hj => ((unhide F4).cell (unhide XLT) (unhide NE).1 (unhide NE).2).trans (hS1 j u hj)) (fun hS2 => ?_)
  clear hK K
  try simp only [Act.put, List.setIfInBounds_toArray, List.set_cons_zero, List.set_cons_succ]
  refine wpAnyH_done (by kernel_rfl) ?_ _
  have F5 := hide ((unhide HF).after (unhide BD) (unhide F4))
  clear hS hS1 hS2 F4 C4
  clear d0 d1 d2 d3 d4 d5 d6
  go_wp2_with fail
  go_ret
  exact ⟨rfl, unhide F5⟩
set_option maxHeartbeats 2000000 in
set_option maxRecDepth 100000 in
theorem sDo_cut (h : Fl w bf bc cs ds m k last) (hG : Img.Good m last) (hla : last < 4611686018427387904) (dir toDir p : Int) (name tu text : ByteArray) (hn : name.size ≤ maxLen) (ht : tu.size ≤ maxLen) (hx : text.size ≤ maxLen) (hc : Img.scode m k ⟨6, dir, toDir, p, name, tu, text⟩ = 0) :
    Calls Tryz.prog 40 #[.pointer (some ⟨bf, 0, none⟩), .agg (stpA ⟨6, dir, toDir, p, name, tu, text⟩)] w fun e w' => e = .returned (.int .i64 0) ∧ Fd w w' bf bc ds (Img.sstep m k last ⟨6, dir, toDir, p, name, tu, text⟩) (Img.slast m k last ⟨6, dir, toDir, p, name, tu, text⟩) := by
  have BEL := hide (show Below w.heap.size w (w.alloc (.cells (stpA ⟨6, dir, toDir, p, name, tu, text⟩) 31)) from (Below.refl _ w).alloc (Nat.le_refl _) _)
  have C1 := hide (scheck_any (h.below (unhide BEL)) ⟨6, dir, toDir, p, name, tu, text⟩ hn ht hx)
  have HC := hide fun W bW => stp_box w ⟨6, dir, toDir, p, name, tu, text⟩ W bW
  have C2 := hide fun W (bW : Below w.heap.size w W) => sfull_any (h.below bW) hla ⟨6, dir, toDir, p, name, tu, text⟩ (full_five hG.ex.ok hc)
  rw [(scode_zero hc).1] at C1
  rw [(scode_zero hc).2] at C2
  have HF := hide h
  have tk := Img.take hc
  have hst : Img.sstep m k last ⟨6, dir, toDir, p, name, tu, text⟩ = m.setPart (Img.inoOf m dir name).toNat p.toNat (-1) := by
    rcases Img.sstep_cases (last := last) hc with ⟨z, e⟩ | ⟨z, e⟩ | ⟨z, e⟩ | ⟨z, e⟩ | ⟨z, e⟩ | ⟨z, e⟩
    all_goals first | exact e | (exfalso; revert z; decide) | (simp at z)
  have hsl : Img.slast m k last ⟨6, dir, toDir, p, name, tu, text⟩ = last := by unfold Img.slast; first | rw [if_pos ⟨hc, rfl⟩] | rw [if_neg (fun z => by have := z.2; simp at this)]
  rw [hst, hsl]
  obtain ⟨j, n, hT⟩ := Img.there hG.ex.ok (tk.old (by simp))
  obtain ⟨q0, q2⟩ := tk.part (.inr rfl)
  have q0 : 0 ≤ p := q0
  have q2 : p < 2 := q2
  obtain ⟨q, rfl⟩ := Int.eq_ofNat_of_zero_le q0
  have hq : q < 2 := by omega
  have hn8 := hT.n8
  have C3 := hide fun W (bW : Below w.heap.size w W) => sfind_any (h.below bW) dir name
  rw [show Img.inoOf m dir name = (n : Int) from hT.of] at C3
  simp only [Int.toNat_natCast]
  rw [show (Img.inoOf m dir name).toNat = n by rw [show Img.inoOf m dir name = (n : Int) from hT.of]; rfl]
  have HM := hide h.now
  clear h hc tk hst hsl hG hT q0 q2
  go_enter Tryz.func40, Tryz.ntmps40
  go_wp2_with fail
  refine (unhide C1).mono ?_
  rintro e w1 ⟨rfl, b1⟩
  have A1 := hide b1
  have B1 := hide ((unhide BEL).trans (b1.mono (by simp)))
  have d0 := unhide HC w1 b1 0 _ rfl
  have d1 := unhide HC w1 b1 1 _ rfl
  have d2 := unhide HC w1 b1 2 _ rfl
  have d3 := unhide HC w1 b1 3 _ rfl
  have d4 := unhide HC w1 b1 4 _ rfl
  have d5 := unhide HC w1 b1 5 _ rfl
  have d6 := unhide HC w1 b1 6 _ rfl
  clear b1
  go_wp2_with fail
  refine (unhide C2 w1 (unhide B1)).mono ?_
  rintro e w2 ⟨rfl, b2⟩
  clear d0 d1 d2 d3 d4 d5 d6
  have B2 := hide ((unhide B1).trans (b2.mono (unhide B1).size))
  have A2 := hide ((unhide A1).trans (b2.mono (unhide A1).size))
  have d0 := unhide HC w2 (unhide A2) 0 _ rfl
  have d1 := unhide HC w2 (unhide A2) 1 _ rfl
  have d2 := unhide HC w2 (unhide A2) 2 _ rfl
  have d3 := unhide HC w2 (unhide A2) 3 _ rfl
  have d4 := unhide HC w2 (unhide A2) 4 _ rfl
  have d5 := unhide HC w2 (unhide A2) 5 _ rfl
  have d6 := unhide HC w2 (unhide A2) 6 _ rfl
  clear b2 A1 B1 C1 C2
  have FM2 := hide (((unhide HF).fm.call (unhide B2)).call (Below.refl _ _).drew)
  have HB := hide fun j u hj => (show w2.drew.cell? ⟨w.heap.size, j, none⟩ = some u from unhide HC w2 (unhide A2) j u hj)
  have FB2 := hide ((unhide B2).drew)
  go_wp2_with fail
  refine wp_region_F (S := FS bf bc w.heap.size m ⟨6, dir, toDir, (q : Int), name, tu, text⟩) 18 (by kernel_rfl) (⟨(unhide FM2).ptr, unhide HB, (unhide FM2).has (unhide HM)⟩) (fun hS => ?_)
  refine wpAnyF_take (i := 0) (oi := { dst := some 85, op := Op.move (Operand.tmp 0), type := 46, pos := "soft.go:58", after := #[], guard := none }) (v := .pointer (some ⟨bf, 0, none⟩)) rfl (by kernel_rfl) (by kernel_rfl) (by kernel_rfl) (by kernel_rfl) (fun _ _ _ h => h) (Or.inl ⟨by kernel_rfl, fun W h => (by first | kernel_rfl | go_simp)⟩) hS ?_
  try simp only [Act.put, List.setIfInBounds_toArray, List.set_cons_zero, List.set_cons_succ]
  refine wpAnyF_take (i := 1) (oi := { dst := some 86, op := Op.nilCheck (Operand.tmp 85), type := 0, pos := "soft.go:58", after := #[{ on := 0, ground := Ground.data }], guard := none }) (v := .pointer (some ⟨bf, 0, none⟩)) rfl (by kernel_rfl) (by kernel_rfl) (by kernel_rfl) (by kernel_rfl) (fun _ _ _ h => h) (Or.inl ⟨by kernel_rfl, fun W h => (by first | kernel_rfl | go_simp)⟩) hS ?_
  try simp only [Act.put, List.setIfInBounds_toArray, List.set_cons_zero, List.set_cons_succ]
  refine wpAnyF_take (i := 2) (oi := { dst := some 87, op := Op.fieldAddr 53 (Operand.tmp 86) 0, type := 0, pos := "soft.go:58", after := #[{ on := 1, ground := Ground.data }], guard := none }) (v := .pointer (some ⟨bf, 0, none⟩)) rfl (by kernel_rfl) (by kernel_rfl) (by kernel_rfl) (by kernel_rfl) (fun _ _ _ h => h) (Or.inl ⟨by kernel_rfl, fun W h => (by first | kernel_rfl | go_simp)⟩) hS ?_
  try simp only [Act.put, List.setIfInBounds_toArray, List.set_cons_zero, List.set_cons_succ]
  refine wpAnyF_take (i := 3) (oi := { dst := some 88, op := Op.load 51 (Operand.tmp 87), type := 51, pos := "soft.go:58", after := #[{ on := 2, ground := Ground.data }], guard := none }) (v := .pointer (some ⟨bc, 0, none⟩)) rfl (by kernel_rfl) (by kernel_rfl) (by kernel_rfl) (by kernel_rfl) (fun _ _ _ h => h) (Or.inl ⟨by kernel_rfl, fun W h => Op1.ld_ptr (.tmp 87) (by kernel_rfl) (by kernel_rfl) W (h.1)⟩) hS ?_
  try simp only [Act.put, List.setIfInBounds_toArray, List.set_cons_zero, List.set_cons_succ]
  refine wpAnyF_take (i := 4) (oi := { dst := some 89, op := Op.move (Operand.tmp 0), type := 46, pos := "soft.go:58", after := #[], guard := none }) (v := .pointer (some ⟨bf, 0, none⟩)) rfl (by kernel_rfl) (by kernel_rfl) (by kernel_rfl) (by kernel_rfl) (fun _ _ _ h => h) (Or.inl ⟨by kernel_rfl, fun W h => (by first | kernel_rfl | go_simp)⟩) hS ?_
  try simp only [Act.put, List.setIfInBounds_toArray, List.set_cons_zero, List.set_cons_succ]
  refine wpAnyF_take (i := 5) (oi := { dst := some 90, op := Op.fieldAddr 31 (Operand.tmp 3) 1, type := 0, pos := "soft.go:58", after := #[], guard := none }) (v := .pointer (some ⟨w.heap.size, 1, none⟩)) rfl (by kernel_rfl) (by kernel_rfl) (by kernel_rfl) (by kernel_rfl) (fun _ _ _ h => h) (Or.inl ⟨by kernel_rfl, fun W h => (by first | kernel_rfl | go_simp)⟩) hS ?_
  try simp only [Act.put, List.setIfInBounds_toArray, List.set_cons_zero, List.set_cons_succ]
  refine wpAnyF_take (i := 6) (oi := { dst := some 91, op := Op.load 3 (Operand.tmp 90), type := 3, pos := "soft.go:58", after := #[{ on := 5, ground := Ground.data }], guard := none }) (v := .int .i64 dir) rfl (by kernel_rfl) (by kernel_rfl) (by kernel_rfl) (by kernel_rfl) (fun _ _ _ h => h) (Or.inl ⟨by kernel_rfl, fun W h => Op1.ld_int (.tmp 90) (by kernel_rfl) (by kernel_rfl) W (h.2.1 1 _ rfl)⟩) hS ?_
  try simp only [Act.put, List.setIfInBounds_toArray, List.set_cons_zero, List.set_cons_succ]
  refine wpAnyF_take (i := 7) (oi := { dst := some 92, op := Op.fieldAddr 31 (Operand.tmp 3) 4, type := 0, pos := "soft.go:58", after := #[], guard := none }) (v := .pointer (some ⟨w.heap.size, 4, none⟩)) rfl (by kernel_rfl) (by kernel_rfl) (by kernel_rfl) (by kernel_rfl) (fun _ _ _ h => h) (Or.inl ⟨by kernel_rfl, fun W h => (by first | kernel_rfl | go_simp)⟩) hS ?_
  try simp only [Act.put, List.setIfInBounds_toArray, List.set_cons_zero, List.set_cons_succ]
  refine wpAnyF_take (i := 8) (oi := { dst := some 93, op := Op.load 9 (Operand.tmp 92), type := 9, pos := "soft.go:58", after := #[{ on := 7, ground := Ground.data }], guard := none }) (v := .string name) rfl (by kernel_rfl) (by kernel_rfl) (by kernel_rfl) (by kernel_rfl) (fun _ _ _ h => h) (Or.inl ⟨by kernel_rfl, fun W h => Op1.ld_str (.tmp 92) (by kernel_rfl) (by kernel_rfl) W (h.2.1 4 _ rfl)⟩) hS ?_
  try simp only [Act.put, List.setIfInBounds_toArray, List.set_cons_zero, List.set_cons_succ]
  refine wpAnyF_take (i := 10) (oi := { dst := some 95, op := Op.fieldAddr 31 (Operand.tmp 3) 3, type := 0, pos := "soft.go:58", after := #[], guard := none }) (v := .pointer (some ⟨w.heap.size, 3, none⟩)) rfl (by kernel_rfl) (by kernel_rfl) (by kernel_rfl) (by kernel_rfl) (fun _ _ _ h => h) (Or.inl ⟨by kernel_rfl, fun W h => (by first | kernel_rfl | go_simp)⟩) hS ?_
  try simp only [Act.put, List.setIfInBounds_toArray, List.set_cons_zero, List.set_cons_succ]
  refine wpAnyF_take (i := 11) (oi := { dst := some 96, op := Op.load 3 (Operand.tmp 95), type := 3, pos := "soft.go:58", after := #[{ on := 10, ground := Ground.data }], guard := none }) (v := .int .i64 (q : Int)) rfl (by kernel_rfl) (by kernel_rfl) (by kernel_rfl) (by kernel_rfl) (fun _ _ _ h => h) (Or.inl ⟨by kernel_rfl, fun W h => Op1.ld_int (.tmp 95) (by kernel_rfl) (by kernel_rfl) W (h.2.1 3 _ rfl)⟩) hS ?_
  try simp only [Act.put, List.setIfInBounds_toArray, List.set_cons_zero, List.set_cons_succ]
  refine wpAnyF_free (i := 12) (oi := { dst := some 97, op := Op.nilCheck (Operand.tmp 88), type := 0, pos := "soft.go:58", after := #[{ on := 3, ground := Ground.data }], guard := none }) (v := .pointer (some ⟨bc, 0, none⟩)) rfl (by kernel_rfl) (by kernel_rfl) (by kernel_rfl) (by kernel_rfl) (fun _ _ _ h => h) (Or.inl ⟨by kernel_rfl, fun W _ => (by first | kernel_rfl | go_simp)⟩) hS ?_
  try simp only [Act.put, List.setIfInBounds_toArray, List.set_cons_zero, List.set_cons_succ]
  refine wpAnyF_free (i := 13) (oi := { dst := some 98, op := Op.fieldAddr 57 (Operand.tmp 97) 0, type := 0, pos := "soft.go:58", after := #[{ on := 12, ground := Ground.data }], guard := none }) (v := .pointer (some ⟨bc, 0, none⟩)) rfl (by kernel_rfl) (by kernel_rfl) (by kernel_rfl) (by kernel_rfl) (fun _ _ _ h => h) (Or.inl ⟨by kernel_rfl, fun W _ => (by first | kernel_rfl | go_simp)⟩) hS ?_
  try simp only [Act.put, List.setIfInBounds_toArray, List.set_cons_zero, List.set_cons_succ]
  refine wpAnyF_free (i := 14) (oi := { dst := some 99, op := Op.fieldAddr 44 (Operand.tmp 98) 0, type := 0, pos := "soft.go:58", after := #[{ on := 13, ground := Ground.data }], guard := none }) (v := .pointer (some ⟨bc, 0, none⟩)) rfl (by kernel_rfl) (by kernel_rfl) (by kernel_rfl) (by kernel_rfl) (fun _ _ _ h => h) (Or.inl ⟨by kernel_rfl, fun W _ => (by first | kernel_rfl | go_simp)⟩) hS ?_
  try simp only [Act.put, List.setIfInBounds_toArray, List.set_cons_zero, List.set_cons_succ]
  generalize World.drew _ = W0 at hS FM2 FB2 ⊢
  refine wpAnyF_one (i := 9) (o := { dst := some 94, op := Op.call { callee := Callee.value (Operand.func 68), args := #[Operand.tmp 89, Operand.tmp 91, Operand.tmp 93], argTypes := #[46, 3, 9] }, type := 3, pos := "soft.go:58", after := #[{ on := 4, ground := Ground.data }, { on := 6, ground := Ground.data }, { on := 8, ground := Ground.data }], guard := none }) (by kernel_rfl) rfl (by kernel_rfl) (fun K hK => ?_)
  go_simp
  refine (unhide C3 W0 (unhide FB2)).mono ?_
  rintro e wq ⟨rfl, e9⟩
  rw [e9]
  clear e9 wq
  go_wp2_with fail
  have hS1 := hS
  refine hK.out _ _ (fun _ => hS1) ?_
  clear hK K
  try simp only [Act.put, List.setIfInBounds_toArray, List.set_cons_zero, List.set_cons_succ]
  refine wpAnyF_free (i := 15) (oi := { dst := some 100, op := Op.indexAddr 35 (Operand.tmp 99) (Operand.tmp 94), type := 0, pos := "soft.go:58", after := #[{ on := 14, ground := Ground.data }, { on := 9, ground := Ground.data }], guard := none }) (v := .pointer (some ⟨bc, n * 5, none⟩)) rfl (by kernel_rfl) (by kernel_rfl) (by kernel_rfl) (by kernel_rfl) (fun _ _ _ h => h) (Or.inl ⟨by kernel_rfl, fun W _ => Op1.ix_ino (.tmp 99) (.tmp 94) (by kernel_rfl) (by kernel_rfl) (by kernel_rfl) (hn8) W⟩) hS1 ?_
  try simp only [Act.put, List.setIfInBounds_toArray, List.set_cons_zero, List.set_cons_succ]
  refine wpAnyF_free (i := 16) (oi := { dst := some 101, op := Op.fieldAddr 34 (Operand.tmp 100) 3, type := 0, pos := "soft.go:58", after := #[{ on := 15, ground := Ground.data }], guard := none }) (v := .pointer (some ⟨bc, n * 5 + 3, none⟩)) rfl (by kernel_rfl) (by kernel_rfl) (by kernel_rfl) (by kernel_rfl) (fun _ _ _ h => h) (Or.inl ⟨by kernel_rfl, fun W _ => (by first | kernel_rfl | go_simp)⟩) hS1 ?_
  try simp only [Act.put, List.setIfInBounds_toArray, List.set_cons_zero, List.set_cons_succ]
  refine wpAnyF_take (i := 17) (oi := { dst := some 102, op := Op.indexAddr 32 (Operand.tmp 101) (Operand.tmp 96), type := 0, pos := "soft.go:58", after := #[{ on := 16, ground := Ground.data }, { on := 11, ground := Ground.data }, { on := 0, ground := Ground.phase }, { on := 1, ground := Ground.phase }, { on := 2, ground := Ground.phase }, { on := 3, ground := Ground.phase }, { on := 4, ground := Ground.phase }, { on := 5, ground := Ground.phase }, { on := 6, ground := Ground.phase }, { on := 7, ground := Ground.phase }, { on := 8, ground := Ground.phase }, { on := 9, ground := Ground.phase }, { on := 10, ground := Ground.phase }, { on := 11, ground := Ground.phase }], guard := none }) (v := .pointer (some ⟨bc, n * 5 + 3 + q, none⟩)) rfl (by kernel_rfl) (by kernel_rfl) (by kernel_rfl) (by kernel_rfl) (fun _ _ _ h => h) (Or.inl ⟨by kernel_rfl, fun W h => Op1.ix_part (.tmp 101) (.tmp 96) (by kernel_rfl) (by kernel_rfl) (by kernel_rfl) (hq) W⟩) hS1 ?_
  try simp only [Act.put, List.setIfInBounds_toArray, List.set_cons_zero, List.set_cons_succ]
  refine wpAnyF_last (o := { dst := none, op := Op.store 3 (Operand.tmp 102) (Operand.const (Value.int IntKind.i64 (-1))), type := 0, pos := "soft.go:58", after := #[{ on := 17, ground := Ground.data }, { on := 9, ground := Ground.chain }, { on := 0, ground := Ground.phase }, { on := 1, ground := Ground.phase }, { on := 2, ground := Ground.phase }, { on := 3, ground := Ground.phase }, { on := 4, ground := Ground.phase }, { on := 5, ground := Ground.phase }, { on := 6, ground := Ground.phase }, { on := 7, ground := Ground.phase }, { on := 8, ground := Ground.phase }, { on := 9, ground := Ground.phase }, { on := 10, ground := Ground.phase }, { on := 11, ground := Ground.phase }], guard := none }) (by kernel_rfl) rfl (by kernel_rfl) (by kernel_rfl) (fun K hK => ?_)
  refine Op1.st_int (v := -1) (.tmp 102) (.const (.int .i64 (-1))) (by kernel_rfl) rfl (by kernel_rfl) (by kernel_rfl) (by have := hS1.2.2.part n q hn8 hq; rw [Nat.zero_add] at this; exact this) ((unhide FM2).frozen _) ?_
  refine hK.out _ _ ?_
  clear hK K
  try simp only [Act.put, List.setIfInBounds_toArray, List.set_cons_zero, List.set_cons_succ]
  refine wpAnyF_done (by kernel_rfl) ?_ _
  have F4 := hide (Fd.part (unhide FM2) (unhide HM) hn8 hq (-1))
  clear hS hS1 d0 d1 d2 d3 d4 d5 d6
  go_wp2_with fail
  go_ret
  exact ⟨rfl, unhide F4⟩
theorem sDo_any (h : Fl w bf bc cs ds m k last) (hG : Img.Good m last) (hla : last < 4611686018427387904) (x : Stp) (hn : x.name.size ≤ maxLen) (ht : x.to.size ≤ maxLen) (hx : x.text.size ≤ maxLen) :
    Calls Tryz.prog 40 #[.pointer (some ⟨bf, 0, none⟩), .agg (stpA x)] w fun e w' => e = .returned (.int .i64 (Img.scode m k x)) ∧ Fd w w' bf bc ds (Img.sstep m k last x) (Img.slast m k last x) := by
  by_cases hc : Img.scode m k x = 0
  · rw [hc]
    have kc := Img.sstep_cases (last := last) hc
    obtain ⟨kind, dir, toDir, p, name, tu, text⟩ := x
    rcases kc with ⟨z, _⟩ | ⟨z, _⟩ | ⟨z, _⟩ | ⟨z, _⟩ | ⟨z, _⟩ | ⟨z, _⟩
    · have z : kind = 1 := z
      subst z
      exact sDo_make h hG hla dir toDir p name tu text hn ht hx hc
    · have z : kind = 2 := z
      subst z
      exact sDo_link h hG hla dir toDir p name tu text hn ht hx hc
    · have z : kind = 3 := z
      subst z
      exact sDo_unlink h hG hla dir toDir p name tu text hn ht hx hc
    · have z : kind = 4 := z
      subst z
      exact sDo_rename h hG hla dir toDir p name tu text hn ht hx hc
    · have z : kind = 5 := z
      subst z
      exact sDo_put h hG hla dir toDir p name tu text hn ht hx hc
    · have z : kind = 6 := z
      subst z
      exact sDo_cut h hG hla dir toDir p name tu text hn ht hx hc
  · have e1 : Img.sstep m k last x = m := if_pos hc
    have e2 : Img.slast m k last x = last := if_neg (fun z => hc z.1)
    rw [e1, e2]
    refine (sDo_code h hG hla x hn ht hx hc).mono ?_
    rintro e w' ⟨rfl, hb⟩
    exact ⟨rfl, h.fd.call hb⟩
end
end Go.Proofs.YtmbpckmpnnmnmacGreat
namespace Go.Proofs.YtmbpckmpnnmnmacGreat
open Go.RowKit
open Idl (Stp chk stpA)
namespace Img
def ssame (m : Img) (d : Int) (s : ByteArray) (e : Int) (u : ByteArray) : Bool := decide (0 ≤ inoOf m d s) && (inoOf m d s == inoOf m e u)
/-- what Read answers -/
def sreadC (m : Img) (d : Int) (s : ByteArray) (p : Int) : Int := scheck m (Idl.cut d s p)
def spart (m : Img) (d : Int) (s : ByteArray) (p : Int) : Int := m.part (inoOf m d s).toNat p.toNat
def sreadB (m : Img) (d : Int) (s : ByteArray) (p : Int) : Bool := if sreadC m d s p ≠ 0 then false else !decide (spart m d s p < 0)
def sreadT (m : Img) (d : Int) (s : ByteArray) (p : Int) : ByteArray := if sreadC m d s p ≠ 0 then ⟨#[]⟩ else if spart m d s p < 0 then ⟨#[]⟩ else m.text (spart m d s p).toNat
end Img
section
variable {w : World} {bf bc : Nat} {cs ds : Array Value} {m k : Img} {last : Int}
theorem sNew_any (w : World) :
    Calls Tryz.prog 36 #[] w fun e w' => (∃ bf bc, e = .returned (.pointer (some ⟨bf, 0, none⟩)) ∧ w.heap.size ≤ bf ∧ w.heap.size ≤ bc ∧ Fl w' bf bc blankCells blankCells blankI blankI 0) ∧ Below w.heap.size w w' := by
  go_enter Tryz.func36, Tryz.ntmps36
  go_wp2_with fail
  refine (cNew_any w).mono ?_
  rintro e w1 ⟨⟨g, rfl, hg, hr⟩, b1⟩
  have HR := hide hr
  have B1 := hide b1
  have hlt : g < w1.heap.size := (Array.getElem?_eq_some_iff.1 hr).1
  clear hr b1
  go_wp2_with fail
  go_ret
  refine ⟨⟨_, g, rfl, (unhide B1).size, hg, ⟨heap_alloc_last _ _, ?_, blank_is, blank_is, by omega⟩⟩, (unhide B1).alloc (unhide B1).size _⟩
  rw [Below.heap_alloc _ _ _ hlt]; exact unhide HR
set_option maxHeartbeats 1000000 in
set_option maxRecDepth 100000 in
theorem sOf_nil (cs : Array Value) (m : Img) (hi : IsImg cs m) (hm : m.check ≠ 0) (w : World) :
    Calls Tryz.prog 63 #[.agg cs] w fun e w' => e = .returned (.pointer none) ∧ Below w.heap.size w w' := by
  have C1 := hide (of_any cs m hi (w.alloc (.cells cs 44)))
  have BEL := hide (show Below w.heap.size w (w.alloc (.cells cs 44)) from (Below.refl _ w).alloc (Nat.le_refl _) _)
  have HR := hide (heap_alloc_last w (.cells cs 44))
  have hz := hi.size
  go_enter Tryz.func63, Tryz.ntmps63
  go_wp2_with (refine wpList_load_row rfl 44 _ rfl w.heap.size rfl 44 cs (0, 0) _ (unhide HR) img_under rfl (img_info hz) ?_)
  refine (unhide C1).mono ?_
  rintro e w1 ⟨ho, b1⟩
  have e0 : e = .returned (.pointer none) := by
    rcases ho with ⟨z, _⟩ | ⟨_, z⟩
    · exact absurd z hm
    · exact z
  subst e0
  have B1 := hide ((unhide BEL).trans (b1.mono (by simp)))
  clear b1 ho
  go_wp2_with fail
  go_ret
  exact ⟨rfl, unhide B1⟩
theorem cut_old {m : Img} (hm : m.check = 0) {d : Int} {s : ByteArray} {p : Int} (h : Img.sreadC m d s p = 0) : ∃ j n q : Nat, Img.There m d s j n ∧ q < 2 ∧ p = (q : Int) := by
  have hc : chk (Idl.cut d s p) = 0 := by
    unfold Img.sreadC Img.scheck at h
    by_cases e : chk (Idl.cut d s p) = 0
    · exact e
    · rw [if_pos e] at h; exact absurd h e
  have ho : 0 ≤ Img.inoOf m d s := by
    unfold Img.sreadC Img.scheck at h
    rw [if_neg (by rw [hc]; simp), if_neg (by show ¬ (6 : Int) = 1; omega)] at h
    by_cases z : Img.inoOf m d s < 0
    · rw [if_pos (show Img.inoOf m (Idl.cut d s p).dir (Idl.cut d s p).name < 0 from z)] at h; simp at h
    · omega
  obtain ⟨_, _, _, _, _, a6⟩ := Img.chk_names hc
  obtain ⟨j, n, hT⟩ := Img.there hm ho
  have a7 : 0 ≤ p ∧ p < 2 := a6 (.inr rfl)
  obtain ⟨q, hq⟩ := Int.eq_ofNat_of_zero_le a7.1
  exact ⟨j, n, q, hT, by omega, hq⟩
end
end Go.Proofs.YtmbpckmpnnmnmacGreat
namespace Go.Proofs.YtmbpckmpnnmnmacGreat
open Go.RowKit
open Idl (Stp chk stpA)
theorem fld0 (ds : Array Value) (w : World) : (Instr.field 44 (.agg ds) 1).run Tryz.prog w = .ok (.agg (ds.extract 40 (40 + 36))) w := by kernel_rfl
theorem ixd0 (ds : Array Value) (j : Nat) (hj : j < 3) (w : World) : (Instr.index 39 (.agg ds) (.int .i64 (j : Int))).run Tryz.prog w = .ok (.agg (ds.extract (j * 12) (j * 12 + 12))) w :=
  match j, hj with
  | 0, _ => by kernel_rfl
  | 1, _ => by kernel_rfl
  | 2, _ => by kernel_rfl
theorem ixs0 (ds : Array Value) (j : Nat) (hj : j < 4) (w : World) : (Instr.index 38 (.agg ds) (.int .i64 (j : Int))).run Tryz.prog w = .ok (.agg (ds.extract (j * 3) (j * 3 + 3))) w :=
  match j, hj with
  | 0, _ => by kernel_rfl
  | 1, _ => by kernel_rfl
  | 2, _ => by kernel_rfl
  | 3, _ => by kernel_rfl
namespace Op1
theorem fld_dir {o : Oper} {ρ : Operand → Value} (x : Operand) (ho : o.op = .field 44 x 1) {ds : Array Value} (hx : ρ x = .agg ds) (w : World) : (execOp ρ o).run Tryz.prog w = .ok (.value (.agg (ds.extract 40 (40 + 36)))) w := by
  have q := fld0 ds w
  unfold execOp
  rw [ho]
  simp only [hx, Sem.run_bind, q, Result.andThen_ok, Sem.run_pure]
theorem iv_dir {o : Oper} {ρ : Operand → Value} (x y : Operand) (ho : o.op = .index 39 x y) {ds : Array Value} {j : Nat} (hx : ρ x = .agg ds) (hy : ρ y = .int .i64 (j : Int)) (hj : j < 3) (w : World) : (execOp ρ o).run Tryz.prog w = .ok (.value (.agg (ds.extract (j * 12) (j * 12 + 12)))) w := by
  have q := ixd0 ds j hj w
  unfold execOp
  rw [ho]
  simp only [hx, hy, Sem.run_bind, q, Result.andThen_ok, Sem.run_pure]
theorem iv_slot {o : Oper} {ρ : Operand → Value} (x y : Operand) (ho : o.op = .index 38 x y) {ds : Array Value} {j : Nat} (hx : ρ x = .agg ds) (hy : ρ y = .int .i64 (j : Int)) (hj : j < 4) (w : World) : (execOp ρ o).run Tryz.prog w = .ok (.value (.agg (ds.extract (j * 3) (j * 3 + 3)))) w := by
  have q := ixs0 ds j hj w
  unfold execOp
  rw [ho]
  simp only [hx, hy, Sem.run_bind, q, Result.andThen_ok, Sem.run_pure]
theorem geq0 {o : Oper} {ρ : Operand → Value} (x : Operand) (ho : o.op = .binOp .geq 3 x (.const (.int .i64 0)) 3) {v : Int} (hx : ρ x = .int .i64 v) (hy : ρ (.const (.int .i64 0)) = .int .i64 0) (w : World) : (execOp ρ o).run Tryz.prog w = .ok (.value (.bool (decide (0 ≤ v)))) w := by
  unfold execOp
  rw [ho]
  go_simp
theorem ld_ent {o : Oper} {ρ : Operand → Value} (x : Operand) (ho : o.op = .load 37 x) {g o0 : Nat} (hx : ρ x = .pointer (some ⟨g, o0, none⟩)) {s : ByteArray} {a b : Int} (w : World) (c0 : w.cell? ⟨g, o0, none⟩ = some (.string s)) (c1 : w.cell? ⟨g, o0 + 1, none⟩ = some (.int .i64 a)) (c2 : w.cell? ⟨g, o0 + 2, none⟩ = some (.int .i64 b)) : (execOp ρ o).run Tryz.prog w = .ok (.value (.agg #[.string s, .int .i64 a, .int .i64 b])) w := by
  unfold execOp
  rw [ho]
  go_simp
theorem eq_ent {o : Oper} {ρ : Operand → Value} (x y : Operand) (ho : o.op = .binOp .eql 37 x y 37) {na : ByteArray} {ia sa : Int} {nb : ByteArray} {ib sb : Int} (hx : ρ x = .agg #[.string na, .int .i64 ia, .int .i64 sa]) (hy : ρ y = .agg #[.string nb, .int .i64 ib, .int .i64 sb]) (w : World) : (execOp ρ o).run Tryz.prog w = .ok (.value (.bool (na.toList == nb.toList && ia == ib && sa == sb))) w :=
  run_exec_eql 37 37 x y ho _ _ hx hy _ (by kernel_rfl) (fun w => eqEnt na ia sa nb ib sb w) w
end Op1
theorem ent_cells {ds : Array Value} {k : Img} (h : IsImg ds k) {d s : Nat} (hd : d < 3) (hs : s < 4) : ((ds.extract 40 (40 + 36)).extract (d * 12) (d * 12 + 12)).extract (s * 3) (s * 3 + 3) = #[.string (k.name d s), .int .i64 (k.ino d s), .int .i64 (k.est d s)] := by
  have hz := h.size
  have h0 := h.name d s hd hs
  have h1 := h.ino d s hd hs
  have h2 := h.est d s hd hs
  refine Array.ext_getElem? fun i => ?_
  rw [Array.getElem?_extract, Array.getElem?_extract, Array.getElem?_extract]
  simp only [Array.size_extract, hz]
  by_cases hi : i < 3
  · rw [if_pos (by omega), if_pos (by omega), if_pos (by omega)]
    have : i = 0 ∨ i = 1 ∨ i = 2 := by omega
    rcases this with rfl | rfl | rfl
    · rw [show 40 + (d * 12 + (s * 3 + 0)) = 40 + d * 12 + s * 3 by omega, h0]; rfl
    · rw [show 40 + (d * 12 + (s * 3 + 1)) = 40 + d * 12 + s * 3 + 1 by omega, h1]; rfl
    · rw [show 40 + (d * 12 + (s * 3 + 2)) = 40 + d * 12 + s * 3 + 2 by omega, h2]; rfl
  · rw [if_neg (by omega)]
    simp; omega
def Img.ssure (m k : Img) (d : Int) (s : ByteArray) : Bool := decide (0 ≤ m.findAt d s.toList) && Img.sameEnt m k d.toNat (m.findAt d s.toList).toNat
section
variable {w : World} {bf bc : Nat} {cs ds : Array Value} {m k : Img} {last : Int}
set_option maxHeartbeats 2000000 in
set_option maxRecDepth 100000 in
theorem sSure_any (h : Fl w bf bc cs ds m k last) (d : Int) (s : ByteArray) :
    Calls Tryz.prog 33 #[.pointer (some ⟨bf, 0, none⟩), .int .i64 d, .string s] w fun e w' => e = .returned (.bool (Img.ssure m k d s)) ∧ Below w.heap.size w w' := by
  have C1 := hide (At.find_any bc m d s w h.hasNow)
  have HFL := hide h
  have p0 := h.ptr
  have l0 := h.flt
  have l1 := h.clt
  have BD := hide ((Below.refl w.heap.size w).drew)
  have SD := hide (show PS2 bf bc m w.drew from ⟨(h.below (unhide BD)).ptr, (h.below (unhide BD)).hasNow⟩)
  by_cases hf : m.findAt d s.toList < 0
  · have e1 : Img.ssure m k d s = false := by unfold Img.ssure; rw [show decide (0 ≤ m.findAt d s.toList) = false by simp; omega]; rfl
    rw [e1]
    have u1 : decide (0 ≤ m.findAt d s.toList) = false := by simp; omega
    have U1 := hide u1
    generalize m.findAt d s.toList = v at C1 U1
    clear hf h e1 u1
    go_enter Tryz.func33, Tryz.ntmps33
    go_wp2_with fail
    refine (unhide C1).mono ?_
    rintro e wq ⟨rfl, e9⟩
    rw [e9]
    clear e9 wq p0 l0 l1
    go_wp2_with fail
    refine wp_region_held_drew (S := PS2 bf bc m) (by kernel_rfl) (unhide SD) (fun hS => ?_)
    refine wpAnyH_take (i := 0) (oi := { dst := some 17, op := Op.move (Operand.tmp 7), type := 3, pos := "soft.go:99", after := #[], guard := none }) (v := .int .i64 v) rfl (by kernel_rfl) (by kernel_rfl) (by kernel_rfl) (fun _ _ _ h => h) (Or.inl ⟨by kernel_rfl, fun W h => (by first | kernel_rfl | go_simp)⟩) hS ?_
    try simp only [Act.put, List.setIfInBounds_toArray, List.set_cons_zero, List.set_cons_succ]
    refine wpAnyH_take (i := 1) (oi := { dst := some 18, op := Op.binOp BinOp.geq 3 (Operand.tmp 17) (Operand.const (Value.int IntKind.i64 0)) 3, type := 4, pos := "soft.go:99", after := #[{ on := 0, ground := Ground.data }], guard := none }) (v := .bool false) rfl (by kernel_rfl) (by kernel_rfl) (by kernel_rfl) (fun _ _ _ h => h) (Or.inl ⟨by kernel_rfl, fun W h => (by rw [← unhide U1]; exact Op1.geq0 (.tmp 17) (by kernel_rfl) (by kernel_rfl) (by kernel_rfl) W)⟩) hS ?_
    try simp only [Act.put, List.setIfInBounds_toArray, List.set_cons_zero, List.set_cons_succ]
    refine wpAnyH_take (i := 2) (oi := { dst := some 19, op := Op.move (Operand.tmp 18), type := 4, pos := "soft.go:99", after := #[{ on := 1, ground := Ground.data }], guard := none }) (v := .bool false) rfl (by kernel_rfl) (by kernel_rfl) (by kernel_rfl) (fun _ _ _ h => h) (Or.inl ⟨by kernel_rfl, fun W h => (by first | kernel_rfl | go_simp)⟩) hS ?_
    try simp only [Act.put, List.setIfInBounds_toArray, List.set_cons_zero, List.set_cons_succ]
    refine wpAnyH_take (i := 3) (oi := { dst := some 20, op := Op.move (Operand.tmp 0), type := 46, pos := "soft.go:99", after := #[{ on := 2, ground := Ground.guard }], guard := some (2, true) }) (v := undef) rfl (by kernel_rfl) (by kernel_rfl) (by kernel_rfl) (fun _ _ _ h => h) (Or.inr ⟨by kernel_rfl, rfl⟩) hS ?_
    try simp only [Act.put, List.setIfInBounds_toArray, List.set_cons_zero, List.set_cons_succ]
    refine wpAnyH_take (i := 4) (oi := { dst := some 21, op := Op.nilCheck (Operand.tmp 20), type := 0, pos := "soft.go:99", after := #[{ on := 3, ground := Ground.data }, { on := 2, ground := Ground.guard }], guard := some (2, true) }) (v := undef) rfl (by kernel_rfl) (by kernel_rfl) (by kernel_rfl) (fun _ _ _ h => h) (Or.inr ⟨by kernel_rfl, rfl⟩) hS ?_
    try simp only [Act.put, List.setIfInBounds_toArray, List.set_cons_zero, List.set_cons_succ]
    refine wpAnyH_take (i := 5) (oi := { dst := some 22, op := Op.fieldAddr 53 (Operand.tmp 21) 0, type := 0, pos := "soft.go:99", after := #[{ on := 4, ground := Ground.data }, { on := 2, ground := Ground.guard }], guard := some (2, true) }) (v := undef) rfl (by kernel_rfl) (by kernel_rfl) (by kernel_rfl) (fun _ _ _ h => h) (Or.inr ⟨by kernel_rfl, rfl⟩) hS ?_
    try simp only [Act.put, List.setIfInBounds_toArray, List.set_cons_zero, List.set_cons_succ]
    refine wpAnyH_take (i := 6) (oi := { dst := some 23, op := Op.load 51 (Operand.tmp 22), type := 51, pos := "soft.go:99", after := #[{ on := 5, ground := Ground.data }, { on := 2, ground := Ground.guard }], guard := some (2, true) }) (v := undef) rfl (by kernel_rfl) (by kernel_rfl) (by kernel_rfl) (fun _ _ _ h => h) (Or.inr ⟨by kernel_rfl, rfl⟩) hS ?_
    try simp only [Act.put, List.setIfInBounds_toArray, List.set_cons_zero, List.set_cons_succ]
    refine wpAnyH_take (i := 7) (oi := { dst := some 24, op := Op.move (Operand.tmp 1), type := 3, pos := "soft.go:99", after := #[{ on := 2, ground := Ground.guard }], guard := some (2, true) }) (v := undef) rfl (by kernel_rfl) (by kernel_rfl) (by kernel_rfl) (fun _ _ _ h => h) (Or.inr ⟨by kernel_rfl, rfl⟩) hS ?_
    try simp only [Act.put, List.setIfInBounds_toArray, List.set_cons_zero, List.set_cons_succ]
    refine wpAnyH_take (i := 8) (oi := { dst := some 25, op := Op.move (Operand.tmp 7), type := 3, pos := "soft.go:99", after := #[{ on := 2, ground := Ground.guard }], guard := some (2, true) }) (v := undef) rfl (by kernel_rfl) (by kernel_rfl) (by kernel_rfl) (fun _ _ _ h => h) (Or.inr ⟨by kernel_rfl, rfl⟩) hS ?_
    try simp only [Act.put, List.setIfInBounds_toArray, List.set_cons_zero, List.set_cons_succ]
    refine wpAnyH_take (i := 9) (oi := { dst := some 26, op := Op.nilCheck (Operand.tmp 23), type := 0, pos := "soft.go:99", after := #[{ on := 6, ground := Ground.data }, { on := 2, ground := Ground.guard }], guard := some (2, true) }) (v := undef) rfl (by kernel_rfl) (by kernel_rfl) (by kernel_rfl) (fun _ _ _ h => h) (Or.inr ⟨by kernel_rfl, rfl⟩) hS ?_
    try simp only [Act.put, List.setIfInBounds_toArray, List.set_cons_zero, List.set_cons_succ]
    refine wpAnyH_take (i := 10) (oi := { dst := some 27, op := Op.fieldAddr 57 (Operand.tmp 26) 0, type := 0, pos := "soft.go:99", after := #[{ on := 9, ground := Ground.data }, { on := 2, ground := Ground.guard }], guard := some (2, true) }) (v := undef) rfl (by kernel_rfl) (by kernel_rfl) (by kernel_rfl) (fun _ _ _ h => h) (Or.inr ⟨by kernel_rfl, rfl⟩) hS ?_
    try simp only [Act.put, List.setIfInBounds_toArray, List.set_cons_zero, List.set_cons_succ]
    refine wpAnyH_take (i := 11) (oi := { dst := some 28, op := Op.fieldAddr 44 (Operand.tmp 27) 1, type := 0, pos := "soft.go:99", after := #[{ on := 10, ground := Ground.data }, { on := 2, ground := Ground.guard }], guard := some (2, true) }) (v := undef) rfl (by kernel_rfl) (by kernel_rfl) (by kernel_rfl) (fun _ _ _ h => h) (Or.inr ⟨by kernel_rfl, rfl⟩) hS ?_
    try simp only [Act.put, List.setIfInBounds_toArray, List.set_cons_zero, List.set_cons_succ]
    refine wpAnyH_take (i := 12) (oi := { dst := some 29, op := Op.indexAddr 39 (Operand.tmp 28) (Operand.tmp 24), type := 0, pos := "soft.go:99", after := #[{ on := 11, ground := Ground.data }, { on := 7, ground := Ground.data }, { on := 2, ground := Ground.guard }], guard := some (2, true) }) (v := undef) rfl (by kernel_rfl) (by kernel_rfl) (by kernel_rfl) (fun _ _ _ h => h) (Or.inr ⟨by kernel_rfl, rfl⟩) hS ?_
    try simp only [Act.put, List.setIfInBounds_toArray, List.set_cons_zero, List.set_cons_succ]
    refine wpAnyH_take (i := 13) (oi := { dst := some 30, op := Op.indexAddr 38 (Operand.tmp 29) (Operand.tmp 25), type := 0, pos := "soft.go:99", after := #[{ on := 12, ground := Ground.data }, { on := 8, ground := Ground.data }, { on := 2, ground := Ground.guard }], guard := some (2, true) }) (v := undef) rfl (by kernel_rfl) (by kernel_rfl) (by kernel_rfl) (fun _ _ _ h => h) (Or.inr ⟨by kernel_rfl, rfl⟩) hS ?_
    try simp only [Act.put, List.setIfInBounds_toArray, List.set_cons_zero, List.set_cons_succ]
    refine wpAnyH_take (i := 14) (oi := { dst := some 31, op := Op.load 37 (Operand.tmp 30), type := 37, pos := "soft.go:99", after := #[{ on := 13, ground := Ground.data }, { on := 2, ground := Ground.guard }], guard := some (2, true) }) (v := undef) rfl (by kernel_rfl) (by kernel_rfl) (by kernel_rfl) (fun _ _ _ h => h) (Or.inr ⟨by kernel_rfl, rfl⟩) hS ?_
    try simp only [Act.put, List.setIfInBounds_toArray, List.set_cons_zero, List.set_cons_succ]
    refine wpAnyH_take (i := 15) (oi := { dst := some 32, op := Op.move (Operand.tmp 0), type := 46, pos := "soft.go:99", after := #[{ on := 2, ground := Ground.guard }], guard := some (2, true) }) (v := undef) rfl (by kernel_rfl) (by kernel_rfl) (by kernel_rfl) (fun _ _ _ h => h) (Or.inr ⟨by kernel_rfl, rfl⟩) hS ?_
    try simp only [Act.put, List.setIfInBounds_toArray, List.set_cons_zero, List.set_cons_succ]
    refine wpAnyH_take (i := 16) (oi := { dst := some 33, op := Op.nilCheck (Operand.tmp 32), type := 0, pos := "soft.go:99", after := #[{ on := 15, ground := Ground.data }, { on := 2, ground := Ground.guard }], guard := some (2, true) }) (v := undef) rfl (by kernel_rfl) (by kernel_rfl) (by kernel_rfl) (fun _ _ _ h => h) (Or.inr ⟨by kernel_rfl, rfl⟩) hS ?_
    try simp only [Act.put, List.setIfInBounds_toArray, List.set_cons_zero, List.set_cons_succ]
    refine wpAnyH_take (i := 17) (oi := { dst := some 34, op := Op.fieldAddr 53 (Operand.tmp 33) 0, type := 0, pos := "soft.go:99", after := #[{ on := 16, ground := Ground.data }, { on := 2, ground := Ground.guard }], guard := some (2, true) }) (v := undef) rfl (by kernel_rfl) (by kernel_rfl) (by kernel_rfl) (fun _ _ _ h => h) (Or.inr ⟨by kernel_rfl, rfl⟩) hS ?_
    try simp only [Act.put, List.setIfInBounds_toArray, List.set_cons_zero, List.set_cons_succ]
    refine wpAnyH_take (i := 18) (oi := { dst := some 35, op := Op.load 51 (Operand.tmp 34), type := 51, pos := "soft.go:99", after := #[{ on := 17, ground := Ground.data }, { on := 2, ground := Ground.guard }], guard := some (2, true) }) (v := undef) rfl (by kernel_rfl) (by kernel_rfl) (by kernel_rfl) (fun _ _ _ h => h) (Or.inr ⟨by kernel_rfl, rfl⟩) hS ?_
    try simp only [Act.put, List.setIfInBounds_toArray, List.set_cons_zero, List.set_cons_succ]
    refine wpAnyH_take (i := 19) (oi := { dst := some 36, op := Op.call { callee := Callee.value (Operand.func 18), args := #[Operand.tmp 35], argTypes := #[51] }, type := 44, pos := "soft.go:99", after := #[{ on := 18, ground := Ground.data }, { on := 2, ground := Ground.chain }, { on := 2, ground := Ground.guard }], guard := some (2, true) }) (v := undef) rfl (by kernel_rfl) (by kernel_rfl) (by kernel_rfl) (fun _ _ _ h => h) (Or.inr ⟨by kernel_rfl, rfl⟩) hS ?_
    try simp only [Act.put, List.setIfInBounds_toArray, List.set_cons_zero, List.set_cons_succ]
    refine wpAnyH_take (i := 20) (oi := { dst := some 37, op := Op.field 44 (Operand.tmp 36) 1, type := 39, pos := "soft.go:99", after := #[{ on := 19, ground := Ground.data }, { on := 2, ground := Ground.guard }], guard := some (2, true) }) (v := undef) rfl (by kernel_rfl) (by kernel_rfl) (by kernel_rfl) (fun _ _ _ h => h) (Or.inr ⟨by kernel_rfl, rfl⟩) hS ?_
    try simp only [Act.put, List.setIfInBounds_toArray, List.set_cons_zero, List.set_cons_succ]
    refine wpAnyH_take (i := 21) (oi := { dst := some 38, op := Op.move (Operand.tmp 1), type := 3, pos := "soft.go:99", after := #[{ on := 2, ground := Ground.guard }], guard := some (2, true) }) (v := undef) rfl (by kernel_rfl) (by kernel_rfl) (by kernel_rfl) (fun _ _ _ h => h) (Or.inr ⟨by kernel_rfl, rfl⟩) hS ?_
    try simp only [Act.put, List.setIfInBounds_toArray, List.set_cons_zero, List.set_cons_succ]
    refine wpAnyH_take (i := 22) (oi := { dst := some 39, op := Op.index 39 (Operand.tmp 37) (Operand.tmp 38), type := 38, pos := "soft.go:99", after := #[{ on := 20, ground := Ground.data }, { on := 21, ground := Ground.data }, { on := 2, ground := Ground.guard }], guard := some (2, true) }) (v := undef) rfl (by kernel_rfl) (by kernel_rfl) (by kernel_rfl) (fun _ _ _ h => h) (Or.inr ⟨by kernel_rfl, rfl⟩) hS ?_
    try simp only [Act.put, List.setIfInBounds_toArray, List.set_cons_zero, List.set_cons_succ]
    refine wpAnyH_take (i := 23) (oi := { dst := some 40, op := Op.move (Operand.tmp 7), type := 3, pos := "soft.go:99", after := #[{ on := 2, ground := Ground.guard }], guard := some (2, true) }) (v := undef) rfl (by kernel_rfl) (by kernel_rfl) (by kernel_rfl) (fun _ _ _ h => h) (Or.inr ⟨by kernel_rfl, rfl⟩) hS ?_
    try simp only [Act.put, List.setIfInBounds_toArray, List.set_cons_zero, List.set_cons_succ]
    refine wpAnyH_take (i := 24) (oi := { dst := some 41, op := Op.index 38 (Operand.tmp 39) (Operand.tmp 40), type := 37, pos := "soft.go:99", after := #[{ on := 22, ground := Ground.data }, { on := 23, ground := Ground.data }, { on := 2, ground := Ground.guard }], guard := some (2, true) }) (v := undef) rfl (by kernel_rfl) (by kernel_rfl) (by kernel_rfl) (fun _ _ _ h => h) (Or.inr ⟨by kernel_rfl, rfl⟩) hS ?_
    try simp only [Act.put, List.setIfInBounds_toArray, List.set_cons_zero, List.set_cons_succ]
    refine wpAnyH_take (i := 25) (oi := { dst := some 42, op := Op.binOp BinOp.eql 37 (Operand.tmp 31) (Operand.tmp 41) 37, type := 4, pos := "soft.go:99", after := #[{ on := 14, ground := Ground.data }, { on := 24, ground := Ground.data }, { on := 2, ground := Ground.guard }], guard := some (2, true) }) (v := undef) rfl (by kernel_rfl) (by kernel_rfl) (by kernel_rfl) (fun _ _ _ h => h) (Or.inr ⟨by kernel_rfl, rfl⟩) hS ?_
    try simp only [Act.put, List.setIfInBounds_toArray, List.set_cons_zero, List.set_cons_succ]
    refine wpAnyH_take (i := 26) (oi := { dst := some 43, op := Op.pick (Operand.tmp 19) (Operand.tmp 42) (Operand.const (Value.bool false)), type := 4, pos := "soft.go:99", after := #[{ on := 2, ground := Ground.data }, { on := 25, ground := Ground.data }], guard := none }) (v := .bool false) rfl (by kernel_rfl) (by kernel_rfl) (by kernel_rfl) (fun _ _ _ h => h) (Or.inl ⟨by kernel_rfl, fun W h => (by first | kernel_rfl | go_simp)⟩) hS ?_
    try simp only [Act.put, List.setIfInBounds_toArray, List.set_cons_zero, List.set_cons_succ]
    refine wpAnyH_take (i := 27) (oi := { dst := some 6, op := Op.assign (Operand.tmp 43), type := 4, pos := "soft.go:99", after := #[{ on := 26, ground := Ground.data }, { on := 19, ground := Ground.chain }, { on := 0, ground := Ground.phase }, { on := 1, ground := Ground.phase }, { on := 2, ground := Ground.phase }, { on := 3, ground := Ground.phase }, { on := 4, ground := Ground.phase }, { on := 5, ground := Ground.phase }, { on := 6, ground := Ground.phase }, { on := 7, ground := Ground.phase }, { on := 8, ground := Ground.phase }, { on := 9, ground := Ground.phase }, { on := 10, ground := Ground.phase }, { on := 11, ground := Ground.phase }, { on := 12, ground := Ground.phase }, { on := 13, ground := Ground.phase }, { on := 14, ground := Ground.phase }, { on := 15, ground := Ground.phase }, { on := 16, ground := Ground.phase }, { on := 17, ground := Ground.phase }, { on := 18, ground := Ground.phase }, { on := 19, ground := Ground.phase }, { on := 20, ground := Ground.phase }, { on := 21, ground := Ground.phase }, { on := 22, ground := Ground.phase }, { on := 23, ground := Ground.phase }, { on := 24, ground := Ground.phase }, { on := 25, ground := Ground.phase }, { on := 26, ground := Ground.phase }], guard := none }) (v := .bool false) rfl (by kernel_rfl) (by kernel_rfl) (by kernel_rfl) (fun _ _ _ h => h) (Or.inl ⟨by kernel_rfl, fun W h => (by first | kernel_rfl | go_simp)⟩) hS ?_
    try simp only [Act.put, List.setIfInBounds_toArray, List.set_cons_zero, List.set_cons_succ]
    refine wpAnyH_done (by kernel_rfl) ?_ _
    clear hS
    go_wp2_with fail
    go_ret
    exact ⟨rfl, unhide BD⟩
  · obtain ⟨⟨d0, d3⟩, _, j, hj, e1, _, _⟩ := Img.findAt_some (Int.not_lt.1 hf)
    obtain ⟨dd, rfl⟩ := Int.eq_ofNat_of_zero_le d0
    have hd : dd < 3 := by omega
    have e2 : Img.ssure m k (dd : Int) s = ((m.name dd j).toList == (k.name dd j).toList && m.ino dd j == k.ino dd j && m.est dd j == k.est dd j) := by unfold Img.ssure; rw [e1, Int.toNat_natCast, Int.toNat_natCast, show decide (0 ≤ (j : Int)) = true by simp]; rfl
    rw [e2]
    rw [e1] at C1
    have HK := hide (ent_cells h.disk hd hj)
    have C2 := hide fun W (bW : Below w.heap.size w W) => disk_any bc cs ds m k h.now h.disk W (h.below bW).row
    have U1 := hide (show decide (0 ≤ (j : Int)) = true by simp)
    clear hf h e1 e2 d0 d3
    go_enter Tryz.func33, Tryz.ntmps33
    go_wp2_with fail
    refine (unhide C1).mono ?_
    rintro e wq ⟨rfl, e9⟩
    rw [e9]
    clear e9 wq p0 l0 l1
    go_wp2_with fail
    refine wp_region_held_drew (S := PS2 bf bc m) (by kernel_rfl) (unhide SD) (fun hS => ?_)
    refine wpAnyH_take (i := 0) (oi := { dst := some 17, op := Op.move (Operand.tmp 7), type := 3, pos := "soft.go:99", after := #[], guard := none }) (v := .int .i64 (j : Int)) rfl (by kernel_rfl) (by kernel_rfl) (by kernel_rfl) (fun _ _ _ h => h) (Or.inl ⟨by kernel_rfl, fun W h => (by first | kernel_rfl | go_simp)⟩) hS ?_
    try simp only [Act.put, List.setIfInBounds_toArray, List.set_cons_zero, List.set_cons_succ]
    refine wpAnyH_take (i := 1) (oi := { dst := some 18, op := Op.binOp BinOp.geq 3 (Operand.tmp 17) (Operand.const (Value.int IntKind.i64 0)) 3, type := 4, pos := "soft.go:99", after := #[{ on := 0, ground := Ground.data }], guard := none }) (v := .bool true) rfl (by kernel_rfl) (by kernel_rfl) (by kernel_rfl) (fun _ _ _ h => h) (Or.inl ⟨by kernel_rfl, fun W h => (by rw [← unhide U1]; exact Op1.geq0 (.tmp 17) (by kernel_rfl) (by kernel_rfl) (by kernel_rfl) W)⟩) hS ?_
    try simp only [Act.put, List.setIfInBounds_toArray, List.set_cons_zero, List.set_cons_succ]
    refine wpAnyH_take (i := 2) (oi := { dst := some 19, op := Op.move (Operand.tmp 18), type := 4, pos := "soft.go:99", after := #[{ on := 1, ground := Ground.data }], guard := none }) (v := .bool true) rfl (by kernel_rfl) (by kernel_rfl) (by kernel_rfl) (fun _ _ _ h => h) (Or.inl ⟨by kernel_rfl, fun W h => (by first | kernel_rfl | go_simp)⟩) hS ?_
    try simp only [Act.put, List.setIfInBounds_toArray, List.set_cons_zero, List.set_cons_succ]
    refine wpAnyH_take (i := 3) (oi := { dst := some 20, op := Op.move (Operand.tmp 0), type := 46, pos := "soft.go:99", after := #[{ on := 2, ground := Ground.guard }], guard := some (2, true) }) (v := .pointer (some ⟨bf, 0, none⟩)) rfl (by kernel_rfl) (by kernel_rfl) (by kernel_rfl) (fun _ _ _ h => h) (Or.inl ⟨by kernel_rfl, fun W h => (by first | kernel_rfl | go_simp)⟩) hS ?_
    try simp only [Act.put, List.setIfInBounds_toArray, List.set_cons_zero, List.set_cons_succ]
    refine wpAnyH_take (i := 4) (oi := { dst := some 21, op := Op.nilCheck (Operand.tmp 20), type := 0, pos := "soft.go:99", after := #[{ on := 3, ground := Ground.data }, { on := 2, ground := Ground.guard }], guard := some (2, true) }) (v := .pointer (some ⟨bf, 0, none⟩)) rfl (by kernel_rfl) (by kernel_rfl) (by kernel_rfl) (fun _ _ _ h => h) (Or.inl ⟨by kernel_rfl, fun W h => (by first | kernel_rfl | go_simp)⟩) hS ?_
    try simp only [Act.put, List.setIfInBounds_toArray, List.set_cons_zero, List.set_cons_succ]
    refine wpAnyH_take (i := 5) (oi := { dst := some 22, op := Op.fieldAddr 53 (Operand.tmp 21) 0, type := 0, pos := "soft.go:99", after := #[{ on := 4, ground := Ground.data }, { on := 2, ground := Ground.guard }], guard := some (2, true) }) (v := .pointer (some ⟨bf, 0, none⟩)) rfl (by kernel_rfl) (by kernel_rfl) (by kernel_rfl) (fun _ _ _ h => h) (Or.inl ⟨by kernel_rfl, fun W h => (by first | kernel_rfl | go_simp)⟩) hS ?_
    try simp only [Act.put, List.setIfInBounds_toArray, List.set_cons_zero, List.set_cons_succ]
    refine wpAnyH_take (i := 6) (oi := { dst := some 23, op := Op.load 51 (Operand.tmp 22), type := 51, pos := "soft.go:99", after := #[{ on := 5, ground := Ground.data }, { on := 2, ground := Ground.guard }], guard := some (2, true) }) (v := .pointer (some ⟨bc, 0, none⟩)) rfl (by kernel_rfl) (by kernel_rfl) (by kernel_rfl) (fun _ _ _ h => h) (Or.inl ⟨by kernel_rfl, fun W h => Op1.ld_ptr (.tmp 22) (by kernel_rfl) (by kernel_rfl) W (h.1)⟩) hS ?_
    try simp only [Act.put, List.setIfInBounds_toArray, List.set_cons_zero, List.set_cons_succ]
    refine wpAnyH_take (i := 7) (oi := { dst := some 24, op := Op.move (Operand.tmp 1), type := 3, pos := "soft.go:99", after := #[{ on := 2, ground := Ground.guard }], guard := some (2, true) }) (v := .int .i64 (dd : Int)) rfl (by kernel_rfl) (by kernel_rfl) (by kernel_rfl) (fun _ _ _ h => h) (Or.inl ⟨by kernel_rfl, fun W h => (by first | kernel_rfl | go_simp)⟩) hS ?_
    try simp only [Act.put, List.setIfInBounds_toArray, List.set_cons_zero, List.set_cons_succ]
    refine wpAnyH_take (i := 8) (oi := { dst := some 25, op := Op.move (Operand.tmp 7), type := 3, pos := "soft.go:99", after := #[{ on := 2, ground := Ground.guard }], guard := some (2, true) }) (v := .int .i64 (j : Int)) rfl (by kernel_rfl) (by kernel_rfl) (by kernel_rfl) (fun _ _ _ h => h) (Or.inl ⟨by kernel_rfl, fun W h => (by first | kernel_rfl | go_simp)⟩) hS ?_
    try simp only [Act.put, List.setIfInBounds_toArray, List.set_cons_zero, List.set_cons_succ]
    refine wpAnyH_take (i := 9) (oi := { dst := some 26, op := Op.nilCheck (Operand.tmp 23), type := 0, pos := "soft.go:99", after := #[{ on := 6, ground := Ground.data }, { on := 2, ground := Ground.guard }], guard := some (2, true) }) (v := .pointer (some ⟨bc, 0, none⟩)) rfl (by kernel_rfl) (by kernel_rfl) (by kernel_rfl) (fun _ _ _ h => h) (Or.inl ⟨by kernel_rfl, fun W h => (by first | kernel_rfl | go_simp)⟩) hS ?_
    try simp only [Act.put, List.setIfInBounds_toArray, List.set_cons_zero, List.set_cons_succ]
    refine wpAnyH_take (i := 10) (oi := { dst := some 27, op := Op.fieldAddr 57 (Operand.tmp 26) 0, type := 0, pos := "soft.go:99", after := #[{ on := 9, ground := Ground.data }, { on := 2, ground := Ground.guard }], guard := some (2, true) }) (v := .pointer (some ⟨bc, 0, none⟩)) rfl (by kernel_rfl) (by kernel_rfl) (by kernel_rfl) (fun _ _ _ h => h) (Or.inl ⟨by kernel_rfl, fun W h => (by first | kernel_rfl | go_simp)⟩) hS ?_
    try simp only [Act.put, List.setIfInBounds_toArray, List.set_cons_zero, List.set_cons_succ]
    refine wpAnyH_take (i := 11) (oi := { dst := some 28, op := Op.fieldAddr 44 (Operand.tmp 27) 1, type := 0, pos := "soft.go:99", after := #[{ on := 10, ground := Ground.data }, { on := 2, ground := Ground.guard }], guard := some (2, true) }) (v := .pointer (some ⟨bc, 40, none⟩)) rfl (by kernel_rfl) (by kernel_rfl) (by kernel_rfl) (fun _ _ _ h => h) (Or.inl ⟨by kernel_rfl, fun W h => (by first | kernel_rfl | go_simp)⟩) hS ?_
    try simp only [Act.put, List.setIfInBounds_toArray, List.set_cons_zero, List.set_cons_succ]
    refine wpAnyH_take (i := 12) (oi := { dst := some 29, op := Op.indexAddr 39 (Operand.tmp 28) (Operand.tmp 24), type := 0, pos := "soft.go:99", after := #[{ on := 11, ground := Ground.data }, { on := 7, ground := Ground.data }, { on := 2, ground := Ground.guard }], guard := some (2, true) }) (v := .pointer (some ⟨bc, 40 + dd * 12, none⟩)) rfl (by kernel_rfl) (by kernel_rfl) (by kernel_rfl) (fun _ _ _ h => h) (Or.inl ⟨by kernel_rfl, fun W h => Op1.ix_dir (.tmp 28) (.tmp 24) (by kernel_rfl) (by kernel_rfl) (by kernel_rfl) (hd) W⟩) hS ?_
    try simp only [Act.put, List.setIfInBounds_toArray, List.set_cons_zero, List.set_cons_succ]
    refine wpAnyH_take (i := 13) (oi := { dst := some 30, op := Op.indexAddr 38 (Operand.tmp 29) (Operand.tmp 25), type := 0, pos := "soft.go:99", after := #[{ on := 12, ground := Ground.data }, { on := 8, ground := Ground.data }, { on := 2, ground := Ground.guard }], guard := some (2, true) }) (v := .pointer (some ⟨bc, 40 + dd * 12 + j * 3, none⟩)) rfl (by kernel_rfl) (by kernel_rfl) (by kernel_rfl) (fun _ _ _ h => h) (Or.inl ⟨by kernel_rfl, fun W h => Op1.ix_slot (.tmp 29) (.tmp 25) (by kernel_rfl) (by kernel_rfl) (by kernel_rfl) (hj) W⟩) hS ?_
    try simp only [Act.put, List.setIfInBounds_toArray, List.set_cons_zero, List.set_cons_succ]
    refine wpAnyH_take (i := 14) (oi := { dst := some 31, op := Op.load 37 (Operand.tmp 30), type := 37, pos := "soft.go:99", after := #[{ on := 13, ground := Ground.data }, { on := 2, ground := Ground.guard }], guard := some (2, true) }) (v := .agg #[.string (m.name dd j), .int .i64 (m.ino dd j), .int .i64 (m.est dd j)]) rfl (by kernel_rfl) (by kernel_rfl) (by kernel_rfl) (fun _ _ _ h => h) (Or.inl ⟨by kernel_rfl, fun W h => Op1.ld_ent (.tmp 30) (by kernel_rfl) (by kernel_rfl) W (by have := h.2.name dd j hd hj; simp only [Nat.zero_add] at this; exact this) (by have := h.2.ino dd j hd hj; simp only [Nat.zero_add] at this; exact this) (by have := h.2.est dd j hd hj; simp only [Nat.zero_add] at this; exact this)⟩) hS ?_
    try simp only [Act.put, List.setIfInBounds_toArray, List.set_cons_zero, List.set_cons_succ]
    refine wpAnyH_take (i := 15) (oi := { dst := some 32, op := Op.move (Operand.tmp 0), type := 46, pos := "soft.go:99", after := #[{ on := 2, ground := Ground.guard }], guard := some (2, true) }) (v := .pointer (some ⟨bf, 0, none⟩)) rfl (by kernel_rfl) (by kernel_rfl) (by kernel_rfl) (fun _ _ _ h => h) (Or.inl ⟨by kernel_rfl, fun W h => (by first | kernel_rfl | go_simp)⟩) hS ?_
    try simp only [Act.put, List.setIfInBounds_toArray, List.set_cons_zero, List.set_cons_succ]
    refine wpAnyH_take (i := 16) (oi := { dst := some 33, op := Op.nilCheck (Operand.tmp 32), type := 0, pos := "soft.go:99", after := #[{ on := 15, ground := Ground.data }, { on := 2, ground := Ground.guard }], guard := some (2, true) }) (v := .pointer (some ⟨bf, 0, none⟩)) rfl (by kernel_rfl) (by kernel_rfl) (by kernel_rfl) (fun _ _ _ h => h) (Or.inl ⟨by kernel_rfl, fun W h => (by first | kernel_rfl | go_simp)⟩) hS ?_
    try simp only [Act.put, List.setIfInBounds_toArray, List.set_cons_zero, List.set_cons_succ]
    refine wpAnyH_take (i := 17) (oi := { dst := some 34, op := Op.fieldAddr 53 (Operand.tmp 33) 0, type := 0, pos := "soft.go:99", after := #[{ on := 16, ground := Ground.data }, { on := 2, ground := Ground.guard }], guard := some (2, true) }) (v := .pointer (some ⟨bf, 0, none⟩)) rfl (by kernel_rfl) (by kernel_rfl) (by kernel_rfl) (fun _ _ _ h => h) (Or.inl ⟨by kernel_rfl, fun W h => (by first | kernel_rfl | go_simp)⟩) hS ?_
    try simp only [Act.put, List.setIfInBounds_toArray, List.set_cons_zero, List.set_cons_succ]
    refine wpAnyH_take (i := 18) (oi := { dst := some 35, op := Op.load 51 (Operand.tmp 34), type := 51, pos := "soft.go:99", after := #[{ on := 17, ground := Ground.data }, { on := 2, ground := Ground.guard }], guard := some (2, true) }) (v := .pointer (some ⟨bc, 0, none⟩)) rfl (by kernel_rfl) (by kernel_rfl) (by kernel_rfl) (fun _ _ _ h => h) (Or.inl ⟨by kernel_rfl, fun W h => Op1.ld_ptr (.tmp 34) (by kernel_rfl) (by kernel_rfl) W (h.1)⟩) hS ?_
    try simp only [Act.put, List.setIfInBounds_toArray, List.set_cons_zero, List.set_cons_succ]
    refine wpAnyH_take (i := 21) (oi := { dst := some 38, op := Op.move (Operand.tmp 1), type := 3, pos := "soft.go:99", after := #[{ on := 2, ground := Ground.guard }], guard := some (2, true) }) (v := .int .i64 (dd : Int)) rfl (by kernel_rfl) (by kernel_rfl) (by kernel_rfl) (fun _ _ _ h => h) (Or.inl ⟨by kernel_rfl, fun W h => (by first | kernel_rfl | go_simp)⟩) hS ?_
    try simp only [Act.put, List.setIfInBounds_toArray, List.set_cons_zero, List.set_cons_succ]
    refine wpAnyH_take (i := 23) (oi := { dst := some 40, op := Op.move (Operand.tmp 7), type := 3, pos := "soft.go:99", after := #[{ on := 2, ground := Ground.guard }], guard := some (2, true) }) (v := .int .i64 (j : Int)) rfl (by kernel_rfl) (by kernel_rfl) (by kernel_rfl) (fun _ _ _ h => h) (Or.inl ⟨by kernel_rfl, fun W h => (by first | kernel_rfl | go_simp)⟩) hS ?_
    try simp only [Act.put, List.setIfInBounds_toArray, List.set_cons_zero, List.set_cons_succ]
    generalize World.drew _ = W0 at hS BD ⊢
    refine wpAnyH_ready (rs := [19]) (by kernel_rfl) (by simp) ?_
    refine AllReadyH.cons (o := { dst := some 36, op := Op.call { callee := Callee.value (Operand.func 18), args := #[Operand.tmp 35], argTypes := #[51] }, type := 44, pos := "soft.go:99", after := #[{ on := 18, ground := Ground.data }, { on := 2, ground := Ground.chain }, { on := 2, ground := Ground.guard }], guard := some (2, true) }) rfl (fun K hK => ?_) AllReadyH.nil
    rw [if_pos (by kernel_rfl)]
    go_simp
    refine (unhide C2 W0 (unhide BD)).mono ?_
    rintro e w2 ⟨rfl, b2⟩
    have B2 := hide ((unhide BD).trans (b2.mono (unhide BD).size))
    clear b2
    go_wp2_with fail
    refine hK.out _ _ (⟨((unhide HFL).below (unhide B2)).ptr, ((unhide HFL).below (unhide B2)).hasNow⟩) (fun hS1 => ?_)
    clear hK K
    try simp only [Act.put, List.setIfInBounds_toArray, List.set_cons_zero, List.set_cons_succ]
    refine wpAnyH_take (i := 20) (oi := { dst := some 37, op := Op.field 44 (Operand.tmp 36) 1, type := 39, pos := "soft.go:99", after := #[{ on := 19, ground := Ground.data }, { on := 2, ground := Ground.guard }], guard := some (2, true) }) (v := .agg (ds.extract 40 (40 + 36))) rfl (by kernel_rfl) (by kernel_rfl) (by kernel_rfl) (fun _ _ _ h => h) (Or.inl ⟨by kernel_rfl, fun W h => Op1.fld_dir (.tmp 36) (by kernel_rfl) (by kernel_rfl) W⟩) hS1 ?_
    try simp only [Act.put, List.setIfInBounds_toArray, List.set_cons_zero, List.set_cons_succ]
    refine wpAnyH_take (i := 22) (oi := { dst := some 39, op := Op.index 39 (Operand.tmp 37) (Operand.tmp 38), type := 38, pos := "soft.go:99", after := #[{ on := 20, ground := Ground.data }, { on := 21, ground := Ground.data }, { on := 2, ground := Ground.guard }], guard := some (2, true) }) (v := .agg ((ds.extract 40 (40 + 36)).extract (dd * 12) (dd * 12 + 12))) rfl (by kernel_rfl) (by kernel_rfl) (by kernel_rfl) (fun _ _ _ h => h) (Or.inl ⟨by kernel_rfl, fun W h => Op1.iv_dir (.tmp 37) (.tmp 38) (by kernel_rfl) (by kernel_rfl) (by kernel_rfl) hd W⟩) hS1 ?_
    try simp only [Act.put, List.setIfInBounds_toArray, List.set_cons_zero, List.set_cons_succ]
    refine wpAnyH_take (i := 24) (oi := { dst := some 41, op := Op.index 38 (Operand.tmp 39) (Operand.tmp 40), type := 37, pos := "soft.go:99", after := #[{ on := 22, ground := Ground.data }, { on := 23, ground := Ground.data }, { on := 2, ground := Ground.guard }], guard := some (2, true) }) (v := .agg #[.string (k.name dd j), .int .i64 (k.ino dd j), .int .i64 (k.est dd j)]) rfl (by kernel_rfl) (by kernel_rfl) (by kernel_rfl) (fun _ _ _ h => h) (Or.inl ⟨by kernel_rfl, fun W h => (by rw [← unhide HK]; exact Op1.iv_slot (.tmp 39) (.tmp 40) (by kernel_rfl) (by kernel_rfl) (by kernel_rfl) hj W)⟩) hS1 ?_
    try simp only [Act.put, List.setIfInBounds_toArray, List.set_cons_zero, List.set_cons_succ]
    refine wpAnyH_take (i := 25) (oi := { dst := some 42, op := Op.binOp BinOp.eql 37 (Operand.tmp 31) (Operand.tmp 41) 37, type := 4, pos := "soft.go:99", after := #[{ on := 14, ground := Ground.data }, { on := 24, ground := Ground.data }, { on := 2, ground := Ground.guard }], guard := some (2, true) }) (v := .bool ((m.name dd j).toList == (k.name dd j).toList && m.ino dd j == k.ino dd j && m.est dd j == k.est dd j)) rfl (by kernel_rfl) (by kernel_rfl) (by kernel_rfl) (fun _ _ _ h => h) (Or.inl ⟨by kernel_rfl, fun W h => Op1.eq_ent (.tmp 31) (.tmp 41) (by kernel_rfl) (by kernel_rfl) (by kernel_rfl) W⟩) hS1 ?_
    try simp only [Act.put, List.setIfInBounds_toArray, List.set_cons_zero, List.set_cons_succ]
    refine wpAnyH_take (i := 26) (oi := { dst := some 43, op := Op.pick (Operand.tmp 19) (Operand.tmp 42) (Operand.const (Value.bool false)), type := 4, pos := "soft.go:99", after := #[{ on := 2, ground := Ground.data }, { on := 25, ground := Ground.data }], guard := none }) (v := .bool ((m.name dd j).toList == (k.name dd j).toList && m.ino dd j == k.ino dd j && m.est dd j == k.est dd j)) rfl (by kernel_rfl) (by kernel_rfl) (by kernel_rfl) (fun _ _ _ h => h) (Or.inl ⟨by kernel_rfl, fun W h => (by first | kernel_rfl | go_simp)⟩) hS1 ?_
    try simp only [Act.put, List.setIfInBounds_toArray, List.set_cons_zero, List.set_cons_succ]
    refine wpAnyH_take (i := 27) (oi := { dst := some 6, op := Op.assign (Operand.tmp 43), type := 4, pos := "soft.go:99", after := #[{ on := 26, ground := Ground.data }, { on := 19, ground := Ground.chain }, { on := 0, ground := Ground.phase }, { on := 1, ground := Ground.phase }, { on := 2, ground := Ground.phase }, { on := 3, ground := Ground.phase }, { on := 4, ground := Ground.phase }, { on := 5, ground := Ground.phase }, { on := 6, ground := Ground.phase }, { on := 7, ground := Ground.phase }, { on := 8, ground := Ground.phase }, { on := 9, ground := Ground.phase }, { on := 10, ground := Ground.phase }, { on := 11, ground := Ground.phase }, { on := 12, ground := Ground.phase }, { on := 13, ground := Ground.phase }, { on := 14, ground := Ground.phase }, { on := 15, ground := Ground.phase }, { on := 16, ground := Ground.phase }, { on := 17, ground := Ground.phase }, { on := 18, ground := Ground.phase }, { on := 19, ground := Ground.phase }, { on := 20, ground := Ground.phase }, { on := 21, ground := Ground.phase }, { on := 22, ground := Ground.phase }, { on := 23, ground := Ground.phase }, { on := 24, ground := Ground.phase }, { on := 25, ground := Ground.phase }, { on := 26, ground := Ground.phase }], guard := none }) (v := .bool ((m.name dd j).toList == (k.name dd j).toList && m.ino dd j == k.ino dd j && m.est dd j == k.est dd j)) rfl (by kernel_rfl) (by kernel_rfl) (by kernel_rfl) (fun _ _ _ h => h) (Or.inl ⟨by kernel_rfl, fun W h => (by first | kernel_rfl | go_simp)⟩) hS1 ?_
    try simp only [Act.put, List.setIfInBounds_toArray, List.set_cons_zero, List.set_cons_succ]
    refine wpAnyH_done (by kernel_rfl) ?_ _
    clear hS hS1
    go_wp2_with fail
    go_ret
    exact ⟨rfl, unhide B2⟩
end
end Go.Proofs.YtmbpckmpnnmnmacGreat
