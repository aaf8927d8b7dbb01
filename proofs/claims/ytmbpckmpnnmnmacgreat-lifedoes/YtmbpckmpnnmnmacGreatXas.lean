/-
  The walk of (*soft.Files).add. (Written by gendm.py.)
-/
import Derived.Test.YtmbpckmpnnmnmacGreatZz
import Derived.Test.YtmbpckmpnnmnmacGreatXar
namespace Go.Proofs.YtmbpckmpnnmnmacGreat
open Go.RowKit
open Idl (Stp chk stpA)
section
variable {w w0 w1 : World} {bf bc : Nat} {cs ds rows : Array Value} {m k : Img} {last : Int}
theorem Fm.has (h : Fm w0 w bf bc (cs ++ ds) last) (hm : IsImg cs m) : HasAt w bc 0 m := hasAt_of h.row (by rw [Array.size_append, hm.size]; omega) (app_fst hm.size) hm
def PS2 (bf bc : Nat) (m : Img) (W : World) : Prop := W.cell? ⟨bf, 0, none⟩ = some (.pointer (some ⟨bc, 0, none⟩)) ∧ HasAt W bc 0 m
theorem PS2.of (h : Fm w0 w bf bc (cs ++ ds) last) (hm : IsImg cs m) : PS2 bf bc m w := ⟨h.ptr, h.has hm⟩
set_option maxHeartbeats 2000000 in
set_option maxRecDepth 100000 in
theorem sadd_any (h : Fl w bf bc cs ds m k last) {d n s : Nat} (hd : d < 3) (hn : n < 8) (hs : s < 4) (he : Img.freeSlot m k (d : Int) = (s : Int)) (nm : ByteArray) (hnm : nm.size ≤ maxLen) (hlk : 0 ≤ m.links n ∧ m.links n ≤ 100) :
    Calls Tryz.prog 66 #[.pointer (some ⟨bf, 0, none⟩), .int .i64 (d : Int), .string nm, .int .i64 (n : Int)] w fun e w' => e = .returned (.tuple #[]) ∧ Fd w w' bf bc ds (Img.added m k (d : Int) nm n) last := by
  have C1 := hide fun W (h1 : W.heap[bc]? = some (.cells (cs ++ ds) 57)) => cSlot_any bc cs ds m k h.now h.disk (d : Int) W h1
  rw [he] at C1
  have e1 : Img.added m k (d : Int) nm n = (m.putEnt d s ⟨nm, (n : Int), m.stamp n⟩).putIno n ⟨m.live n, m.stamp n, m.links n + 1, m.part n 0, m.part n 1⟩ := by unfold Img.added; rw [he, Int.toNat_natCast, Int.toNat_natCast]
  rw [e1]
  have HM := hide h.now
  have FM0 := hide h.fm
  have p0 := h.ptr
  have l0 := h.flt
  have l1 := h.clt
  have nz : (n : Int) < 8 := by omega
  clear h he e1
  go_enter Tryz.func66, Tryz.ntmps66
  go_wp2_with fail
  have FM1 := hide ((unhide FM0).call (Below.refl _ _).drew)
  clear FM0 p0 l0 l1 nz
  refine wp_region_F (S := PS2 bf bc m) 23 (by kernel_rfl) (PS2.of (unhide FM1) (unhide HM)) (fun hS => ?_)
  refine wpAnyF_take (i := 0) (oi := ⟨some 18, .move (.tmp 0), 46, "soft.go:164", #[], none⟩) (v := .pointer (some ⟨bf, 0, none⟩)) rfl (by kernel_rfl) (by kernel_rfl) (by kernel_rfl) (by kernel_rfl) (fun _ _ _ h => h) (Or.inl ⟨by kernel_rfl, fun W h => (by first | kernel_rfl | go_simp)⟩) hS ?_
  try simp only [Act.put, z1, z2, z3]
  refine wpAnyF_take (i := 1) (oi := ⟨some 19, .nilCheck (.tmp 18), 0, "soft.go:164", #[⟨0, .data⟩], none⟩) (v := .pointer (some ⟨bf, 0, none⟩)) rfl (by kernel_rfl) (by kernel_rfl) (by kernel_rfl) (by kernel_rfl) (fun _ _ _ h => h) (Or.inl ⟨by kernel_rfl, fun W h => (by first | kernel_rfl | go_simp)⟩) hS ?_
  try simp only [Act.put, z1, z2, z3]
  refine wpAnyF_take (i := 2) (oi := ⟨some 20, .fieldAddr 53 (.tmp 19) 0, 0, "soft.go:164", #[⟨1, .data⟩], none⟩) (v := .pointer (some ⟨bf, 0, none⟩)) rfl (by kernel_rfl) (by kernel_rfl) (by kernel_rfl) (by kernel_rfl) (fun _ _ _ h => h) (Or.inl ⟨by kernel_rfl, fun W h => (by first | kernel_rfl | go_simp)⟩) hS ?_
  try simp only [Act.put, z1, z2, z3]
  refine wpAnyF_take (i := 3) (oi := ⟨some 21, .load 51 (.tmp 20), 51, "soft.go:164", #[⟨2, .data⟩], none⟩) (v := .pointer (some ⟨bc, 0, none⟩)) rfl (by kernel_rfl) (by kernel_rfl) (by kernel_rfl) (by kernel_rfl) (fun _ _ _ h => h) (Or.inl ⟨by kernel_rfl, fun W h => Op1.ld_ptr (.tmp 20) (by kernel_rfl) (by kernel_rfl) W (h.1)⟩) hS ?_
  try simp only [Act.put, z1, z2, z3]
  refine wpAnyF_take (i := 4) (oi := ⟨some 22, .move (.tmp 1), 3, "soft.go:164", #[], none⟩) (v := .int .i64 (d : Int)) rfl (by kernel_rfl) (by kernel_rfl) (by kernel_rfl) (by kernel_rfl) (fun _ _ _ h => h) (Or.inl ⟨by kernel_rfl, fun W h => (by first | kernel_rfl | go_simp)⟩) hS ?_
  try simp only [Act.put, z1, z2, z3]
  refine wpAnyF_take (i := 5) (oi := ⟨some 23, .move (.tmp 0), 46, "soft.go:164", #[], none⟩) (v := .pointer (some ⟨bf, 0, none⟩)) rfl (by kernel_rfl) (by kernel_rfl) (by kernel_rfl) (by kernel_rfl) (fun _ _ _ h => h) (Or.inl ⟨by kernel_rfl, fun W h => (by first | kernel_rfl | go_simp)⟩) hS ?_
  try simp only [Act.put, z1, z2, z3]
  refine wpAnyF_take (i := 6) (oi := ⟨some 24, .nilCheck (.tmp 23), 0, "soft.go:164", #[⟨5, .data⟩], none⟩) (v := .pointer (some ⟨bf, 0, none⟩)) rfl (by kernel_rfl) (by kernel_rfl) (by kernel_rfl) (by kernel_rfl) (fun _ _ _ h => h) (Or.inl ⟨by kernel_rfl, fun W h => (by first | kernel_rfl | go_simp)⟩) hS ?_
  try simp only [Act.put, z1, z2, z3]
  refine wpAnyF_take (i := 7) (oi := ⟨some 25, .fieldAddr 53 (.tmp 24) 0, 0, "soft.go:164", #[⟨6, .data⟩], none⟩) (v := .pointer (some ⟨bf, 0, none⟩)) rfl (by kernel_rfl) (by kernel_rfl) (by kernel_rfl) (by kernel_rfl) (fun _ _ _ h => h) (Or.inl ⟨by kernel_rfl, fun W h => (by first | kernel_rfl | go_simp)⟩) hS ?_
  try simp only [Act.put, z1, z2, z3]
  refine wpAnyF_take (i := 8) (oi := ⟨some 26, .load 51 (.tmp 25), 51, "soft.go:164", #[⟨7, .data⟩], none⟩) (v := .pointer (some ⟨bc, 0, none⟩)) rfl (by kernel_rfl) (by kernel_rfl) (by kernel_rfl) (by kernel_rfl) (fun _ _ _ h => h) (Or.inl ⟨by kernel_rfl, fun W h => Op1.ld_ptr (.tmp 25) (by kernel_rfl) (by kernel_rfl) W (h.1)⟩) hS ?_
  try simp only [Act.put, z1, z2, z3]
  refine wpAnyF_take (i := 9) (oi := ⟨some 27, .move (.tmp 1), 3, "soft.go:164", #[], none⟩) (v := .int .i64 (d : Int)) rfl (by kernel_rfl) (by kernel_rfl) (by kernel_rfl) (by kernel_rfl) (fun _ _ _ h => h) (Or.inl ⟨by kernel_rfl, fun W h => (by first | kernel_rfl | go_simp)⟩) hS ?_
  try simp only [Act.put, z1, z2, z3]
  refine wpAnyF_take (i := 11) (oi := ⟨some 29, .move (.tmp 2), 9, "soft.go:164", #[], none⟩) (v := .string nm) rfl (by kernel_rfl) (by kernel_rfl) (by kernel_rfl) (by kernel_rfl) (fun _ _ _ h => h) (Or.inl ⟨by kernel_rfl, fun W h => (by first | kernel_rfl | go_simp)⟩) hS ?_
  try simp only [Act.put, z1, z2, z3]
  refine wpAnyF_take (i := 12) (oi := ⟨some 30, .move (.tmp 3), 3, "soft.go:164", #[], none⟩) (v := .int .i64 (n : Int)) rfl (by kernel_rfl) (by kernel_rfl) (by kernel_rfl) (by kernel_rfl) (fun _ _ _ h => h) (Or.inl ⟨by kernel_rfl, fun W h => (by first | kernel_rfl | go_simp)⟩) hS ?_
  try simp only [Act.put, z1, z2, z3]
  refine wpAnyF_take (i := 13) (oi := ⟨some 31, .move (.tmp 8), 100, "soft.go:164", #[], none⟩) (v := .pointer (some ⟨bc, n * 5, none⟩)) rfl (by kernel_rfl) (by kernel_rfl) (by kernel_rfl) (by kernel_rfl) (fun _ _ _ h => h) (Or.inl ⟨by kernel_rfl, fun W h => (by first | kernel_rfl | go_simp)⟩) hS ?_
  try simp only [Act.put, z1, z2, z3]
  refine wpAnyF_take (i := 14) (oi := ⟨some 32, .nilCheck (.tmp 31), 0, "soft.go:164", #[⟨13, .data⟩], none⟩) (v := .pointer (some ⟨bc, n * 5, none⟩)) rfl (by kernel_rfl) (by kernel_rfl) (by kernel_rfl) (by kernel_rfl) (fun _ _ _ h => h) (Or.inl ⟨by kernel_rfl, fun W h => (by first | kernel_rfl | go_simp)⟩) hS ?_
  try simp only [Act.put, z1, z2, z3]
  refine wpAnyF_take (i := 15) (oi := ⟨some 33, .fieldAddr 34 (.tmp 32) 1, 0, "soft.go:164", #[⟨14, .data⟩], none⟩) (v := .pointer (some ⟨bc, n * 5 + 1, none⟩)) rfl (by kernel_rfl) (by kernel_rfl) (by kernel_rfl) (by kernel_rfl) (fun _ _ _ h => h) (Or.inl ⟨by kernel_rfl, fun W h => (by first | kernel_rfl | go_simp)⟩) hS ?_
  try simp only [Act.put, z1, z2, z3]
  refine wpAnyF_take (i := 16) (oi := ⟨some 34, .load 3 (.tmp 33), 3, "soft.go:164", #[⟨15, .data⟩], none⟩) (v := .int .i64 (m.stamp n)) rfl (by kernel_rfl) (by kernel_rfl) (by kernel_rfl) (by kernel_rfl) (fun _ _ _ h => h) (Or.inl ⟨by kernel_rfl, fun W h => Op1.ld_int (.tmp 33) (by kernel_rfl) (by kernel_rfl) W (by have := h.2.stamp n hn; rw [Nat.zero_add] at this; exact this)⟩) hS ?_
  try simp only [Act.put, z1, z2, z3]
  refine wpAnyF_take (i := 17) (oi := ⟨some 35, .build 37 #[(0, .tmp 29), (1, .tmp 30), (2, .tmp 34)], 37, "soft.go:164", #[⟨11, .data⟩, ⟨12, .data⟩, ⟨16, .data⟩], none⟩) (v := .agg #[.string nm, .int .i64 (n : Int), .int .i64 (m.stamp n)]) rfl (by kernel_rfl) (by kernel_rfl) (by kernel_rfl) (by kernel_rfl) (fun _ _ _ h => h) (Or.inl ⟨by kernel_rfl, fun W h => (by first | kernel_rfl | go_simp)⟩) hS ?_
  try simp only [Act.put, z1, z2, z3]
  refine wpAnyF_free (i := 18) (oi := ⟨some 36, .nilCheck (.tmp 21), 0, "soft.go:164", #[⟨3, .data⟩], none⟩) (v := .pointer (some ⟨bc, 0, none⟩)) rfl (by kernel_rfl) (by kernel_rfl) (by kernel_rfl) (by kernel_rfl) (fun _ _ _ h => h) (Or.inl ⟨by kernel_rfl, fun W _ => (by first | kernel_rfl | go_simp)⟩) hS ?_
  try simp only [Act.put, z1, z2, z3]
  refine wpAnyF_free (i := 19) (oi := ⟨some 37, .fieldAddr 57 (.tmp 36) 0, 0, "soft.go:164", #[⟨18, .data⟩], none⟩) (v := .pointer (some ⟨bc, 0, none⟩)) rfl (by kernel_rfl) (by kernel_rfl) (by kernel_rfl) (by kernel_rfl) (fun _ _ _ h => h) (Or.inl ⟨by kernel_rfl, fun W _ => (by first | kernel_rfl | go_simp)⟩) hS ?_
  try simp only [Act.put, z1, z2, z3]
  refine wpAnyF_free (i := 20) (oi := ⟨some 38, .fieldAddr 44 (.tmp 37) 1, 0, "soft.go:164", #[⟨19, .data⟩], none⟩) (v := .pointer (some ⟨bc, 40, none⟩)) rfl (by kernel_rfl) (by kernel_rfl) (by kernel_rfl) (by kernel_rfl) (fun _ _ _ h => h) (Or.inl ⟨by kernel_rfl, fun W _ => (by first | kernel_rfl | go_simp)⟩) hS ?_
  try simp only [Act.put, z1, z2, z3]
  refine wpAnyF_free (i := 21) (oi := ⟨some 39, .indexAddr 39 (.tmp 38) (.tmp 22), 0, "soft.go:164", #[⟨20, .data⟩, ⟨4, .data⟩], none⟩) (v := .pointer (some ⟨bc, 40 + d * 12, none⟩)) rfl (by kernel_rfl) (by kernel_rfl) (by kernel_rfl) (by kernel_rfl) (fun _ _ _ h => h) (Or.inl ⟨by kernel_rfl, fun W _ => Op1.ix_dir (.tmp 38) (.tmp 22) (by kernel_rfl) (by kernel_rfl) (by kernel_rfl) (hd) W⟩) hS ?_
  try simp only [Act.put, z1, z2, z3]
  generalize World.drew _ = W0 at hS FM1 ⊢
  refine wpAnyF_one (i := 10) (o := ⟨some 28, .call { callee := .value (.func 101), args := #[.tmp 26, .tmp 27], argTypes := #[51, 3] }, 3, "soft.go:164", #[⟨8, .data⟩, ⟨9, .data⟩], none⟩) (by kernel_rfl) rfl (by kernel_rfl) (fun K hK => ?_)
  go_simp
  refine (unhide C1 W0 (unhide FM1).row).mono ?_
  rintro e w1 ⟨rfl, b1⟩
  have FM2 := hide ((unhide FM1).call b1)
  clear b1
  go_wp2_with fail
  have hS1 := PS2.of (unhide FM2) (unhide HM)
  refine hK.out _ _ (fun _ => hS1) ?_
  clear hK K
  try simp only [Act.put, z1, z2, z3]
  refine wpAnyF_take (i := 22) (oi := ⟨some 40, .indexAddr 38 (.tmp 39) (.tmp 28), 0, "soft.go:164", #[⟨21, .data⟩, ⟨10, .data⟩, ⟨0, .phase⟩, ⟨1, .phase⟩, ⟨2, .phase⟩, ⟨3, .phase⟩, ⟨4, .phase⟩, ⟨5, .phase⟩, ⟨6, .phase⟩, ⟨7, .phase⟩, ⟨8, .phase⟩, ⟨9, .phase⟩, ⟨10, .phase⟩, ⟨11, .phase⟩, ⟨12, .phase⟩, ⟨13, .phase⟩, ⟨14, .phase⟩, ⟨15, .phase⟩, ⟨16, .phase⟩, ⟨17, .phase⟩], none⟩) (v := .pointer (some ⟨bc, 40 + d * 12 + s * 3, none⟩)) rfl (by kernel_rfl) (by kernel_rfl) (by kernel_rfl) (by kernel_rfl) (fun _ _ _ h => h) (Or.inl ⟨by kernel_rfl, fun W h => Op1.ix_slot (.tmp 39) (.tmp 28) (by kernel_rfl) (by kernel_rfl) (by kernel_rfl) (hs) W⟩) hS1 ?_
  try simp only [Act.put, z1, z2, z3]
  refine wpAnyF_last (o := ⟨none, .store 37 (.tmp 40) (.tmp 35), 0, "soft.go:164", #[⟨22, .data⟩, ⟨17, .data⟩, ⟨10, .chain⟩, ⟨0, .phase⟩, ⟨1, .phase⟩, ⟨2, .phase⟩, ⟨3, .phase⟩, ⟨4, .phase⟩, ⟨5, .phase⟩, ⟨6, .phase⟩, ⟨7, .phase⟩, ⟨8, .phase⟩, ⟨9, .phase⟩, ⟨10, .phase⟩, ⟨11, .phase⟩, ⟨12, .phase⟩, ⟨13, .phase⟩, ⟨14, .phase⟩, ⟨15, .phase⟩, ⟨16, .phase⟩, ⟨17, .phase⟩], none⟩) (by kernel_rfl) rfl (by kernel_rfl) (by kernel_rfl) (fun K hK => ?_)
  refine Op1.st_part (cells := #[.string nm, .int .i64 (n : Int), .int .i64 (m.stamp n)]) (o0 := 40 + d * 12 + s * 3) 37 (.tmp 40) (.tmp 35) (by kernel_rfl) rfl (by kernel_rfl) (by kernel_rfl) (unhide FM2).row sz_ent (by have := (unhide HM).size; simp; omega) (by simp [Value.oneCell']) ?_
  refine hK.out _ _ ?_
  clear hK K
  try simp only [Act.put, z1, z2, z3]
  refine wpAnyF_done (by kernel_rfl) ?_ _
  obtain ⟨cs1, f3, hm3⟩ := Fd.ent (unhide FM2) (unhide HM) hd hs ⟨nm, (n : Int), m.stamp n⟩ hnm
  have FM3 := hide f3
  have HM3 := hide hm3
  clear f3 hm3 hS hS1 FM1 FM2
  generalize w1.setRow bc (splice (cs ++ ds) (40 + d * 12 + s * 3) #[.string nm, .int .i64 (n : Int), .int .i64 (m.stamp n)]) = W3 at FM3 ⊢
  have c2 : W3.cell? ⟨bc, n * 5 + 2, none⟩ = some (.int .i64 (m.links n)) := by
    have := ((unhide FM3).has (unhide HM3)).links n hn
    rw [Nat.zero_add] at this; exact this
  have z2 := (unhide FM3).frozen (n * 5 + 2)
  have hw : IntKind.i64.wrap (m.links n + 1) = m.links n + 1 := IntWalk.i64_in _ (by omega)
  have l3 := (unhide FM3).clt
  have DONE := hide (Fd.lnk (unhide FM3) (unhide HM3) hn (m.links n + 1))
  go_wp2_with fail
  go_end0
  exact ⟨rfl, unhide DONE⟩
end
end Go.Proofs.YtmbpckmpnnmnmacGreat
