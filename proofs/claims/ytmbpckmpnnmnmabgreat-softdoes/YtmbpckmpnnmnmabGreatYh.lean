/-
  The walk of (*soft.Files).add. (Written by gendm.py.)
-/
import Derived.Test.YtmbpckmpnnmnmabGreatZz
import Derived.Test.YtmbpckmpnnmnmabGreatYf
namespace Go.Proofs.YtmbpckmpnnmnmabGreat
open Go.RowKit
open Idl (Stp chk stpA)
section
variable {w w0 w1 : World} {bf bc : Nat} {cs ds rows : Array Value} {m k : Img} {last : Int}
theorem Fm.has (h : Fm w0 w bf bc (cs ++ ds) last) (hm : IsImg cs m) : HasAt w bc 0 m := hasAt_of h.row (by rw [Array.size_append, hm.size]; omega) (app_fst hm.size) hm
def PS2 (bf bc : Nat) (m : Img) (W : World) : Prop := W.cell? ⟨bf, 0, none⟩ = some (.pointer (some ⟨bc, 0, none⟩)) ∧ HasAt W bc 0 m
theorem PS2.of (h : Fm w0 w bf bc (cs ++ ds) last) (hm : IsImg cs m) : PS2 bf bc m w := ⟨h.ptr, h.has hm⟩
set_option maxHeartbeats 2000000 in
set_option maxRecDepth 100000 in
theorem sadd_any (h : Fl w bf bc cs ds m k last) {d n s : Nat} (hd : d < 3) (hn : n < 8) (hs : s < 4) (he : Img.freeSlot m k (d : Int) = (s : Int)) (nm : ByteArray) (hnm : nm.size ≤ maxLen) (hlk : 0 ≤ m.links n ∧ m.links n ≤ 100) :
    Calls Tryz.prog 60 #[.pointer (some ⟨bf, 0, none⟩), .int .i64 (d : Int), .string nm, .int .i64 (n : Int)] w fun e w' => e = .returned (.tuple #[]) ∧ Fd w w' bf bc ds (Img.added m k (d : Int) nm n) last := by
  have C1 := hide fun W (h1 : W.heap[bc]? = some (.cells (cs ++ ds) 57)) => cSlot_any bc cs ds m k h.now h.disk (d : Int) W h1
  rw [he] at C1
  have e1 : Img.added m k (d : Int) nm n = (m.putEnt d s ⟨nm, (n : Int), m.stamp n⟩).putIno n ⟨m.live n, m.stamp n, m.links n + 1, m.part n 0, m.part n 1⟩ := by unfold Img.added; rw [he, Int.toNat_natCast, Int.toNat_natCast]
  rw [e1]
  have HM := hide h.now
  have FM0 := hide h.fm
  have p0 := h.ptr
  have l0 := h.flt
  have l1 := h.clt
  have nz : (n : Int) < 8 := by omega
  clear h he e1
  go_enter Tryz.func60, Tryz.ntmps60
  go_wp2_with fail
  have FM1 := hide ((unhide FM0).call (Below.refl _ _).drew)
  clear FM0 p0 l0 l1 nz
  refine wp_region_F (S := PS2 bf bc m) 23 (by kernel_rfl) (PS2.of (unhide FM1) (unhide HM)) (fun hS => ?_)
  refine wpAnyF_take (i := 0) (oi := ⟨some 18, .move (.tmp 0), 42, "soft.go:164", #[], none⟩) (v := .pointer (some ⟨bf, 0, none⟩)) rfl (by kernel_rfl) (by kernel_rfl) (by kernel_rfl) (by kernel_rfl) (fun _ _ _ h => h) (Or.inl ⟨by kernel_rfl, fun W h => (by first | kernel_rfl | go_simp)⟩) hS ?_
  try simp only [Act.put, z1, z2, z3]
  refine wpAnyF_take (i := 1) (oi := ⟨some 19, .nilCheck (.tmp 18), 0, "soft.go:164", #[⟨0, .data⟩], none⟩) (v := .pointer (some ⟨bf, 0, none⟩)) rfl (by kernel_rfl) (by kernel_rfl) (by kernel_rfl) (by kernel_rfl) (fun _ _ _ h => h) (Or.inl ⟨by kernel_rfl, fun W h => (by first | kernel_rfl | go_simp)⟩) hS ?_
  try simp only [Act.put, z1, z2, z3]
  refine wpAnyF_take (i := 2) (oi := ⟨some 20, .fieldAddr 55 (.tmp 19) 0, 0, "soft.go:164", #[⟨1, .data⟩], none⟩) (v := .pointer (some ⟨bf, 0, none⟩)) rfl (by kernel_rfl) (by kernel_rfl) (by kernel_rfl) (by kernel_rfl) (fun _ _ _ h => h) (Or.inl ⟨by kernel_rfl, fun W h => (by first | kernel_rfl | go_simp)⟩) hS ?_
  try simp only [Act.put, z1, z2, z3]
  refine wpAnyF_take (i := 3) (oi := ⟨some 21, .load 53 (.tmp 20), 53, "soft.go:164", #[⟨2, .data⟩], none⟩) (v := .pointer (some ⟨bc, 0, none⟩)) rfl (by kernel_rfl) (by kernel_rfl) (by kernel_rfl) (by kernel_rfl) (fun _ _ _ h => h) (Or.inl ⟨by kernel_rfl, fun W h => Op1.ld_ptr (.tmp 20) (by kernel_rfl) (by kernel_rfl) W (h.1)⟩) hS ?_
  try simp only [Act.put, z1, z2, z3]
  refine wpAnyF_take (i := 4) (oi := ⟨some 22, .move (.tmp 1), 3, "soft.go:164", #[], none⟩) (v := .int .i64 (d : Int)) rfl (by kernel_rfl) (by kernel_rfl) (by kernel_rfl) (by kernel_rfl) (fun _ _ _ h => h) (Or.inl ⟨by kernel_rfl, fun W h => (by first | kernel_rfl | go_simp)⟩) hS ?_
  try simp only [Act.put, z1, z2, z3]
  refine wpAnyF_take (i := 5) (oi := ⟨some 23, .move (.tmp 0), 42, "soft.go:164", #[], none⟩) (v := .pointer (some ⟨bf, 0, none⟩)) rfl (by kernel_rfl) (by kernel_rfl) (by kernel_rfl) (by kernel_rfl) (fun _ _ _ h => h) (Or.inl ⟨by kernel_rfl, fun W h => (by first | kernel_rfl | go_simp)⟩) hS ?_
  try simp only [Act.put, z1, z2, z3]
  refine wpAnyF_take (i := 6) (oi := ⟨some 24, .nilCheck (.tmp 23), 0, "soft.go:164", #[⟨5, .data⟩], none⟩) (v := .pointer (some ⟨bf, 0, none⟩)) rfl (by kernel_rfl) (by kernel_rfl) (by kernel_rfl) (by kernel_rfl) (fun _ _ _ h => h) (Or.inl ⟨by kernel_rfl, fun W h => (by first | kernel_rfl | go_simp)⟩) hS ?_
  try simp only [Act.put, z1, z2, z3]
  refine wpAnyF_take (i := 7) (oi := ⟨some 25, .fieldAddr 55 (.tmp 24) 0, 0, "soft.go:164", #[⟨6, .data⟩], none⟩) (v := .pointer (some ⟨bf, 0, none⟩)) rfl (by kernel_rfl) (by kernel_rfl) (by kernel_rfl) (by kernel_rfl) (fun _ _ _ h => h) (Or.inl ⟨by kernel_rfl, fun W h => (by first | kernel_rfl | go_simp)⟩) hS ?_
  try simp only [Act.put, z1, z2, z3]
  refine wpAnyF_take (i := 8) (oi := ⟨some 26, .load 53 (.tmp 25), 53, "soft.go:164", #[⟨7, .data⟩], none⟩) (v := .pointer (some ⟨bc, 0, none⟩)) rfl (by kernel_rfl) (by kernel_rfl) (by kernel_rfl) (by kernel_rfl) (fun _ _ _ h => h) (Or.inl ⟨by kernel_rfl, fun W h => Op1.ld_ptr (.tmp 25) (by kernel_rfl) (by kernel_rfl) W (h.1)⟩) hS ?_
  try simp only [Act.put, z1, z2, z3]
  refine wpAnyF_take (i := 9) (oi := ⟨some 27, .move (.tmp 1), 3, "soft.go:164", #[], none⟩) (v := .int .i64 (d : Int)) rfl (by kernel_rfl) (by kernel_rfl) (by kernel_rfl) (by kernel_rfl) (fun _ _ _ h => h) (Or.inl ⟨by kernel_rfl, fun W h => (by first | kernel_rfl | go_simp)⟩) hS ?_
  try simp only [Act.put, z1, z2, z3]
  refine wpAnyF_take (i := 11) (oi := ⟨some 29, .move (.tmp 2), 9, "soft.go:164", #[], none⟩) (v := .string nm) rfl (by kernel_rfl) (by kernel_rfl) (by kernel_rfl) (by kernel_rfl) (fun _ _ _ h => h) (Or.inl ⟨by kernel_rfl, fun W h => (by first | kernel_rfl | go_simp)⟩) hS ?_
  try simp only [Act.put, z1, z2, z3]
  refine wpAnyF_take (i := 12) (oi := ⟨some 30, .move (.tmp 3), 3, "soft.go:164", #[], none⟩) (v := .int .i64 (n : Int)) rfl (by kernel_rfl) (by kernel_rfl) (by kernel_rfl) (by kernel_rfl) (fun _ _ _ h => h) (Or.inl ⟨by kernel_rfl, fun W h => (by first | kernel_rfl | go_simp)⟩) hS ?_
  try simp only [Act.put, z1, z2, z3]
  refine wpAnyF_take (i := 13) (oi := ⟨some 31, .move (.tmp 8), 101, "soft.go:164", #[], none⟩) (v := .pointer (some ⟨bc, n * 5, none⟩)) rfl (by kernel_rfl) (by kernel_rfl) (by kernel_rfl) (by kernel_rfl) (fun _ _ _ h => h) (Or.inl ⟨by kernel_rfl, fun W h => (by first | kernel_rfl | go_simp)⟩) hS ?_
  try simp only [Act.put, z1, z2, z3]
  refine wpAnyF_take (i := 14) (oi := ⟨some 32, .nilCheck (.tmp 31), 0, "soft.go:164", #[⟨13, .data⟩], none⟩) (v := .pointer (some ⟨bc, n * 5, none⟩)) rfl (by kernel_rfl) (by kernel_rfl) (by kernel_rfl) (by kernel_rfl) (fun _ _ _ h => h) (Or.inl ⟨by kernel_rfl, fun W h => (by first | kernel_rfl | go_simp)⟩) hS ?_
  try simp only [Act.put, z1, z2, z3]
  refine wpAnyF_take (i := 15) (oi := ⟨some 33, .fieldAddr 24 (.tmp 32) 1, 0, "soft.go:164", #[⟨14, .data⟩], none⟩) (v := .pointer (some ⟨bc, n * 5 + 1, none⟩)) rfl (by kernel_rfl) (by kernel_rfl) (by kernel_rfl) (by kernel_rfl) (fun _ _ _ h => h) (Or.inl ⟨by kernel_rfl, fun W h => (by first | kernel_rfl | go_simp)⟩) hS ?_
  try simp only [Act.put, z1, z2, z3]
  refine wpAnyF_take (i := 16) (oi := ⟨some 34, .load 3 (.tmp 33), 3, "soft.go:164", #[⟨15, .data⟩], none⟩) (v := .int .i64 (m.stamp n)) rfl (by kernel_rfl) (by kernel_rfl) (by kernel_rfl) (by kernel_rfl) (fun _ _ _ h => h) (Or.inl ⟨by kernel_rfl, fun W h => Op1.ld_int (.tmp 33) (by kernel_rfl) (by kernel_rfl) W (by have := h.2.stamp n hn; rw [Nat.zero_add] at this; exact this)⟩) hS ?_
  try simp only [Act.put, z1, z2, z3]
  refine wpAnyF_take (i := 17) (oi := ⟨some 35, .build 27 #[(0, .tmp 29), (1, .tmp 30), (2, .tmp 34)], 27, "soft.go:164", #[⟨11, .data⟩, ⟨12, .data⟩, ⟨16, .data⟩], none⟩) (v := .agg #[.string nm, .int .i64 (n : Int), .int .i64 (m.stamp n)]) rfl (by kernel_rfl) (by kernel_rfl) (by kernel_rfl) (by kernel_rfl) (fun _ _ _ h => h) (Or.inl ⟨by kernel_rfl, fun W h => (by first | kernel_rfl | go_simp)⟩) hS ?_
  try simp only [Act.put, z1, z2, z3]
  refine wpAnyF_free (i := 18) (oi := ⟨some 36, .nilCheck (.tmp 21), 0, "soft.go:164", #[⟨3, .data⟩], none⟩) (v := .pointer (some ⟨bc, 0, none⟩)) rfl (by kernel_rfl) (by kernel_rfl) (by kernel_rfl) (by kernel_rfl) (fun _ _ _ h => h) (Or.inl ⟨by kernel_rfl, fun W _ => (by first | kernel_rfl | go_simp)⟩) hS ?_
  try simp only [Act.put, z1, z2, z3]
  refine wpAnyF_free (i := 19) (oi := ⟨some 37, .fieldAddr 57 (.tmp 36) 0, 0, "soft.go:164", #[⟨18, .data⟩], none⟩) (v := .pointer (some ⟨bc, 0, none⟩)) rfl (by kernel_rfl) (by kernel_rfl) (by kernel_rfl) (by kernel_rfl) (fun _ _ _ h => h) (Or.inl ⟨by kernel_rfl, fun W _ => (by first | kernel_rfl | go_simp)⟩) hS ?_
  try simp only [Act.put, z1, z2, z3]
  refine wpAnyF_free (i := 20) (oi := ⟨some 38, .fieldAddr 34 (.tmp 37) 1, 0, "soft.go:164", #[⟨19, .data⟩], none⟩) (v := .pointer (some ⟨bc, 40, none⟩)) rfl (by kernel_rfl) (by kernel_rfl) (by kernel_rfl) (by kernel_rfl) (fun _ _ _ h => h) (Or.inl ⟨by kernel_rfl, fun W _ => (by first | kernel_rfl | go_simp)⟩) hS ?_
  try simp only [Act.put, z1, z2, z3]
  refine wpAnyF_free (i := 21) (oi := ⟨some 39, .indexAddr 29 (.tmp 38) (.tmp 22), 0, "soft.go:164", #[⟨20, .data⟩, ⟨4, .data⟩], none⟩) (v := .pointer (some ⟨bc, 40 + d * 12, none⟩)) rfl (by kernel_rfl) (by kernel_rfl) (by kernel_rfl) (by kernel_rfl) (fun _ _ _ h => h) (Or.inl ⟨by kernel_rfl, fun W _ => Op1.ix_dir (.tmp 38) (.tmp 22) (by kernel_rfl) (by kernel_rfl) (by kernel_rfl) (hd) W⟩) hS ?_
  try simp only [Act.put, z1, z2, z3]
  generalize World.drew _ = W0 at hS FM1 ⊢
  refine wpAnyF_one (i := 10) (o := ⟨some 28, .call { callee := .value (.func 87), args := #[.tmp 26, .tmp 27], argTypes := #[53, 3] }, 3, "soft.go:164", #[⟨8, .data⟩, ⟨9, .data⟩], none⟩) (by kernel_rfl) rfl (by kernel_rfl) (fun K hK => ?_)
  go_simp
  refine (unhide C1 W0 (unhide FM1).row).mono ?_
  rintro e w1 ⟨rfl, b1⟩
  have FM2 := hide ((unhide FM1).call b1)
  clear b1
  go_wp2_with fail
  have hS1 := PS2.of (unhide FM2) (unhide HM)
  refine hK.out _ _ (fun _ => hS1) ?_
  clear hK K
  try simp only [Act.put, z1, z2, z3]
  refine wpAnyF_take (i := 22) (oi := ⟨some 40, .indexAddr 28 (.tmp 39) (.tmp 28), 0, "soft.go:164", #[⟨21, .data⟩, ⟨10, .data⟩, ⟨0, .phase⟩, ⟨1, .phase⟩, ⟨2, .phase⟩, ⟨3, .phase⟩, ⟨4, .phase⟩, ⟨5, .phase⟩, ⟨6, .phase⟩, ⟨7, .phase⟩, ⟨8, .phase⟩, ⟨9, .phase⟩, ⟨10, .phase⟩, ⟨11, .phase⟩, ⟨12, .phase⟩, ⟨13, .phase⟩, ⟨14, .phase⟩, ⟨15, .phase⟩, ⟨16, .phase⟩, ⟨17, .phase⟩], none⟩) (v := .pointer (some ⟨bc, 40 + d * 12 + s * 3, none⟩)) rfl (by kernel_rfl) (by kernel_rfl) (by kernel_rfl) (by kernel_rfl) (fun _ _ _ h => h) (Or.inl ⟨by kernel_rfl, fun W h => Op1.ix_slot (.tmp 39) (.tmp 28) (by kernel_rfl) (by kernel_rfl) (by kernel_rfl) (hs) W⟩) hS1 ?_
  try simp only [Act.put, z1, z2, z3]
  refine wpAnyF_last (o := ⟨none, .store 27 (.tmp 40) (.tmp 35), 0, "soft.go:164", #[⟨22, .data⟩, ⟨17, .data⟩, ⟨10, .chain⟩, ⟨0, .phase⟩, ⟨1, .phase⟩, ⟨2, .phase⟩, ⟨3, .phase⟩, ⟨4, .phase⟩, ⟨5, .phase⟩, ⟨6, .phase⟩, ⟨7, .phase⟩, ⟨8, .phase⟩, ⟨9, .phase⟩, ⟨10, .phase⟩, ⟨11, .phase⟩, ⟨12, .phase⟩, ⟨13, .phase⟩, ⟨14, .phase⟩, ⟨15, .phase⟩, ⟨16, .phase⟩, ⟨17, .phase⟩], none⟩) (by kernel_rfl) rfl (by kernel_rfl) (by kernel_rfl) (fun K hK => ?_)
  refine Op1.st_part (cells := #[.string nm, .int .i64 (n : Int), .int .i64 (m.stamp n)]) (o0 := 40 + d * 12 + s * 3) 27 (.tmp 40) (.tmp 35) (by kernel_rfl) rfl (by kernel_rfl) (by kernel_rfl) (unhide FM2).row sz_ent (by have := (unhide HM).size; simp; omega) (by simp [Value.oneCell']) ?_
  refine hK.out _ _ ?_
  clear hK K
  try simp only [Act.put, z1, z2, z3]
  refine wpAnyF_done (by kernel_rfl) ?_ _
  obtain ⟨cs1, f3, hm3⟩ := Fd.ent (unhide FM2) (unhide HM) hd hs ⟨nm, (n : Int), m.stamp n⟩ hnm
  have FM3 := hide f3
  have HM3 := hide hm3
  clear f3 hm3 hS hS1 FM1 FM2
  generalize w1.setRow bc (splice (cs ++ ds) (40 + d * 12 + s * 3) #[.string nm, .int .i64 (n : Int), .int .i64 (m.stamp n)]) = W3 at FM3 ⊢
  have c2 : W3.cell? ⟨bc, n * 5 + 2, none⟩ = some (.int .i64 (m.links n)) := by
    have := ((unhide FM3).has (unhide HM3)).links n hn
    rw [Nat.zero_add] at this; exact this
  have z2 := (unhide FM3).frozen (n * 5 + 2)
  have hw : IntKind.i64.wrap (m.links n + 1) = m.links n + 1 := IntWalk.i64_in _ (by omega)
  have l3 := (unhide FM3).clt
  have DONE := hide (Fd.lnk (unhide FM3) (unhide HM3) hn (m.links n + 1))
  go_wp2_with fail
  go_end0
  exact ⟨rfl, unhide DONE⟩
end
end Go.Proofs.YtmbpckmpnnmnmabGreat
namespace Go.Proofs.YtmbpckmpnnmnmabGreat
open Go.RowKit
open Idl (Stp chk stpA)
section
variable {w w0 w1 : World} {bf bc : Nat} {cs ds rows : Array Value} {m k : Img} {last : Int}
theorem dropped_is {m : Img} {d j n : Nat} {nm : ByteArray} (hT : Img.There m (d : Int) nm j n) : Img.dropped1 m (d : Int) nm = (m.putEnt d j Ent.none).putIno n ⟨m.live n, m.stamp n, m.links n - 1, m.part n 0, m.part n 1⟩ ∧
    Img.dropped m (d : Int) nm = if ((m.putEnt d j Ent.none).putIno n ⟨m.live n, m.stamp n, m.links n - 1, m.part n 0, m.part n 1⟩).refs (n : Int) = 0 then ((m.putEnt d j Ent.none).putIno n ⟨m.live n, m.stamp n, m.links n - 1, m.part n 0, m.part n 1⟩).putIno n Ino.none else (m.putEnt d j Ent.none).putIno n ⟨m.live n, m.stamp n, m.links n - 1, m.part n 0, m.part n 1⟩ := by
  have e1 : Img.dropped1 m (d : Int) nm = (m.putEnt d j Ent.none).putIno n ⟨m.live n, m.stamp n, m.links n - 1, m.part n 0, m.part n 1⟩ := by
    unfold Img.dropped1; rw [hT.of, hT.at_, Int.toNat_natCast, Int.toNat_natCast, Int.toNat_natCast]; rfl
  refine ⟨e1, ?_⟩
  unfold Img.dropped
  rw [e1, hT.of, Int.toNat_natCast]
set_option maxHeartbeats 2000000 in
set_option maxRecDepth 100000 in
theorem sdrop_any (h : Fl w bf bc cs ds m k last) {d j n : Nat} (nm : ByteArray) (hT : Img.There m (d : Int) nm j n) (hlk : 1 ≤ m.links n ∧ m.links n ≤ 100) :
    Calls Tryz.prog 62 #[.pointer (some ⟨bf, 0, none⟩), .int .i64 (d : Int), .string nm] w fun e w' => e = .returned (.tuple #[]) ∧ Fd w w' bf bc ds (Img.dropped m (d : Int) nm) last := by
  have C0 := hide (sfind_any h (d : Int) nm)
  have C1 := hide fun W (h1 : HasAt W bc 0 m) => At.find_any bc m (d : Int) nm W h1
  rw [hT.of] at C0
  rw [hT.at_] at C1
  have hd : d < 3 := by have := hT.d3; omega
  have hj := hT.k4
  have hn := hT.n8
  have HQ := hide (dropped_is hT).2
  generalize Img.dropped m (d : Int) nm = mf at HQ ⊢
  have HM := hide h.now
  have FM0 := hide h.fm
  clear h hT
  go_enter Tryz.func62, Tryz.ntmps62
  go_wp2_with fail
  refine (unhide C0).mono ?_
  rintro e wq ⟨rfl, e9⟩
  rw [e9]
  clear e9 wq
  go_wp2_with fail
  have FM1 := hide ((unhide FM0).call (Below.refl _ _).drew)
  clear FM0 C0
  refine wp_region_F (S := PS2 bf bc m) 20 (by kernel_rfl) (PS2.of (unhide FM1) (unhide HM)) (fun hS => ?_)
  refine wpAnyF_take (i := 0) (oi := ⟨some 11, .move (.tmp 0), 42, "soft.go:172", #[], none⟩) (v := .pointer (some ⟨bf, 0, none⟩)) rfl (by kernel_rfl) (by kernel_rfl) (by kernel_rfl) (by kernel_rfl) (fun _ _ _ h => h) (Or.inl ⟨by kernel_rfl, fun W h => (by first | kernel_rfl | go_simp)⟩) hS ?_
  try simp only [Act.put, z1, z2, z3]
  refine wpAnyF_take (i := 1) (oi := ⟨some 12, .nilCheck (.tmp 11), 0, "soft.go:172", #[⟨0, .data⟩], none⟩) (v := .pointer (some ⟨bf, 0, none⟩)) rfl (by kernel_rfl) (by kernel_rfl) (by kernel_rfl) (by kernel_rfl) (fun _ _ _ h => h) (Or.inl ⟨by kernel_rfl, fun W h => (by first | kernel_rfl | go_simp)⟩) hS ?_
  try simp only [Act.put, z1, z2, z3]
  refine wpAnyF_take (i := 2) (oi := ⟨some 13, .fieldAddr 55 (.tmp 12) 0, 0, "soft.go:172", #[⟨1, .data⟩], none⟩) (v := .pointer (some ⟨bf, 0, none⟩)) rfl (by kernel_rfl) (by kernel_rfl) (by kernel_rfl) (by kernel_rfl) (fun _ _ _ h => h) (Or.inl ⟨by kernel_rfl, fun W h => (by first | kernel_rfl | go_simp)⟩) hS ?_
  try simp only [Act.put, z1, z2, z3]
  refine wpAnyF_take (i := 3) (oi := ⟨some 14, .load 53 (.tmp 13), 53, "soft.go:172", #[⟨2, .data⟩], none⟩) (v := .pointer (some ⟨bc, 0, none⟩)) rfl (by kernel_rfl) (by kernel_rfl) (by kernel_rfl) (by kernel_rfl) (fun _ _ _ h => h) (Or.inl ⟨by kernel_rfl, fun W h => Op1.ld_ptr (.tmp 13) (by kernel_rfl) (by kernel_rfl) W (h.1)⟩) hS ?_
  try simp only [Act.put, z1, z2, z3]
  refine wpAnyF_take (i := 4) (oi := ⟨some 15, .move (.tmp 1), 3, "soft.go:172", #[], none⟩) (v := .int .i64 (d : Int)) rfl (by kernel_rfl) (by kernel_rfl) (by kernel_rfl) (by kernel_rfl) (fun _ _ _ h => h) (Or.inl ⟨by kernel_rfl, fun W h => (by first | kernel_rfl | go_simp)⟩) hS ?_
  try simp only [Act.put, z1, z2, z3]
  refine wpAnyF_take (i := 5) (oi := ⟨some 16, .move (.tmp 0), 42, "soft.go:172", #[], none⟩) (v := .pointer (some ⟨bf, 0, none⟩)) rfl (by kernel_rfl) (by kernel_rfl) (by kernel_rfl) (by kernel_rfl) (fun _ _ _ h => h) (Or.inl ⟨by kernel_rfl, fun W h => (by first | kernel_rfl | go_simp)⟩) hS ?_
  try simp only [Act.put, z1, z2, z3]
  refine wpAnyF_take (i := 6) (oi := ⟨some 17, .nilCheck (.tmp 16), 0, "soft.go:172", #[⟨5, .data⟩], none⟩) (v := .pointer (some ⟨bf, 0, none⟩)) rfl (by kernel_rfl) (by kernel_rfl) (by kernel_rfl) (by kernel_rfl) (fun _ _ _ h => h) (Or.inl ⟨by kernel_rfl, fun W h => (by first | kernel_rfl | go_simp)⟩) hS ?_
  try simp only [Act.put, z1, z2, z3]
  refine wpAnyF_take (i := 7) (oi := ⟨some 18, .fieldAddr 55 (.tmp 17) 0, 0, "soft.go:172", #[⟨6, .data⟩], none⟩) (v := .pointer (some ⟨bf, 0, none⟩)) rfl (by kernel_rfl) (by kernel_rfl) (by kernel_rfl) (by kernel_rfl) (fun _ _ _ h => h) (Or.inl ⟨by kernel_rfl, fun W h => (by first | kernel_rfl | go_simp)⟩) hS ?_
  try simp only [Act.put, z1, z2, z3]
  refine wpAnyF_take (i := 8) (oi := ⟨some 19, .load 53 (.tmp 18), 53, "soft.go:172", #[⟨7, .data⟩], none⟩) (v := .pointer (some ⟨bc, 0, none⟩)) rfl (by kernel_rfl) (by kernel_rfl) (by kernel_rfl) (by kernel_rfl) (fun _ _ _ h => h) (Or.inl ⟨by kernel_rfl, fun W h => Op1.ld_ptr (.tmp 18) (by kernel_rfl) (by kernel_rfl) W (h.1)⟩) hS ?_
  try simp only [Act.put, z1, z2, z3]
  refine wpAnyF_take (i := 9) (oi := ⟨some 20, .nilCheck (.tmp 19), 0, "soft.go:172", #[⟨8, .data⟩], none⟩) (v := .pointer (some ⟨bc, 0, none⟩)) rfl (by kernel_rfl) (by kernel_rfl) (by kernel_rfl) (by kernel_rfl) (fun _ _ _ h => h) (Or.inl ⟨by kernel_rfl, fun W h => (by first | kernel_rfl | go_simp)⟩) hS ?_
  try simp only [Act.put, z1, z2, z3]
  refine wpAnyF_take (i := 10) (oi := ⟨some 21, .fieldAddr 57 (.tmp 20) 0, 0, "soft.go:172", #[⟨9, .data⟩], none⟩) (v := .pointer (some ⟨bc, 0, none⟩)) rfl (by kernel_rfl) (by kernel_rfl) (by kernel_rfl) (by kernel_rfl) (fun _ _ _ h => h) (Or.inl ⟨by kernel_rfl, fun W h => (by first | kernel_rfl | go_simp)⟩) hS ?_
  try simp only [Act.put, z1, z2, z3]
  refine wpAnyF_take (i := 11) (oi := ⟨some 22, .move (.tmp 1), 3, "soft.go:172", #[], none⟩) (v := .int .i64 (d : Int)) rfl (by kernel_rfl) (by kernel_rfl) (by kernel_rfl) (by kernel_rfl) (fun _ _ _ h => h) (Or.inl ⟨by kernel_rfl, fun W h => (by first | kernel_rfl | go_simp)⟩) hS ?_
  try simp only [Act.put, z1, z2, z3]
  refine wpAnyF_take (i := 12) (oi := ⟨some 23, .move (.tmp 2), 9, "soft.go:172", #[], none⟩) (v := .string nm) rfl (by kernel_rfl) (by kernel_rfl) (by kernel_rfl) (by kernel_rfl) (fun _ _ _ h => h) (Or.inl ⟨by kernel_rfl, fun W h => (by first | kernel_rfl | go_simp)⟩) hS ?_
  try simp only [Act.put, z1, z2, z3]
  refine wpAnyF_take (i := 14) (oi := ⟨some 25, .build 27 #[], 27, "soft.go:172", #[], none⟩) (v := .agg #[.string ⟨#[]⟩, .int .i64 0, .int .i64 0]) rfl (by kernel_rfl) (by kernel_rfl) (by kernel_rfl) (by kernel_rfl) (fun _ _ _ h => h) (Or.inl ⟨by kernel_rfl, fun W h => (by first | kernel_rfl | go_simp)⟩) hS ?_
  try simp only [Act.put, z1, z2, z3]
  refine wpAnyF_free (i := 15) (oi := ⟨some 26, .nilCheck (.tmp 14), 0, "soft.go:172", #[⟨3, .data⟩], none⟩) (v := .pointer (some ⟨bc, 0, none⟩)) rfl (by kernel_rfl) (by kernel_rfl) (by kernel_rfl) (by kernel_rfl) (fun _ _ _ h => h) (Or.inl ⟨by kernel_rfl, fun W _ => (by first | kernel_rfl | go_simp)⟩) hS ?_
  try simp only [Act.put, z1, z2, z3]
  refine wpAnyF_free (i := 16) (oi := ⟨some 27, .fieldAddr 57 (.tmp 26) 0, 0, "soft.go:172", #[⟨15, .data⟩], none⟩) (v := .pointer (some ⟨bc, 0, none⟩)) rfl (by kernel_rfl) (by kernel_rfl) (by kernel_rfl) (by kernel_rfl) (fun _ _ _ h => h) (Or.inl ⟨by kernel_rfl, fun W _ => (by first | kernel_rfl | go_simp)⟩) hS ?_
  try simp only [Act.put, z1, z2, z3]
  refine wpAnyF_free (i := 17) (oi := ⟨some 28, .fieldAddr 34 (.tmp 27) 1, 0, "soft.go:172", #[⟨16, .data⟩], none⟩) (v := .pointer (some ⟨bc, 40, none⟩)) rfl (by kernel_rfl) (by kernel_rfl) (by kernel_rfl) (by kernel_rfl) (fun _ _ _ h => h) (Or.inl ⟨by kernel_rfl, fun W _ => (by first | kernel_rfl | go_simp)⟩) hS ?_
  try simp only [Act.put, z1, z2, z3]
  refine wpAnyF_free (i := 18) (oi := ⟨some 29, .indexAddr 29 (.tmp 28) (.tmp 15), 0, "soft.go:172", #[⟨17, .data⟩, ⟨4, .data⟩], none⟩) (v := .pointer (some ⟨bc, 40 + d * 12, none⟩)) rfl (by kernel_rfl) (by kernel_rfl) (by kernel_rfl) (by kernel_rfl) (fun _ _ _ h => h) (Or.inl ⟨by kernel_rfl, fun W _ => Op1.ix_dir (.tmp 28) (.tmp 15) (by kernel_rfl) (by kernel_rfl) (by kernel_rfl) (hd) W⟩) hS ?_
  try simp only [Act.put, z1, z2, z3]
  generalize World.drew _ = W0 at hS FM1 ⊢
  refine wpAnyF_one (i := 13) (o := ⟨some 24, .call { callee := .value (.func 37), args := #[.tmp 21, .tmp 22, .tmp 23], argTypes := #[50, 3, 9] }, 3, "soft.go:172", #[⟨10, .data⟩, ⟨11, .data⟩, ⟨12, .data⟩], none⟩) (by kernel_rfl) rfl (by kernel_rfl) (fun K hK => ?_)
  go_simp
  refine (unhide C1 W0 hS.2).mono ?_
  rintro e w1 ⟨rfl, e9⟩
  rw [e9]
  clear e9 w1
  go_wp2_with fail
  have hS1 := hS
  refine hK.out _ _ (fun _ => hS1) ?_
  clear hK K
  try simp only [Act.put, z1, z2, z3]
  refine wpAnyF_take (i := 19) (oi := ⟨some 30, .indexAddr 28 (.tmp 29) (.tmp 24), 0, "soft.go:172", #[⟨18, .data⟩, ⟨13, .data⟩, ⟨0, .phase⟩, ⟨1, .phase⟩, ⟨2, .phase⟩, ⟨3, .phase⟩, ⟨4, .phase⟩, ⟨5, .phase⟩, ⟨6, .phase⟩, ⟨7, .phase⟩, ⟨8, .phase⟩, ⟨9, .phase⟩, ⟨10, .phase⟩, ⟨11, .phase⟩, ⟨12, .phase⟩, ⟨13, .phase⟩, ⟨14, .phase⟩], none⟩) (v := .pointer (some ⟨bc, 40 + d * 12 + j * 3, none⟩)) rfl (by kernel_rfl) (by kernel_rfl) (by kernel_rfl) (by kernel_rfl) (fun _ _ _ h => h) (Or.inl ⟨by kernel_rfl, fun W h => Op1.ix_slot (.tmp 29) (.tmp 24) (by kernel_rfl) (by kernel_rfl) (by kernel_rfl) (hj) W⟩) hS1 ?_
  try simp only [Act.put, z1, z2, z3]
  refine wpAnyF_last (o := ⟨none, .store 27 (.tmp 30) (.tmp 25), 0, "soft.go:172", #[⟨19, .data⟩, ⟨14, .data⟩, ⟨13, .chain⟩, ⟨0, .phase⟩, ⟨1, .phase⟩, ⟨2, .phase⟩, ⟨3, .phase⟩, ⟨4, .phase⟩, ⟨5, .phase⟩, ⟨6, .phase⟩, ⟨7, .phase⟩, ⟨8, .phase⟩, ⟨9, .phase⟩, ⟨10, .phase⟩, ⟨11, .phase⟩, ⟨12, .phase⟩, ⟨13, .phase⟩, ⟨14, .phase⟩], none⟩) (by kernel_rfl) rfl (by kernel_rfl) (by kernel_rfl) (fun K hK => ?_)
  refine Op1.st_part (cells := #[.string ⟨#[]⟩, .int .i64 0, .int .i64 0]) (o0 := 40 + d * 12 + j * 3) 27 (.tmp 30) (.tmp 25) (by kernel_rfl) rfl (by kernel_rfl) (by kernel_rfl) (unhide FM1).row sz_ent (by have := (unhide HM).size; simp; omega) (by kernel_rfl) ?_
  refine hK.out _ _ ?_
  clear hK K
  try simp only [Act.put, z1, z2, z3]
  refine wpAnyF_done (by kernel_rfl) ?_ _
  obtain ⟨cs1, f3, hm3⟩ := Fd.ent (unhide FM1) (unhide HM) hd hj Ent.none (Nat.zero_le _)
  have FM2 := hide f3
  have HM2 := hide hm3
  clear f3 hm3 hS hS1 FM1 HM C1
  obtain ⟨m1, hm1⟩ : ∃ m1, m1 = m.putEnt d j Ent.none := ⟨_, rfl⟩
  have HE := hide (show m1.live n = m.live n ∧ m1.stamp n = m.stamp n ∧ m1.links n = m.links n ∧ m1.part n 0 = m.part n 0 ∧ m1.part n 1 = m.part n 1 by rw [hm1]; exact ⟨rfl, rfl, rfl, rfl, rfl⟩)
  rw [← hm1] at HM2 HQ
  clear hm1
  have el := (unhide HE).2.2.1
  rw [← (unhide HE).1, ← (unhide HE).2.1, ← el, ← (unhide HE).2.2.2.1, ← (unhide HE).2.2.2.2] at HQ
  rw [← el] at hlk
  clear el HE
  have FM2' : Hid (Fm w (W0.setRow bc (splice (cs ++ ds) (40 + d * 12 + j * 3) #[.string ⟨#[]⟩, .int .i64 0, .int .i64 0])) bf bc (cs1 ++ ds) last) := FM2
  clear FM2
  have FM2 := FM2'
  clear FM2'
  generalize W0.setRow bc (splice (cs ++ ds) (40 + d * 12 + j * 3) #[.string ⟨#[]⟩, .int .i64 0, .int .i64 0]) = W1 at FM2 ⊢
  go_wp2_with fail
  have FM3 := hide ((unhide FM2).call (Below.refl _ _).drew)
  clear FM2
  refine wp_region_F (S := PS2 bf bc m1) 17 (by kernel_rfl) (PS2.of (unhide FM3) (unhide HM2)) (fun hS => ?_)
  refine wpAnyF_take (i := 0) (oi := ⟨some 31, .move (.tmp 0), 42, "soft.go:173", #[], none⟩) (v := .pointer (some ⟨bf, 0, none⟩)) rfl (by kernel_rfl) (by kernel_rfl) (by kernel_rfl) (by kernel_rfl) (fun _ _ _ h => h) (Or.inl ⟨by kernel_rfl, fun W h => (by first | kernel_rfl | go_simp)⟩) hS ?_
  try simp only [Act.put, z1, z2, z3]
  refine wpAnyF_take (i := 1) (oi := ⟨some 32, .nilCheck (.tmp 31), 0, "soft.go:173", #[⟨0, .data⟩], none⟩) (v := .pointer (some ⟨bf, 0, none⟩)) rfl (by kernel_rfl) (by kernel_rfl) (by kernel_rfl) (by kernel_rfl) (fun _ _ _ h => h) (Or.inl ⟨by kernel_rfl, fun W h => (by first | kernel_rfl | go_simp)⟩) hS ?_
  try simp only [Act.put, z1, z2, z3]
  refine wpAnyF_take (i := 2) (oi := ⟨some 33, .fieldAddr 55 (.tmp 32) 0, 0, "soft.go:173", #[⟨1, .data⟩], none⟩) (v := .pointer (some ⟨bf, 0, none⟩)) rfl (by kernel_rfl) (by kernel_rfl) (by kernel_rfl) (by kernel_rfl) (fun _ _ _ h => h) (Or.inl ⟨by kernel_rfl, fun W h => (by first | kernel_rfl | go_simp)⟩) hS ?_
  try simp only [Act.put, z1, z2, z3]
  refine wpAnyF_take (i := 3) (oi := ⟨some 34, .load 53 (.tmp 33), 53, "soft.go:173", #[⟨2, .data⟩], none⟩) (v := .pointer (some ⟨bc, 0, none⟩)) rfl (by kernel_rfl) (by kernel_rfl) (by kernel_rfl) (by kernel_rfl) (fun _ _ _ h => h) (Or.inl ⟨by kernel_rfl, fun W h => Op1.ld_ptr (.tmp 33) (by kernel_rfl) (by kernel_rfl) W (h.1)⟩) hS ?_
  try simp only [Act.put, z1, z2, z3]
  refine wpAnyF_take (i := 4) (oi := ⟨some 35, .move (.tmp 6), 3, "soft.go:173", #[], none⟩) (v := .int .i64 (n : Int)) rfl (by kernel_rfl) (by kernel_rfl) (by kernel_rfl) (by kernel_rfl) (fun _ _ _ h => h) (Or.inl ⟨by kernel_rfl, fun W h => (by first | kernel_rfl | go_simp)⟩) hS ?_
  try simp only [Act.put, z1, z2, z3]
  refine wpAnyF_take (i := 5) (oi := ⟨some 36, .nilCheck (.tmp 34), 0, "soft.go:173", #[⟨3, .data⟩], none⟩) (v := .pointer (some ⟨bc, 0, none⟩)) rfl (by kernel_rfl) (by kernel_rfl) (by kernel_rfl) (by kernel_rfl) (fun _ _ _ h => h) (Or.inl ⟨by kernel_rfl, fun W h => (by first | kernel_rfl | go_simp)⟩) hS ?_
  try simp only [Act.put, z1, z2, z3]
  refine wpAnyF_take (i := 6) (oi := ⟨some 37, .fieldAddr 57 (.tmp 36) 0, 0, "soft.go:173", #[⟨5, .data⟩], none⟩) (v := .pointer (some ⟨bc, 0, none⟩)) rfl (by kernel_rfl) (by kernel_rfl) (by kernel_rfl) (by kernel_rfl) (fun _ _ _ h => h) (Or.inl ⟨by kernel_rfl, fun W h => (by first | kernel_rfl | go_simp)⟩) hS ?_
  try simp only [Act.put, z1, z2, z3]
  refine wpAnyF_take (i := 7) (oi := ⟨some 38, .fieldAddr 34 (.tmp 37) 0, 0, "soft.go:173", #[⟨6, .data⟩], none⟩) (v := .pointer (some ⟨bc, 0, none⟩)) rfl (by kernel_rfl) (by kernel_rfl) (by kernel_rfl) (by kernel_rfl) (fun _ _ _ h => h) (Or.inl ⟨by kernel_rfl, fun W h => (by first | kernel_rfl | go_simp)⟩) hS ?_
  try simp only [Act.put, z1, z2, z3]
  refine wpAnyF_take (i := 8) (oi := ⟨some 39, .indexAddr 25 (.tmp 38) (.tmp 35), 0, "soft.go:173", #[⟨7, .data⟩, ⟨4, .data⟩], none⟩) (v := .pointer (some ⟨bc, n * 5, none⟩)) rfl (by kernel_rfl) (by kernel_rfl) (by kernel_rfl) (by kernel_rfl) (fun _ _ _ h => h) (Or.inl ⟨by kernel_rfl, fun W h => Op1.ix_ino (.tmp 38) (.tmp 35) (by kernel_rfl) (by kernel_rfl) (by kernel_rfl) (hn) W⟩) hS ?_
  try simp only [Act.put, z1, z2, z3]
  refine wpAnyF_take (i := 9) (oi := ⟨some 40, .fieldAddr 24 (.tmp 39) 2, 0, "soft.go:173", #[⟨8, .data⟩], none⟩) (v := .pointer (some ⟨bc, n * 5 + 2, none⟩)) rfl (by kernel_rfl) (by kernel_rfl) (by kernel_rfl) (by kernel_rfl) (fun _ _ _ h => h) (Or.inl ⟨by kernel_rfl, fun W h => (by first | kernel_rfl | go_simp)⟩) hS ?_
  try simp only [Act.put, z1, z2, z3]
  refine wpAnyF_take (i := 10) (oi := ⟨some 41, .load 3 (.tmp 40), 3, "soft.go:173", #[⟨9, .data⟩], none⟩) (v := .int .i64 (m1.links n)) rfl (by kernel_rfl) (by kernel_rfl) (by kernel_rfl) (by kernel_rfl) (fun _ _ _ h => h) (Or.inl ⟨by kernel_rfl, fun W h => Op1.ld_int (.tmp 40) (by kernel_rfl) (by kernel_rfl) W (by have := h.2.links n hn; rw [Nat.zero_add] at this; exact this)⟩) hS ?_
  try simp only [Act.put, z1, z2, z3]
  refine wpAnyF_take (i := 11) (oi := ⟨some 42, .binOp .sub 3 (.tmp 41) (.const (.int .i64 1)) 3, 3, "soft.go:173", #[⟨10, .data⟩], none⟩) (v := .int .i64 (m1.links n - 1)) rfl (by kernel_rfl) (by kernel_rfl) (by kernel_rfl) (by kernel_rfl) (fun _ _ _ h => h) (Or.inl ⟨by kernel_rfl, fun W h => Op1.sub1 (.tmp 41) (by kernel_rfl) (by kernel_rfl) (by kernel_rfl) (by omega) W⟩) hS ?_
  try simp only [Act.put, z1, z2, z3]
  refine wpAnyF_free (i := 12) (oi := ⟨some 43, .nilCheck (.tmp 34), 0, "soft.go:173", #[⟨3, .data⟩], none⟩) (v := .pointer (some ⟨bc, 0, none⟩)) rfl (by kernel_rfl) (by kernel_rfl) (by kernel_rfl) (by kernel_rfl) (fun _ _ _ h => h) (Or.inl ⟨by kernel_rfl, fun W _ => (by first | kernel_rfl | go_simp)⟩) hS ?_
  try simp only [Act.put, z1, z2, z3]
  refine wpAnyF_free (i := 13) (oi := ⟨some 44, .fieldAddr 57 (.tmp 43) 0, 0, "soft.go:173", #[⟨12, .data⟩], none⟩) (v := .pointer (some ⟨bc, 0, none⟩)) rfl (by kernel_rfl) (by kernel_rfl) (by kernel_rfl) (by kernel_rfl) (fun _ _ _ h => h) (Or.inl ⟨by kernel_rfl, fun W _ => (by first | kernel_rfl | go_simp)⟩) hS ?_
  try simp only [Act.put, z1, z2, z3]
  refine wpAnyF_free (i := 14) (oi := ⟨some 45, .fieldAddr 34 (.tmp 44) 0, 0, "soft.go:173", #[⟨13, .data⟩], none⟩) (v := .pointer (some ⟨bc, 0, none⟩)) rfl (by kernel_rfl) (by kernel_rfl) (by kernel_rfl) (by kernel_rfl) (fun _ _ _ h => h) (Or.inl ⟨by kernel_rfl, fun W _ => (by first | kernel_rfl | go_simp)⟩) hS ?_
  try simp only [Act.put, z1, z2, z3]
  refine wpAnyF_free (i := 15) (oi := ⟨some 46, .indexAddr 25 (.tmp 45) (.tmp 35), 0, "soft.go:173", #[⟨14, .data⟩, ⟨4, .data⟩, ⟨0, .phase⟩, ⟨1, .phase⟩, ⟨2, .phase⟩, ⟨3, .phase⟩, ⟨4, .phase⟩, ⟨5, .phase⟩, ⟨6, .phase⟩, ⟨7, .phase⟩, ⟨8, .phase⟩, ⟨9, .phase⟩, ⟨10, .phase⟩, ⟨11, .phase⟩], none⟩) (v := .pointer (some ⟨bc, n * 5, none⟩)) rfl (by kernel_rfl) (by kernel_rfl) (by kernel_rfl) (by kernel_rfl) (fun _ _ _ h => h) (Or.inl ⟨by kernel_rfl, fun W _ => Op1.ix_ino (.tmp 45) (.tmp 35) (by kernel_rfl) (by kernel_rfl) (by kernel_rfl) (hn) W⟩) hS ?_
  try simp only [Act.put, z1, z2, z3]
  refine wpAnyF_take (i := 16) (oi := ⟨some 47, .fieldAddr 24 (.tmp 46) 2, 0, "soft.go:173", #[⟨15, .data⟩, ⟨0, .phase⟩, ⟨1, .phase⟩, ⟨2, .phase⟩, ⟨3, .phase⟩, ⟨4, .phase⟩, ⟨5, .phase⟩, ⟨6, .phase⟩, ⟨7, .phase⟩, ⟨8, .phase⟩, ⟨9, .phase⟩, ⟨10, .phase⟩, ⟨11, .phase⟩], none⟩) (v := .pointer (some ⟨bc, n * 5 + 2, none⟩)) rfl (by kernel_rfl) (by kernel_rfl) (by kernel_rfl) (by kernel_rfl) (fun _ _ _ h => h) (Or.inl ⟨by kernel_rfl, fun W h => (by first | kernel_rfl | go_simp)⟩) hS ?_
  try simp only [Act.put, z1, z2, z3]
  generalize World.drew _ = W2 at hS FM3 ⊢
  refine wpAnyF_last (o := ⟨none, .store 3 (.tmp 47) (.tmp 42), 0, "soft.go:173", #[⟨16, .data⟩, ⟨11, .data⟩, ⟨0, .phase⟩, ⟨1, .phase⟩, ⟨2, .phase⟩, ⟨3, .phase⟩, ⟨4, .phase⟩, ⟨5, .phase⟩, ⟨6, .phase⟩, ⟨7, .phase⟩, ⟨8, .phase⟩, ⟨9, .phase⟩, ⟨10, .phase⟩, ⟨11, .phase⟩], none⟩) (by kernel_rfl) rfl (by kernel_rfl) (by kernel_rfl) (fun K hK => ?_)
  refine Op1.st_int (v := m1.links n - 1) (.tmp 47) (.tmp 42) (by kernel_rfl) rfl (by kernel_rfl) (by kernel_rfl) (by have := hS.2.links n hn; rw [Nat.zero_add] at this; exact this) ((unhide FM3).frozen _) ?_
  refine hK.out _ _ ?_
  clear hK K
  try simp only [Act.put, z1, z2, z3]
  refine wpAnyF_done (by kernel_rfl) ?_ _
  obtain ⟨cs2, f4, hm4⟩ := Fd.lnk (unhide FM3) (unhide HM2) hn (m1.links n - 1)
  have FM4 := hide f4
  have HM4 := hide hm4
  clear f4 hm4 hS FM3 HM2
  generalize W2.setCell ⟨bc, n * 5 + 2, none⟩ (.int .i64 (m1.links n - 1)) = W3 at FM4 ⊢
  generalize m1.putIno n ⟨m1.live n, m1.stamp n, m1.links n - 1, m1.part n 0, m1.part n 1⟩ = m2 at HM4 HQ
  have p3 := (unhide FM4).ptr
  have l3 := (unhide FM4).flt
  have C2 := hide (At.refs_any bc m2 (n : Int) W3 ((unhide FM4).has (unhide HM4)))
  generalize hrf : m2.refs (n : Int) = rf at C2
  have HRF := hide hrf
  clear hrf
  go_wp2_with fail
  refine (unhide C2).mono ?_
  rintro e wq ⟨rfl, e9⟩
  rw [e9]
  clear e9 wq C2
  by_cases hz : rf = 0
  · have u1 : ((rf : Int) == 0) = true := by simp [hz]
    have FIN := hide (show mf = m2.putIno n Ino.none by rw [unhide HQ, unhide HRF, if_pos hz])
    clear hz p3 l3
    go_wp2_with fail
    have FM5 := hide ((unhide FM4).call (Below.refl _ _).drew)
    clear FM4
    refine wp_region_F (S := PS2 bf bc m2) 10 (by kernel_rfl) (PS2.of (unhide FM5) (unhide HM4)) (fun hS => ?_)
    refine wpAnyF_take (i := 0) (oi := ⟨some 57, .move (.tmp 0), 42, "soft.go:175", #[], none⟩) (v := .pointer (some ⟨bf, 0, none⟩)) rfl (by kernel_rfl) (by kernel_rfl) (by kernel_rfl) (by kernel_rfl) (fun _ _ _ h => h) (Or.inl ⟨by kernel_rfl, fun W h => (by first | kernel_rfl | go_simp)⟩) hS ?_
    try simp only [Act.put, z1, z2, z3]
    refine wpAnyF_take (i := 1) (oi := ⟨some 58, .nilCheck (.tmp 57), 0, "soft.go:175", #[⟨0, .data⟩], none⟩) (v := .pointer (some ⟨bf, 0, none⟩)) rfl (by kernel_rfl) (by kernel_rfl) (by kernel_rfl) (by kernel_rfl) (fun _ _ _ h => h) (Or.inl ⟨by kernel_rfl, fun W h => (by first | kernel_rfl | go_simp)⟩) hS ?_
    try simp only [Act.put, z1, z2, z3]
    refine wpAnyF_take (i := 2) (oi := ⟨some 59, .fieldAddr 55 (.tmp 58) 0, 0, "soft.go:175", #[⟨1, .data⟩], none⟩) (v := .pointer (some ⟨bf, 0, none⟩)) rfl (by kernel_rfl) (by kernel_rfl) (by kernel_rfl) (by kernel_rfl) (fun _ _ _ h => h) (Or.inl ⟨by kernel_rfl, fun W h => (by first | kernel_rfl | go_simp)⟩) hS ?_
    try simp only [Act.put, z1, z2, z3]
    refine wpAnyF_take (i := 3) (oi := ⟨some 60, .load 53 (.tmp 59), 53, "soft.go:175", #[⟨2, .data⟩], none⟩) (v := .pointer (some ⟨bc, 0, none⟩)) rfl (by kernel_rfl) (by kernel_rfl) (by kernel_rfl) (by kernel_rfl) (fun _ _ _ h => h) (Or.inl ⟨by kernel_rfl, fun W h => Op1.ld_ptr (.tmp 59) (by kernel_rfl) (by kernel_rfl) W (h.1)⟩) hS ?_
    try simp only [Act.put, z1, z2, z3]
    refine wpAnyF_take (i := 4) (oi := ⟨some 61, .move (.tmp 6), 3, "soft.go:175", #[], none⟩) (v := .int .i64 (n : Int)) rfl (by kernel_rfl) (by kernel_rfl) (by kernel_rfl) (by kernel_rfl) (fun _ _ _ h => h) (Or.inl ⟨by kernel_rfl, fun W h => (by first | kernel_rfl | go_simp)⟩) hS ?_
    try simp only [Act.put, z1, z2, z3]
    refine wpAnyF_free (i := 6) (oi := ⟨some 63, .nilCheck (.tmp 60), 0, "soft.go:175", #[⟨3, .data⟩], none⟩) (v := .pointer (some ⟨bc, 0, none⟩)) rfl (by kernel_rfl) (by kernel_rfl) (by kernel_rfl) (by kernel_rfl) (fun _ _ _ h => h) (Or.inl ⟨by kernel_rfl, fun W _ => (by first | kernel_rfl | go_simp)⟩) hS ?_
    try simp only [Act.put, z1, z2, z3]
    refine wpAnyF_free (i := 7) (oi := ⟨some 64, .fieldAddr 57 (.tmp 63) 0, 0, "soft.go:175", #[⟨6, .data⟩], none⟩) (v := .pointer (some ⟨bc, 0, none⟩)) rfl (by kernel_rfl) (by kernel_rfl) (by kernel_rfl) (by kernel_rfl) (fun _ _ _ h => h) (Or.inl ⟨by kernel_rfl, fun W _ => (by first | kernel_rfl | go_simp)⟩) hS ?_
    try simp only [Act.put, z1, z2, z3]
    refine wpAnyF_free (i := 8) (oi := ⟨some 65, .fieldAddr 34 (.tmp 64) 0, 0, "soft.go:175", #[⟨7, .data⟩], none⟩) (v := .pointer (some ⟨bc, 0, none⟩)) rfl (by kernel_rfl) (by kernel_rfl) (by kernel_rfl) (by kernel_rfl) (fun _ _ _ h => h) (Or.inl ⟨by kernel_rfl, fun W _ => (by first | kernel_rfl | go_simp)⟩) hS ?_
    try simp only [Act.put, z1, z2, z3]
    generalize World.drew _ = W4 at hS FM5 ⊢
    refine wpAnyF_one (i := 5) (o := ⟨some 62, .call { callee := .value (.func 88), args := #[], argTypes := #[] }, 24, "soft.go:175", #[], none⟩) (by kernel_rfl) rfl (by kernel_rfl) (fun K hK => ?_)
    go_simp
    refine (free_any W4).mono ?_
    rintro e w5 ⟨rfl, b5⟩
    have FM6 := hide ((unhide FM5).call b5)
    clear b5
    go_wp2_with fail
    have hS1 := PS2.of (unhide FM6) (unhide HM4)
    refine hK.out _ _ (fun _ => hS1) ?_
    clear hK K
    try simp only [Act.put, z1, z2, z3]
    refine wpAnyF_take (i := 9) (oi := ⟨some 66, .indexAddr 25 (.tmp 65) (.tmp 61), 0, "soft.go:175", #[⟨8, .data⟩, ⟨4, .data⟩, ⟨0, .phase⟩, ⟨1, .phase⟩, ⟨2, .phase⟩, ⟨3, .phase⟩, ⟨4, .phase⟩, ⟨5, .phase⟩], none⟩) (v := .pointer (some ⟨bc, n * 5, none⟩)) rfl (by kernel_rfl) (by kernel_rfl) (by kernel_rfl) (by kernel_rfl) (fun _ _ _ h => h) (Or.inl ⟨by kernel_rfl, fun W h => Op1.ix_ino (.tmp 65) (.tmp 61) (by kernel_rfl) (by kernel_rfl) (by kernel_rfl) (hn) W⟩) hS1 ?_
    try simp only [Act.put, z1, z2, z3]
    refine wpAnyF_last (o := ⟨none, .store 24 (.tmp 66) (.tmp 62), 0, "soft.go:175", #[⟨9, .data⟩, ⟨5, .data⟩, ⟨5, .chain⟩, ⟨0, .phase⟩, ⟨1, .phase⟩, ⟨2, .phase⟩, ⟨3, .phase⟩, ⟨4, .phase⟩, ⟨5, .phase⟩], none⟩) (by kernel_rfl) rfl (by kernel_rfl) (by kernel_rfl) (fun K hK => ?_)
    refine Op1.st_part (cells := #[.bool false, .int .i64 0, .int .i64 0, .int .i64 (-1), .int .i64 (-1)]) (o0 := n * 5) 24 (.tmp 66) (.tmp 62) (by kernel_rfl) rfl (by kernel_rfl) (by kernel_rfl) (unhide FM6).row sz_ino (by have := (unhide HM4).size; simp; omega) (by kernel_rfl) ?_
    refine hK.out _ _ ?_
    clear hK K
    try simp only [Act.put, z1, z2, z3]
    refine wpAnyF_done (by kernel_rfl) ?_ _
    have DONE := hide (Fd.ino (unhide FM6) (unhide HM4) hn Ino.none)
    clear hS hS1
    go_wp2_with fail
    go_end0
    exact ⟨rfl, by rw [unhide FIN]; exact unhide DONE⟩
  · have u1 : ((rf : Int) == 0) = false := by simp; omega
    have FIN := hide (show mf = m2 by rw [unhide HQ, unhide HRF, if_neg hz])
    have DONE := hide (show Fd w W3 bf bc ds m2 last from ⟨cs2, unhide FM4, unhide HM4⟩)
    clear hz p3 l3
    go_wp2_with fail
    go_end0
    exact ⟨rfl, by rw [unhide FIN]; exact unhide DONE⟩
end
end Go.Proofs.YtmbpckmpnnmnmabGreat
namespace Go.Proofs.YtmbpckmpnnmnmabGreat
open Go.RowKit
open Idl (Stp chk stpA)
section
variable {w w0 w1 : World} {bf bc : Nat} {cs ds rows : Array Value} {m k : Img} {last : Int}
set_option maxHeartbeats 2000000 in
set_option maxRecDepth 100000 in
theorem sput_any (h : Fl w bf bc cs ds m k last) {n q x : Nat} (hn : n < 8) (hq : q < 2) (hx : x < 9) (text : ByteArray) (ht : text.size ≤ maxLen) (hc : (m.part n q < 0 ∧ Img.freeData m k = (x : Int)) ∨ m.part n q = (x : Int)) :
    Calls Tryz.prog 63 #[.pointer (some ⟨bf, 0, none⟩), .int .i64 (n : Int), .int .i64 (q : Int), .string text] w fun e w' => e = .returned (.tuple #[]) ∧ Fd w w' bf bc ds (Img.putPart m k n q text) last := by
  have nz : (n : Int) < 8 := by omega
  have qz : (q : Int) < 2 := by omega
  have HM := hide h.now
  have FM0 := hide h.fm
  have p0 := h.ptr
  have l0 := h.flt
  have l1 := h.clt
  have c0 : w.cell? ⟨bc, n * 5 + 3 + q, none⟩ = some (.int .i64 (m.part n q)) := by
    have := h.hasNow.part n q hn hq
    rw [Nat.zero_add] at this; exact this
  rcases hc with ⟨hneg, he⟩ | hpos
  · have e1 : Img.putPart m k n q text = (m.setPart n q (x : Int)).putData x ((m.setPart n q (x : Int)).stamp n) text := by
      unfold Img.putPart
      simp only [if_pos hneg, he]
      rw [Img.setPart_at hq, Int.toNat_natCast]
    have FIN := hide e1
    have C1 := hide fun W (h1 : W.heap[bc]? = some (.cells (cs ++ ds) 57)) => cData_any bc cs ds m k h.now h.disk W h1
    rw [he] at C1
    have u1 : decide (m.part n q < 0) = true := by simpa using hneg
    generalize Img.putPart m k n q text = mf at FIN ⊢
    have HSA := hide (Img.setPart_at (now := m) (n := n) hq (x : Int))
    generalize m.part n q = pt at c0 u1
    clear h he e1 hneg
    go_enter Tryz.func63, Tryz.ntmps63
    go_wp2_with fail
    have FM1 := hide ((unhide FM0).call (Below.refl _ _).drew)
    clear FM0 p0 l0 l1 nz qz c0
    refine wp_region_F (S := PS2 bf bc m) 10 (by kernel_rfl) (PS2.of (unhide FM1) (unhide HM)) (fun hS => ?_)
    refine wpAnyF_take (i := 0) (oi := ⟨some 25, .move (.tmp 8), 101, "soft.go:183", #[], none⟩) (v := .pointer (some ⟨bc, n * 5, none⟩)) rfl (by kernel_rfl) (by kernel_rfl) (by kernel_rfl) (by kernel_rfl) (fun _ _ _ h => h) (Or.inl ⟨by kernel_rfl, fun W h => (by first | kernel_rfl | go_simp)⟩) hS ?_
    try simp only [Act.put, z1, z2, z3]
    refine wpAnyF_take (i := 1) (oi := ⟨some 26, .move (.tmp 2), 3, "soft.go:183", #[], none⟩) (v := .int .i64 (q : Int)) rfl (by kernel_rfl) (by kernel_rfl) (by kernel_rfl) (by kernel_rfl) (fun _ _ _ h => h) (Or.inl ⟨by kernel_rfl, fun W h => (by first | kernel_rfl | go_simp)⟩) hS ?_
    try simp only [Act.put, z1, z2, z3]
    refine wpAnyF_take (i := 2) (oi := ⟨some 27, .move (.tmp 0), 42, "soft.go:183", #[], none⟩) (v := .pointer (some ⟨bf, 0, none⟩)) rfl (by kernel_rfl) (by kernel_rfl) (by kernel_rfl) (by kernel_rfl) (fun _ _ _ h => h) (Or.inl ⟨by kernel_rfl, fun W h => (by first | kernel_rfl | go_simp)⟩) hS ?_
    try simp only [Act.put, z1, z2, z3]
    refine wpAnyF_take (i := 3) (oi := ⟨some 28, .nilCheck (.tmp 27), 0, "soft.go:183", #[⟨2, .data⟩], none⟩) (v := .pointer (some ⟨bf, 0, none⟩)) rfl (by kernel_rfl) (by kernel_rfl) (by kernel_rfl) (by kernel_rfl) (fun _ _ _ h => h) (Or.inl ⟨by kernel_rfl, fun W h => (by first | kernel_rfl | go_simp)⟩) hS ?_
    try simp only [Act.put, z1, z2, z3]
    refine wpAnyF_take (i := 4) (oi := ⟨some 29, .fieldAddr 55 (.tmp 28) 0, 0, "soft.go:183", #[⟨3, .data⟩], none⟩) (v := .pointer (some ⟨bf, 0, none⟩)) rfl (by kernel_rfl) (by kernel_rfl) (by kernel_rfl) (by kernel_rfl) (fun _ _ _ h => h) (Or.inl ⟨by kernel_rfl, fun W h => (by first | kernel_rfl | go_simp)⟩) hS ?_
    try simp only [Act.put, z1, z2, z3]
    refine wpAnyF_take (i := 5) (oi := ⟨some 30, .load 53 (.tmp 29), 53, "soft.go:183", #[⟨4, .data⟩], none⟩) (v := .pointer (some ⟨bc, 0, none⟩)) rfl (by kernel_rfl) (by kernel_rfl) (by kernel_rfl) (by kernel_rfl) (fun _ _ _ h => h) (Or.inl ⟨by kernel_rfl, fun W h => Op1.ld_ptr (.tmp 29) (by kernel_rfl) (by kernel_rfl) W (h.1)⟩) hS ?_
    try simp only [Act.put, z1, z2, z3]
    refine wpAnyF_free (i := 7) (oi := ⟨some 32, .nilCheck (.tmp 25), 0, "soft.go:183", #[⟨0, .data⟩], none⟩) (v := .pointer (some ⟨bc, n * 5, none⟩)) rfl (by kernel_rfl) (by kernel_rfl) (by kernel_rfl) (by kernel_rfl) (fun _ _ _ h => h) (Or.inl ⟨by kernel_rfl, fun W _ => (by first | kernel_rfl | go_simp)⟩) hS ?_
    try simp only [Act.put, z1, z2, z3]
    refine wpAnyF_free (i := 8) (oi := ⟨some 33, .fieldAddr 24 (.tmp 32) 3, 0, "soft.go:183", #[⟨7, .data⟩], none⟩) (v := .pointer (some ⟨bc, n * 5 + 3, none⟩)) rfl (by kernel_rfl) (by kernel_rfl) (by kernel_rfl) (by kernel_rfl) (fun _ _ _ h => h) (Or.inl ⟨by kernel_rfl, fun W _ => (by first | kernel_rfl | go_simp)⟩) hS ?_
    try simp only [Act.put, z1, z2, z3]
    generalize World.drew _ = W0 at hS FM1 ⊢
    refine wpAnyF_one (i := 6) (o := ⟨some 31, .call { callee := .value (.func 86), args := #[.tmp 30], argTypes := #[53] }, 3, "soft.go:183", #[⟨5, .data⟩], none⟩) (by kernel_rfl) rfl (by kernel_rfl) (fun K hK => ?_)
    go_simp
    refine (unhide C1 W0 (unhide FM1).row).mono ?_
    rintro e w1 ⟨rfl, b1⟩
    have FM2 := hide ((unhide FM1).call b1)
    clear b1
    go_wp2_with fail
    have hS1 := PS2.of (unhide FM2) (unhide HM)
    refine hK.out _ _ (fun _ => hS1) ?_
    clear hK K
    try simp only [Act.put, z1, z2, z3]
    refine wpAnyF_take (i := 9) (oi := ⟨some 34, .indexAddr 22 (.tmp 33) (.tmp 26), 0, "soft.go:183", #[⟨8, .data⟩, ⟨1, .data⟩, ⟨0, .phase⟩, ⟨1, .phase⟩, ⟨2, .phase⟩, ⟨3, .phase⟩, ⟨4, .phase⟩, ⟨5, .phase⟩, ⟨6, .phase⟩], none⟩) (v := .pointer (some ⟨bc, n * 5 + 3 + q, none⟩)) rfl (by kernel_rfl) (by kernel_rfl) (by kernel_rfl) (by kernel_rfl) (fun _ _ _ h => h) (Or.inl ⟨by kernel_rfl, fun W h => Op1.ix_part (.tmp 33) (.tmp 26) (by kernel_rfl) (by kernel_rfl) (by kernel_rfl) (hq) W⟩) hS1 ?_
    try simp only [Act.put, z1, z2, z3]
    refine wpAnyF_last (o := ⟨none, .store 3 (.tmp 34) (.tmp 31), 0, "soft.go:183", #[⟨9, .data⟩, ⟨6, .data⟩, ⟨6, .chain⟩, ⟨0, .phase⟩, ⟨1, .phase⟩, ⟨2, .phase⟩, ⟨3, .phase⟩, ⟨4, .phase⟩, ⟨5, .phase⟩, ⟨6, .phase⟩], none⟩) (by kernel_rfl) rfl (by kernel_rfl) (by kernel_rfl) (fun K hK => ?_)
    refine Op1.st_int (v := (x : Int)) (.tmp 34) (.tmp 31) (by kernel_rfl) rfl (by kernel_rfl) (by kernel_rfl) (by have := hS1.2.part n q hn hq; rw [Nat.zero_add] at this; exact this) ((unhide FM2).frozen _) ?_
    refine hK.out _ _ ?_
    clear hK K
    try simp only [Act.put, z1, z2, z3]
    refine wpAnyF_done (by kernel_rfl) ?_ _
    obtain ⟨cs2, f4, hm4⟩ := Fd.part (unhide FM2) (unhide HM) hn hq (x : Int)
    have FM4 := hide f4
    have HM4 := hide hm4
    clear f4 hm4 hS hS1 FM1 FM2 HM C1
    generalize w1.setCell ⟨bc, n * 5 + 3 + q, none⟩ (.int .i64 (x : Int)) = W3 at FM4 ⊢
    generalize m.setPart n q (x : Int) = m1 at HM4 FIN HSA
    have HPX := HSA
    go_wp2_with fail
    have FM5 := hide ((unhide FM4).call (Below.refl _ _).drew)
    clear FM4
    refine wp_region_F (S := PS2 bf bc m1) 20 (by kernel_rfl) (PS2.of (unhide FM5) (unhide HM4)) (fun hS => ?_)
    refine wpAnyF_take (i := 0) (oi := ⟨some 35, .move (.tmp 0), 42, "soft.go:185", #[], none⟩) (v := .pointer (some ⟨bf, 0, none⟩)) rfl (by kernel_rfl) (by kernel_rfl) (by kernel_rfl) (by kernel_rfl) (fun _ _ _ h => h) (Or.inl ⟨by kernel_rfl, fun W h => (by first | kernel_rfl | go_simp)⟩) hS ?_
    try simp only [Act.put, z1, z2, z3]
    refine wpAnyF_take (i := 1) (oi := ⟨some 36, .nilCheck (.tmp 35), 0, "soft.go:185", #[⟨0, .data⟩], none⟩) (v := .pointer (some ⟨bf, 0, none⟩)) rfl (by kernel_rfl) (by kernel_rfl) (by kernel_rfl) (by kernel_rfl) (fun _ _ _ h => h) (Or.inl ⟨by kernel_rfl, fun W h => (by first | kernel_rfl | go_simp)⟩) hS ?_
    try simp only [Act.put, z1, z2, z3]
    refine wpAnyF_take (i := 2) (oi := ⟨some 37, .fieldAddr 55 (.tmp 36) 0, 0, "soft.go:185", #[⟨1, .data⟩], none⟩) (v := .pointer (some ⟨bf, 0, none⟩)) rfl (by kernel_rfl) (by kernel_rfl) (by kernel_rfl) (by kernel_rfl) (fun _ _ _ h => h) (Or.inl ⟨by kernel_rfl, fun W h => (by first | kernel_rfl | go_simp)⟩) hS ?_
    try simp only [Act.put, z1, z2, z3]
    refine wpAnyF_take (i := 3) (oi := ⟨some 38, .load 53 (.tmp 37), 53, "soft.go:185", #[⟨2, .data⟩], none⟩) (v := .pointer (some ⟨bc, 0, none⟩)) rfl (by kernel_rfl) (by kernel_rfl) (by kernel_rfl) (by kernel_rfl) (fun _ _ _ h => h) (Or.inl ⟨by kernel_rfl, fun W h => Op1.ld_ptr (.tmp 37) (by kernel_rfl) (by kernel_rfl) W (h.1)⟩) hS ?_
    try simp only [Act.put, z1, z2, z3]
    refine wpAnyF_take (i := 4) (oi := ⟨some 39, .move (.tmp 8), 101, "soft.go:185", #[], none⟩) (v := .pointer (some ⟨bc, n * 5, none⟩)) rfl (by kernel_rfl) (by kernel_rfl) (by kernel_rfl) (by kernel_rfl) (fun _ _ _ h => h) (Or.inl ⟨by kernel_rfl, fun W h => (by first | kernel_rfl | go_simp)⟩) hS ?_
    try simp only [Act.put, z1, z2, z3]
    refine wpAnyF_take (i := 5) (oi := ⟨some 40, .move (.tmp 2), 3, "soft.go:185", #[], none⟩) (v := .int .i64 (q : Int)) rfl (by kernel_rfl) (by kernel_rfl) (by kernel_rfl) (by kernel_rfl) (fun _ _ _ h => h) (Or.inl ⟨by kernel_rfl, fun W h => (by first | kernel_rfl | go_simp)⟩) hS ?_
    try simp only [Act.put, z1, z2, z3]
    refine wpAnyF_take (i := 6) (oi := ⟨some 41, .nilCheck (.tmp 39), 0, "soft.go:185", #[⟨4, .data⟩], none⟩) (v := .pointer (some ⟨bc, n * 5, none⟩)) rfl (by kernel_rfl) (by kernel_rfl) (by kernel_rfl) (by kernel_rfl) (fun _ _ _ h => h) (Or.inl ⟨by kernel_rfl, fun W h => (by first | kernel_rfl | go_simp)⟩) hS ?_
    try simp only [Act.put, z1, z2, z3]
    refine wpAnyF_take (i := 7) (oi := ⟨some 42, .fieldAddr 24 (.tmp 41) 3, 0, "soft.go:185", #[⟨6, .data⟩], none⟩) (v := .pointer (some ⟨bc, n * 5 + 3, none⟩)) rfl (by kernel_rfl) (by kernel_rfl) (by kernel_rfl) (by kernel_rfl) (fun _ _ _ h => h) (Or.inl ⟨by kernel_rfl, fun W h => (by first | kernel_rfl | go_simp)⟩) hS ?_
    try simp only [Act.put, z1, z2, z3]
    refine wpAnyF_take (i := 8) (oi := ⟨some 43, .indexAddr 22 (.tmp 42) (.tmp 40), 0, "soft.go:185", #[⟨7, .data⟩, ⟨5, .data⟩], none⟩) (v := .pointer (some ⟨bc, n * 5 + 3 + q, none⟩)) rfl (by kernel_rfl) (by kernel_rfl) (by kernel_rfl) (by kernel_rfl) (fun _ _ _ h => h) (Or.inl ⟨by kernel_rfl, fun W h => Op1.ix_part (.tmp 42) (.tmp 40) (by kernel_rfl) (by kernel_rfl) (by kernel_rfl) (hq) W⟩) hS ?_
    try simp only [Act.put, z1, z2, z3]
    refine wpAnyF_take (i := 9) (oi := ⟨some 44, .load 3 (.tmp 43), 3, "soft.go:185", #[⟨8, .data⟩], none⟩) (v := .int .i64 (x : Int)) rfl (by kernel_rfl) (by kernel_rfl) (by kernel_rfl) (by kernel_rfl) (fun _ _ _ h => h) (Or.inl ⟨by kernel_rfl, fun W h => Op1.ld_int (.tmp 43) (by kernel_rfl) (by kernel_rfl) W (by have := h.2.part n q hn hq; rw [Nat.zero_add, unhide HPX] at this; exact this)⟩) hS ?_
    try simp only [Act.put, z1, z2, z3]
    refine wpAnyF_take (i := 10) (oi := ⟨some 45, .move (.tmp 8), 101, "soft.go:185", #[], none⟩) (v := .pointer (some ⟨bc, n * 5, none⟩)) rfl (by kernel_rfl) (by kernel_rfl) (by kernel_rfl) (by kernel_rfl) (fun _ _ _ h => h) (Or.inl ⟨by kernel_rfl, fun W h => (by first | kernel_rfl | go_simp)⟩) hS ?_
    try simp only [Act.put, z1, z2, z3]
    refine wpAnyF_take (i := 11) (oi := ⟨some 46, .nilCheck (.tmp 45), 0, "soft.go:185", #[⟨10, .data⟩], none⟩) (v := .pointer (some ⟨bc, n * 5, none⟩)) rfl (by kernel_rfl) (by kernel_rfl) (by kernel_rfl) (by kernel_rfl) (fun _ _ _ h => h) (Or.inl ⟨by kernel_rfl, fun W h => (by first | kernel_rfl | go_simp)⟩) hS ?_
    try simp only [Act.put, z1, z2, z3]
    refine wpAnyF_take (i := 12) (oi := ⟨some 47, .fieldAddr 24 (.tmp 46) 1, 0, "soft.go:185", #[⟨11, .data⟩], none⟩) (v := .pointer (some ⟨bc, n * 5 + 1, none⟩)) rfl (by kernel_rfl) (by kernel_rfl) (by kernel_rfl) (by kernel_rfl) (fun _ _ _ h => h) (Or.inl ⟨by kernel_rfl, fun W h => (by first | kernel_rfl | go_simp)⟩) hS ?_
    try simp only [Act.put, z1, z2, z3]
    refine wpAnyF_take (i := 13) (oi := ⟨some 48, .load 3 (.tmp 47), 3, "soft.go:185", #[⟨12, .data⟩], none⟩) (v := .int .i64 (m1.stamp n)) rfl (by kernel_rfl) (by kernel_rfl) (by kernel_rfl) (by kernel_rfl) (fun _ _ _ h => h) (Or.inl ⟨by kernel_rfl, fun W h => Op1.ld_int (.tmp 47) (by kernel_rfl) (by kernel_rfl) W (by have := h.2.stamp n hn; rw [Nat.zero_add] at this; exact this)⟩) hS ?_
    try simp only [Act.put, z1, z2, z3]
    refine wpAnyF_take (i := 14) (oi := ⟨some 49, .move (.tmp 3), 9, "soft.go:185", #[], none⟩) (v := .string text) rfl (by kernel_rfl) (by kernel_rfl) (by kernel_rfl) (by kernel_rfl) (fun _ _ _ h => h) (Or.inl ⟨by kernel_rfl, fun W h => (by first | kernel_rfl | go_simp)⟩) hS ?_
    try simp only [Act.put, z1, z2, z3]
    refine wpAnyF_take (i := 15) (oi := ⟨some 50, .build 31 #[(0, .tmp 48), (1, .tmp 49)], 31, "soft.go:185", #[⟨13, .data⟩, ⟨14, .data⟩], none⟩) (v := .agg #[.int .i64 (m1.stamp n), .string text]) rfl (by kernel_rfl) (by kernel_rfl) (by kernel_rfl) (by kernel_rfl) (fun _ _ _ h => h) (Or.inl ⟨by kernel_rfl, fun W h => (by first | kernel_rfl | go_simp)⟩) hS ?_
    try simp only [Act.put, z1, z2, z3]
    refine wpAnyF_free (i := 16) (oi := ⟨some 51, .nilCheck (.tmp 38), 0, "soft.go:185", #[⟨3, .data⟩], none⟩) (v := .pointer (some ⟨bc, 0, none⟩)) rfl (by kernel_rfl) (by kernel_rfl) (by kernel_rfl) (by kernel_rfl) (fun _ _ _ h => h) (Or.inl ⟨by kernel_rfl, fun W _ => (by first | kernel_rfl | go_simp)⟩) hS ?_
    try simp only [Act.put, z1, z2, z3]
    refine wpAnyF_free (i := 17) (oi := ⟨some 52, .fieldAddr 57 (.tmp 51) 0, 0, "soft.go:185", #[⟨16, .data⟩], none⟩) (v := .pointer (some ⟨bc, 0, none⟩)) rfl (by kernel_rfl) (by kernel_rfl) (by kernel_rfl) (by kernel_rfl) (fun _ _ _ h => h) (Or.inl ⟨by kernel_rfl, fun W _ => (by first | kernel_rfl | go_simp)⟩) hS ?_
    try simp only [Act.put, z1, z2, z3]
    refine wpAnyF_free (i := 18) (oi := ⟨some 53, .fieldAddr 34 (.tmp 52) 2, 0, "soft.go:185", #[⟨17, .data⟩], none⟩) (v := .pointer (some ⟨bc, 76, none⟩)) rfl (by kernel_rfl) (by kernel_rfl) (by kernel_rfl) (by kernel_rfl) (fun _ _ _ h => h) (Or.inl ⟨by kernel_rfl, fun W _ => (by first | kernel_rfl | go_simp)⟩) hS ?_
    try simp only [Act.put, z1, z2, z3]
    refine wpAnyF_take (i := 19) (oi := ⟨some 54, .indexAddr 32 (.tmp 53) (.tmp 44), 0, "soft.go:185", #[⟨18, .data⟩, ⟨9, .data⟩, ⟨0, .phase⟩, ⟨1, .phase⟩, ⟨2, .phase⟩, ⟨3, .phase⟩, ⟨4, .phase⟩, ⟨5, .phase⟩, ⟨6, .phase⟩, ⟨7, .phase⟩, ⟨8, .phase⟩, ⟨9, .phase⟩, ⟨10, .phase⟩, ⟨11, .phase⟩, ⟨12, .phase⟩, ⟨13, .phase⟩, ⟨14, .phase⟩, ⟨15, .phase⟩], none⟩) (v := .pointer (some ⟨bc, 76 + x * 2, none⟩)) rfl (by kernel_rfl) (by kernel_rfl) (by kernel_rfl) (by kernel_rfl) (fun _ _ _ h => h) (Or.inl ⟨by kernel_rfl, fun W h => Op1.ix_data (.tmp 53) (.tmp 44) (by kernel_rfl) (by kernel_rfl) (by kernel_rfl) (hx) W⟩) hS ?_
    try simp only [Act.put, z1, z2, z3]
    generalize World.drew _ = W8 at hS FM5 ⊢
    refine wpAnyF_last (o := ⟨none, .store 31 (.tmp 54) (.tmp 50), 0, "soft.go:185", #[⟨19, .data⟩, ⟨15, .data⟩, ⟨0, .phase⟩, ⟨1, .phase⟩, ⟨2, .phase⟩, ⟨3, .phase⟩, ⟨4, .phase⟩, ⟨5, .phase⟩, ⟨6, .phase⟩, ⟨7, .phase⟩, ⟨8, .phase⟩, ⟨9, .phase⟩, ⟨10, .phase⟩, ⟨11, .phase⟩, ⟨12, .phase⟩, ⟨13, .phase⟩, ⟨14, .phase⟩, ⟨15, .phase⟩], none⟩) (by kernel_rfl) rfl (by kernel_rfl) (by kernel_rfl) (fun K hK => ?_)
    refine Op1.st_part (cells := #[.int .i64 (m1.stamp n), .string text]) (o0 := 76 + x * 2) 31 (.tmp 54) (.tmp 50) (by kernel_rfl) rfl (by kernel_rfl) (by kernel_rfl) (unhide FM5).row sz_dat (by have := (unhide HM4).size; simp; omega) (by simp [Value.oneCell']) ?_
    refine hK.out _ _ ?_
    clear hK K
    try simp only [Act.put, z1, z2, z3]
    refine wpAnyF_done (by kernel_rfl) ?_ _
    have DONE := hide (Fd.dat (unhide FM5) (unhide HM4) hx (m1.stamp n) text ht)
    clear hS
    go_wp2_with fail
    go_end0
    exact ⟨rfl, by rw [unhide FIN]; exact unhide DONE⟩
  · have e1 : Img.putPart m k n q text = m.putData x (m.stamp n) text := by
      unfold Img.putPart
      simp only [if_neg (show ¬ m.part n q < 0 by omega)]
      rw [hpos, Int.toNat_natCast]
    have FIN := hide e1
    have HPX := hide hpos
    rw [hpos] at c0
    have u1 : decide ((x : Int) < 0) = false := by simp
    generalize Img.putPart m k n q text = mf at FIN ⊢
    clear h e1 hpos
    go_enter Tryz.func63, Tryz.ntmps63
    go_wp2_with fail
    have FM1 := hide ((unhide FM0).call (Below.refl _ _).drew)
    clear FM0 p0 l0 l1 nz qz c0
    refine wp_region_F (S := PS2 bf bc m) 20 (by kernel_rfl) (PS2.of (unhide FM1) (unhide HM)) (fun hS => ?_)
    refine wpAnyF_take (i := 0) (oi := ⟨some 35, .move (.tmp 0), 42, "soft.go:185", #[], none⟩) (v := .pointer (some ⟨bf, 0, none⟩)) rfl (by kernel_rfl) (by kernel_rfl) (by kernel_rfl) (by kernel_rfl) (fun _ _ _ h => h) (Or.inl ⟨by kernel_rfl, fun W h => (by first | kernel_rfl | go_simp)⟩) hS ?_
    try simp only [Act.put, z1, z2, z3]
    refine wpAnyF_take (i := 1) (oi := ⟨some 36, .nilCheck (.tmp 35), 0, "soft.go:185", #[⟨0, .data⟩], none⟩) (v := .pointer (some ⟨bf, 0, none⟩)) rfl (by kernel_rfl) (by kernel_rfl) (by kernel_rfl) (by kernel_rfl) (fun _ _ _ h => h) (Or.inl ⟨by kernel_rfl, fun W h => (by first | kernel_rfl | go_simp)⟩) hS ?_
    try simp only [Act.put, z1, z2, z3]
    refine wpAnyF_take (i := 2) (oi := ⟨some 37, .fieldAddr 55 (.tmp 36) 0, 0, "soft.go:185", #[⟨1, .data⟩], none⟩) (v := .pointer (some ⟨bf, 0, none⟩)) rfl (by kernel_rfl) (by kernel_rfl) (by kernel_rfl) (by kernel_rfl) (fun _ _ _ h => h) (Or.inl ⟨by kernel_rfl, fun W h => (by first | kernel_rfl | go_simp)⟩) hS ?_
    try simp only [Act.put, z1, z2, z3]
    refine wpAnyF_take (i := 3) (oi := ⟨some 38, .load 53 (.tmp 37), 53, "soft.go:185", #[⟨2, .data⟩], none⟩) (v := .pointer (some ⟨bc, 0, none⟩)) rfl (by kernel_rfl) (by kernel_rfl) (by kernel_rfl) (by kernel_rfl) (fun _ _ _ h => h) (Or.inl ⟨by kernel_rfl, fun W h => Op1.ld_ptr (.tmp 37) (by kernel_rfl) (by kernel_rfl) W (h.1)⟩) hS ?_
    try simp only [Act.put, z1, z2, z3]
    refine wpAnyF_take (i := 4) (oi := ⟨some 39, .move (.tmp 8), 101, "soft.go:185", #[], none⟩) (v := .pointer (some ⟨bc, n * 5, none⟩)) rfl (by kernel_rfl) (by kernel_rfl) (by kernel_rfl) (by kernel_rfl) (fun _ _ _ h => h) (Or.inl ⟨by kernel_rfl, fun W h => (by first | kernel_rfl | go_simp)⟩) hS ?_
    try simp only [Act.put, z1, z2, z3]
    refine wpAnyF_take (i := 5) (oi := ⟨some 40, .move (.tmp 2), 3, "soft.go:185", #[], none⟩) (v := .int .i64 (q : Int)) rfl (by kernel_rfl) (by kernel_rfl) (by kernel_rfl) (by kernel_rfl) (fun _ _ _ h => h) (Or.inl ⟨by kernel_rfl, fun W h => (by first | kernel_rfl | go_simp)⟩) hS ?_
    try simp only [Act.put, z1, z2, z3]
    refine wpAnyF_take (i := 6) (oi := ⟨some 41, .nilCheck (.tmp 39), 0, "soft.go:185", #[⟨4, .data⟩], none⟩) (v := .pointer (some ⟨bc, n * 5, none⟩)) rfl (by kernel_rfl) (by kernel_rfl) (by kernel_rfl) (by kernel_rfl) (fun _ _ _ h => h) (Or.inl ⟨by kernel_rfl, fun W h => (by first | kernel_rfl | go_simp)⟩) hS ?_
    try simp only [Act.put, z1, z2, z3]
    refine wpAnyF_take (i := 7) (oi := ⟨some 42, .fieldAddr 24 (.tmp 41) 3, 0, "soft.go:185", #[⟨6, .data⟩], none⟩) (v := .pointer (some ⟨bc, n * 5 + 3, none⟩)) rfl (by kernel_rfl) (by kernel_rfl) (by kernel_rfl) (by kernel_rfl) (fun _ _ _ h => h) (Or.inl ⟨by kernel_rfl, fun W h => (by first | kernel_rfl | go_simp)⟩) hS ?_
    try simp only [Act.put, z1, z2, z3]
    refine wpAnyF_take (i := 8) (oi := ⟨some 43, .indexAddr 22 (.tmp 42) (.tmp 40), 0, "soft.go:185", #[⟨7, .data⟩, ⟨5, .data⟩], none⟩) (v := .pointer (some ⟨bc, n * 5 + 3 + q, none⟩)) rfl (by kernel_rfl) (by kernel_rfl) (by kernel_rfl) (by kernel_rfl) (fun _ _ _ h => h) (Or.inl ⟨by kernel_rfl, fun W h => Op1.ix_part (.tmp 42) (.tmp 40) (by kernel_rfl) (by kernel_rfl) (by kernel_rfl) (hq) W⟩) hS ?_
    try simp only [Act.put, z1, z2, z3]
    refine wpAnyF_take (i := 9) (oi := ⟨some 44, .load 3 (.tmp 43), 3, "soft.go:185", #[⟨8, .data⟩], none⟩) (v := .int .i64 (x : Int)) rfl (by kernel_rfl) (by kernel_rfl) (by kernel_rfl) (by kernel_rfl) (fun _ _ _ h => h) (Or.inl ⟨by kernel_rfl, fun W h => Op1.ld_int (.tmp 43) (by kernel_rfl) (by kernel_rfl) W (by have := h.2.part n q hn hq; rw [Nat.zero_add, unhide HPX] at this; exact this)⟩) hS ?_
    try simp only [Act.put, z1, z2, z3]
    refine wpAnyF_take (i := 10) (oi := ⟨some 45, .move (.tmp 8), 101, "soft.go:185", #[], none⟩) (v := .pointer (some ⟨bc, n * 5, none⟩)) rfl (by kernel_rfl) (by kernel_rfl) (by kernel_rfl) (by kernel_rfl) (fun _ _ _ h => h) (Or.inl ⟨by kernel_rfl, fun W h => (by first | kernel_rfl | go_simp)⟩) hS ?_
    try simp only [Act.put, z1, z2, z3]
    refine wpAnyF_take (i := 11) (oi := ⟨some 46, .nilCheck (.tmp 45), 0, "soft.go:185", #[⟨10, .data⟩], none⟩) (v := .pointer (some ⟨bc, n * 5, none⟩)) rfl (by kernel_rfl) (by kernel_rfl) (by kernel_rfl) (by kernel_rfl) (fun _ _ _ h => h) (Or.inl ⟨by kernel_rfl, fun W h => (by first | kernel_rfl | go_simp)⟩) hS ?_
    try simp only [Act.put, z1, z2, z3]
    refine wpAnyF_take (i := 12) (oi := ⟨some 47, .fieldAddr 24 (.tmp 46) 1, 0, "soft.go:185", #[⟨11, .data⟩], none⟩) (v := .pointer (some ⟨bc, n * 5 + 1, none⟩)) rfl (by kernel_rfl) (by kernel_rfl) (by kernel_rfl) (by kernel_rfl) (fun _ _ _ h => h) (Or.inl ⟨by kernel_rfl, fun W h => (by first | kernel_rfl | go_simp)⟩) hS ?_
    try simp only [Act.put, z1, z2, z3]
    refine wpAnyF_take (i := 13) (oi := ⟨some 48, .load 3 (.tmp 47), 3, "soft.go:185", #[⟨12, .data⟩], none⟩) (v := .int .i64 (m.stamp n)) rfl (by kernel_rfl) (by kernel_rfl) (by kernel_rfl) (by kernel_rfl) (fun _ _ _ h => h) (Or.inl ⟨by kernel_rfl, fun W h => Op1.ld_int (.tmp 47) (by kernel_rfl) (by kernel_rfl) W (by have := h.2.stamp n hn; rw [Nat.zero_add] at this; exact this)⟩) hS ?_
    try simp only [Act.put, z1, z2, z3]
    refine wpAnyF_take (i := 14) (oi := ⟨some 49, .move (.tmp 3), 9, "soft.go:185", #[], none⟩) (v := .string text) rfl (by kernel_rfl) (by kernel_rfl) (by kernel_rfl) (by kernel_rfl) (fun _ _ _ h => h) (Or.inl ⟨by kernel_rfl, fun W h => (by first | kernel_rfl | go_simp)⟩) hS ?_
    try simp only [Act.put, z1, z2, z3]
    refine wpAnyF_take (i := 15) (oi := ⟨some 50, .build 31 #[(0, .tmp 48), (1, .tmp 49)], 31, "soft.go:185", #[⟨13, .data⟩, ⟨14, .data⟩], none⟩) (v := .agg #[.int .i64 (m.stamp n), .string text]) rfl (by kernel_rfl) (by kernel_rfl) (by kernel_rfl) (by kernel_rfl) (fun _ _ _ h => h) (Or.inl ⟨by kernel_rfl, fun W h => (by first | kernel_rfl | go_simp)⟩) hS ?_
    try simp only [Act.put, z1, z2, z3]
    refine wpAnyF_free (i := 16) (oi := ⟨some 51, .nilCheck (.tmp 38), 0, "soft.go:185", #[⟨3, .data⟩], none⟩) (v := .pointer (some ⟨bc, 0, none⟩)) rfl (by kernel_rfl) (by kernel_rfl) (by kernel_rfl) (by kernel_rfl) (fun _ _ _ h => h) (Or.inl ⟨by kernel_rfl, fun W _ => (by first | kernel_rfl | go_simp)⟩) hS ?_
    try simp only [Act.put, z1, z2, z3]
    refine wpAnyF_free (i := 17) (oi := ⟨some 52, .fieldAddr 57 (.tmp 51) 0, 0, "soft.go:185", #[⟨16, .data⟩], none⟩) (v := .pointer (some ⟨bc, 0, none⟩)) rfl (by kernel_rfl) (by kernel_rfl) (by kernel_rfl) (by kernel_rfl) (fun _ _ _ h => h) (Or.inl ⟨by kernel_rfl, fun W _ => (by first | kernel_rfl | go_simp)⟩) hS ?_
    try simp only [Act.put, z1, z2, z3]
    refine wpAnyF_free (i := 18) (oi := ⟨some 53, .fieldAddr 34 (.tmp 52) 2, 0, "soft.go:185", #[⟨17, .data⟩], none⟩) (v := .pointer (some ⟨bc, 76, none⟩)) rfl (by kernel_rfl) (by kernel_rfl) (by kernel_rfl) (by kernel_rfl) (fun _ _ _ h => h) (Or.inl ⟨by kernel_rfl, fun W _ => (by first | kernel_rfl | go_simp)⟩) hS ?_
    try simp only [Act.put, z1, z2, z3]
    refine wpAnyF_take (i := 19) (oi := ⟨some 54, .indexAddr 32 (.tmp 53) (.tmp 44), 0, "soft.go:185", #[⟨18, .data⟩, ⟨9, .data⟩, ⟨0, .phase⟩, ⟨1, .phase⟩, ⟨2, .phase⟩, ⟨3, .phase⟩, ⟨4, .phase⟩, ⟨5, .phase⟩, ⟨6, .phase⟩, ⟨7, .phase⟩, ⟨8, .phase⟩, ⟨9, .phase⟩, ⟨10, .phase⟩, ⟨11, .phase⟩, ⟨12, .phase⟩, ⟨13, .phase⟩, ⟨14, .phase⟩, ⟨15, .phase⟩], none⟩) (v := .pointer (some ⟨bc, 76 + x * 2, none⟩)) rfl (by kernel_rfl) (by kernel_rfl) (by kernel_rfl) (by kernel_rfl) (fun _ _ _ h => h) (Or.inl ⟨by kernel_rfl, fun W h => Op1.ix_data (.tmp 53) (.tmp 44) (by kernel_rfl) (by kernel_rfl) (by kernel_rfl) (hx) W⟩) hS ?_
    try simp only [Act.put, z1, z2, z3]
    generalize World.drew _ = W8 at hS FM1 ⊢
    refine wpAnyF_last (o := ⟨none, .store 31 (.tmp 54) (.tmp 50), 0, "soft.go:185", #[⟨19, .data⟩, ⟨15, .data⟩, ⟨0, .phase⟩, ⟨1, .phase⟩, ⟨2, .phase⟩, ⟨3, .phase⟩, ⟨4, .phase⟩, ⟨5, .phase⟩, ⟨6, .phase⟩, ⟨7, .phase⟩, ⟨8, .phase⟩, ⟨9, .phase⟩, ⟨10, .phase⟩, ⟨11, .phase⟩, ⟨12, .phase⟩, ⟨13, .phase⟩, ⟨14, .phase⟩, ⟨15, .phase⟩], none⟩) (by kernel_rfl) rfl (by kernel_rfl) (by kernel_rfl) (fun K hK => ?_)
    refine Op1.st_part (cells := #[.int .i64 (m.stamp n), .string text]) (o0 := 76 + x * 2) 31 (.tmp 54) (.tmp 50) (by kernel_rfl) rfl (by kernel_rfl) (by kernel_rfl) (unhide FM1).row sz_dat (by have := (unhide HM).size; simp; omega) (by simp [Value.oneCell']) ?_
    refine hK.out _ _ ?_
    clear hK K
    try simp only [Act.put, z1, z2, z3]
    refine wpAnyF_done (by kernel_rfl) ?_ _
    have DONE := hide (Fd.dat (unhide FM1) (unhide HM) hx (m.stamp n) text ht)
    clear hS
    go_wp2_with fail
    go_end0
    exact ⟨rfl, by rw [unhide FIN]; exact unhide DONE⟩
end
end Go.Proofs.YtmbpckmpnnmnmabGreat
namespace Go.Proofs.YtmbpckmpnnmnmabGreat
open Go.RowKit
open Idl (Stp chk stpA)
theorem scode_zero {m k : Img} {x : Stp} (h : Img.scode m k x = 0) : Img.scheck m x = 0 ∧ Img.sfull m k x = false := by
  have h0 : Img.scheck m x = 0 := by
    unfold Img.scode at h
    by_cases e : Img.scheck m x = 0
    · exact e
    · rw [if_pos e] at h; exact absurd h e
  refine ⟨h0, ?_⟩
  unfold Img.scode at h
  rw [if_neg (by rw [h0]; simp)] at h
  cases e : Img.sfull m k x
  · rfl
  · rw [e] at h; simp at h
section
variable {w w0 w1 : World} {bf bc : Nat} {cs ds rows : Array Value} {m k : Img} {last : Int}
theorem links_few {m : Img} (hx : Img.Ex m) {n : Nat} (hn : n < 8) (hl : m.live n = true) : 1 ≤ m.links n ∧ m.links n ≤ 12 := by
  have h := hx.links n hn hl
  have := Img.refs_le m (n : Int)
  omega
theorem full_five {m k : Img} {x : Stp} (hm : m.check = 0) (h : Img.scode m k x = 0) : x.kind = 5 → ∃ n q : Nat, n < 8 ∧ q < 2 ∧ Img.inoOf m x.dir x.name = (n : Int) ∧ x.p = (q : Int) := fun h5 => by
  have t := Img.take h
  obtain ⟨j, n, hT⟩ := Img.there hm (t.old (by omega))
  obtain ⟨p0, p2⟩ := t.part (.inl h5)
  obtain ⟨q, hq⟩ := Int.eq_ofNat_of_zero_le p0
  exact ⟨n, q, hT.n8, by omega, hT.of, hq⟩
theorem five_of_check {m : Img} {x : Stp} (hm : m.check = 0) (h : Img.scheck m x = 0) : x.kind = 5 → ∃ n q : Nat, n < 8 ∧ q < 2 ∧ Img.inoOf m x.dir x.name = (n : Int) ∧ x.p = (q : Int) := fun h5 => by
  have hc : chk x = 0 := by
    unfold Img.scheck at h
    by_cases e : chk x = 0
    · exact e
    · rw [if_pos e] at h; exact absurd h e
  obtain ⟨_, _, _, _, _, a6⟩ := Img.chk_names hc
  have ho : 0 ≤ Img.inoOf m x.dir x.name := by
    unfold Img.scheck at h
    rw [if_neg (by rw [hc]; simp), if_neg (by omega)] at h
    by_cases z : Img.inoOf m x.dir x.name < 0
    · rw [if_pos z] at h; simp at h
    · omega
  obtain ⟨j, n, hT⟩ := Img.there hm ho
  obtain ⟨p0, p2⟩ := a6 (.inl h5)
  obtain ⟨q, hq⟩ := Int.eq_ofNat_of_zero_le p0
  exact ⟨n, q, hT.n8, by omega, hT.of, hq⟩
/-- the boxed step is there still -/
theorem Fd.cell {w0 w : World} {ds : Array Value} {m : Img} {last : Int} (h : Fd w0 w bf bc ds m last) {g j : Nat} (hg : g < w0.heap.size) (h1 : g ≠ bf) (h2 : g ≠ bc) : w.cell? ⟨g, j, none⟩ = w0.cell? ⟨g, j, none⟩ := by
  obtain ⟨_, hm, _⟩ := h
  exact World.cell?_of_block (hm.chg.block g hg (fun z => by rcases z with z | z; exact h1 z; exact h2 z))
theorem Fl.after (h : Fl w bf bc cs ds m k last) {W W' : World} (hb : Below w.heap.size w W) {m' : Img} {l' : Int} (hd : Fd W W' bf bc ds m' l') : Fd w W' bf bc ds m' l' := (h.fd.call hb).trans hd
set_option maxHeartbeats 2000000 in
set_option maxRecDepth 100000 in
theorem sDo_code (h : Fl w bf bc cs ds m k last) (hG : Img.Good m last) (hla : last < 4611686018427387904) (x : Stp) (hn : x.name.size ≤ maxLen) (ht : x.to.size ≤ maxLen) (hx : x.text.size ≤ maxLen) (hc : Img.scode m k x ≠ 0) :
    Calls Tryz.prog 30 #[.pointer (some ⟨bf, 0, none⟩), .agg (stpA x)] w fun e w' => e = .returned (.int .i64 (Img.scode m k x)) ∧ Below w.heap.size w w' := by
  have BEL := hide (show Below w.heap.size w (w.alloc (.cells (stpA x) 37)) from (Below.refl _ w).alloc (Nat.le_refl _) _)
  have C1 := hide (scheck_any (h.below (unhide BEL)) x hn ht hx)
  have HC := hide fun W bW => stp_box w x W bW
  by_cases hk : Img.scheck m x = 0
  · have C2 := hide fun W (bW : Below w.heap.size w W) => sfull_any (h.below bW) hla x (five_of_check hG.ex.ok hk)
    have hf : Img.sfull m k x = true := by
      unfold Img.scode at hc
      rw [if_neg (by rw [hk]; simp)] at hc
      cases e : Img.sfull m k x
      · rw [e] at hc; simp at hc
      · rfl
    have e6 : Img.scode m k x = 6 := by unfold Img.scode; rw [if_neg (by rw [hk]; simp), if_pos hf]
    rw [e6]
    rw [hk] at C1
    rw [hf] at C2
    clear h hG hc hk hf e6
    obtain ⟨kind, dir, toDir, p, name, tu, text⟩ := x
    go_enter Tryz.func30, Tryz.ntmps30
    go_wp2_with fail
    refine (unhide C1).mono ?_
    rintro e w1 ⟨rfl, b1⟩
    have B1 := hide ((unhide BEL).trans (b1.mono (by simp)))
    have d0 := unhide HC w1 b1 0 _ rfl
    have d1 := unhide HC w1 b1 1 _ rfl
    have d2 := unhide HC w1 b1 2 _ rfl
    have d3 := unhide HC w1 b1 3 _ rfl
    have d4 := unhide HC w1 b1 4 _ rfl
    have d5 := unhide HC w1 b1 5 _ rfl
    have d6 := unhide HC w1 b1 6 _ rfl
    clear b1
    go_wp2_with fail
    refine (unhide C2 w1 (unhide B1)).mono ?_
    rintro e w2 ⟨rfl, b2⟩
    have B2 := hide ((unhide B1).trans (b2.mono (unhide B1).size))
    clear b2
    go_wp2_with fail
    go_ret
    exact ⟨rfl, unhide B2⟩
  · have e1 : Img.scode m k x = Img.scheck m x := by unfold Img.scode; rw [if_pos hk]
    rw [e1]
    generalize Img.scheck m x = ck at C1 hk
    have u1 : (ck != 0) = true := by simpa using hk
    clear h hG hc e1 HC
    obtain ⟨kind, dir, toDir, p, name, tu, text⟩ := x
    go_enter Tryz.func30, Tryz.ntmps30
    go_wp2_with fail
    refine (unhide C1).mono ?_
    rintro e w1 ⟨rfl, b1⟩
    have B1 := hide ((unhide BEL).trans (b1.mono (by simp)))
    clear b1
    go_wp2_with fail
    go_ret
    exact ⟨rfl, unhide B1⟩
set_option maxHeartbeats 2000000 in
set_option maxRecDepth 100000 in
theorem sDo_make (h : Fl w bf bc cs ds m k last) (hG : Img.Good m last) (hla : last < 4611686018427387904) (dir toDir p : Int) (name tu text : ByteArray) (hn : name.size ≤ maxLen) (ht : tu.size ≤ maxLen) (hx : text.size ≤ maxLen) (hc : Img.scode m k ⟨1, dir, toDir, p, name, tu, text⟩ = 0) :
    Calls Tryz.prog 30 #[.pointer (some ⟨bf, 0, none⟩), .agg (stpA ⟨1, dir, toDir, p, name, tu, text⟩)] w fun e w' => e = .returned (.int .i64 0) ∧ Fd w w' bf bc ds (Img.sstep m k last ⟨1, dir, toDir, p, name, tu, text⟩) (Img.slast m k last ⟨1, dir, toDir, p, name, tu, text⟩) := by
  have BEL := hide (show Below w.heap.size w (w.alloc (.cells (stpA ⟨1, dir, toDir, p, name, tu, text⟩) 37)) from (Below.refl _ w).alloc (Nat.le_refl _) _)
  have C1 := hide (scheck_any (h.below (unhide BEL)) ⟨1, dir, toDir, p, name, tu, text⟩ hn ht hx)
  have HC := hide fun W bW => stp_box w ⟨1, dir, toDir, p, name, tu, text⟩ W bW
  have C2 := hide fun W (bW : Below w.heap.size w W) => sfull_any (h.below bW) hla ⟨1, dir, toDir, p, name, tu, text⟩ (full_five hG.ex.ok hc)
  rw [(scode_zero hc).1] at C1
  rw [(scode_zero hc).2] at C2
  have HF := hide h
  have tk := Img.take hc
  have hst : Img.sstep m k last ⟨1, dir, toDir, p, name, tu, text⟩ = Img.added (Img.started m k last) k dir name (Img.freeIno m k).toNat := by
    rcases Img.sstep_cases (last := last) hc with ⟨z, e⟩ | ⟨z, e⟩ | ⟨z, e⟩ | ⟨z, e⟩ | ⟨z, e⟩ | ⟨z, e⟩
    all_goals first | exact e | (exfalso; revert z; decide) | (simp at z)
  have hsl : Img.slast m k last ⟨1, dir, toDir, p, name, tu, text⟩ = last + 1 := by unfold Img.slast; first | rw [if_pos ⟨hc, rfl⟩] | rw [if_neg (fun z => by have := z.2; simp at this)]
  rw [hst, hsl]
  obtain ⟨n, s, hC⟩ := Img.comes hG hc rfl
  have d0' : 0 ≤ dir := tk.dir.1
  have d3' : dir < 3 := tk.dir.2
  obtain ⟨dd, rfl⟩ := Int.eq_ofNat_of_zero_le d0'
  have hdd : dd < 3 := by omega
  rw [hC.ino, Int.toNat_natCast]
  have hn8 := hC.n8
  have hs4 := hC.slot.s4
  have HS1 := hide hC.slot'.eq
  have C3 := hide fun W (bW : Below w.heap.size w W) => sstart_any (h.below bW) hC.n8 hC.ino hG.lo hla
  have HL1 := hide (show 0 ≤ (Img.started m k last).links n ∧ (Img.started m k last).links n ≤ 100 by unfold Img.started; rw [hC.ino, Int.toNat_natCast, Img.putIno_links, if_pos rfl]; simp)
  have HK := hide h.disk
  generalize Img.started m k last = m1 at C3 HL1 HS1 ⊢
  clear h hc tk hst hsl hG hC d0' d3'
  go_enter Tryz.func30, Tryz.ntmps30
  go_wp2_with fail
  refine (unhide C1).mono ?_
  rintro e w1 ⟨rfl, b1⟩
  have A1 := hide b1
  have B1 := hide ((unhide BEL).trans (b1.mono (by simp)))
  have d0 := unhide HC w1 b1 0 _ rfl
  have d1 := unhide HC w1 b1 1 _ rfl
  have d2 := unhide HC w1 b1 2 _ rfl
  have d3 := unhide HC w1 b1 3 _ rfl
  have d4 := unhide HC w1 b1 4 _ rfl
  have d5 := unhide HC w1 b1 5 _ rfl
  have d6 := unhide HC w1 b1 6 _ rfl
  clear b1
  go_wp2_with fail
  refine (unhide C2 w1 (unhide B1)).mono ?_
  rintro e w2 ⟨rfl, b2⟩
  clear d0 d1 d2 d3 d4 d5 d6
  have B2 := hide ((unhide B1).trans (b2.mono (unhide B1).size))
  have A2 := hide ((unhide A1).trans (b2.mono (unhide A1).size))
  have d0 := unhide HC w2 (unhide A2) 0 _ rfl
  have d1 := unhide HC w2 (unhide A2) 1 _ rfl
  have d2 := unhide HC w2 (unhide A2) 2 _ rfl
  have d3 := unhide HC w2 (unhide A2) 3 _ rfl
  have d4 := unhide HC w2 (unhide A2) 4 _ rfl
  have d5 := unhide HC w2 (unhide A2) 5 _ rfl
  have d6 := unhide HC w2 (unhide A2) 6 _ rfl
  clear b2 A1 B1 C1 C2
  have AD := hide ((unhide A2).drew)
  have BD := hide ((unhide B2).drew)
  have NE := hide (And.intro (Nat.ne_of_gt (unhide HF).flt) (Nat.ne_of_gt (unhide HF).clt))
  have XLT := hide (show w.heap.size < w2.drew.heap.size from Nat.lt_of_lt_of_le (by simp) (unhide AD).size)
  go_wp2_with fail
  refine wp_region_held_drew (S := fun W => ∀ (j : Nat) (u : Value), (stpA ⟨1, (dd : Int), toDir, p, name, tu, text⟩)[j]? = some u → W.cell? ⟨w.heap.size, j, none⟩ = some u) (by kernel_rfl) (unhide HC _ (unhide AD)) (fun hS => ?_)
  refine tkP (i := 0) (oi := ⟨some 19, .move (.tmp 0), 42, "soft.go:46", #[], none⟩) (v := .pointer (some ⟨bf, 0, none⟩)) hS ?_
  try simp only [Act.put, z1, z2, z3]
  refine tkP (i := 1) (oi := ⟨some 20, .fieldAddr 37 (.tmp 3) 1, 0, "soft.go:46", #[], none⟩) (v := .pointer (some ⟨w.heap.size, 1, none⟩)) hS ?_
  try simp only [Act.put, z1, z2, z3]
  refine tkH (i := 2) (oi := ⟨some 21, .load 3 (.tmp 20), 3, "soft.go:46", #[⟨1, .data⟩], none⟩) (v := .int .i64 (dd : Int)) (fun W h => Op1.ld_int (.tmp 20) (by kernel_rfl) (by kernel_rfl) W (h 1 _ rfl)) hS ?_
  try simp only [Act.put, z1, z2, z3]
  refine tkP (i := 3) (oi := ⟨some 22, .fieldAddr 37 (.tmp 3) 4, 0, "soft.go:46", #[], none⟩) (v := .pointer (some ⟨w.heap.size, 4, none⟩)) hS ?_
  try simp only [Act.put, z1, z2, z3]
  refine tkH (i := 4) (oi := ⟨some 23, .load 9 (.tmp 22), 9, "soft.go:46", #[⟨3, .data⟩], none⟩) (v := .string name) (fun W h => Op1.ld_str (.tmp 22) (by kernel_rfl) (by kernel_rfl) W (h 4 _ rfl)) hS ?_
  try simp only [Act.put, z1, z2, z3]
  refine tkP (i := 5) (oi := ⟨some 24, .move (.tmp 0), 42, "soft.go:46", #[], none⟩) (v := .pointer (some ⟨bf, 0, none⟩)) hS ?_
  try simp only [Act.put, z1, z2, z3]
  generalize World.drew _ = W0 at hS BD XLT ⊢
  refine wpAnyH_ready (rs := [6]) (by kernel_rfl) (by simp) ?_
  refine AllReadyH.cons (o := ⟨some 25, .call { callee := .value (.func 61), args := #[.tmp 24], argTypes := #[42] }, 3, "soft.go:46", #[⟨5, .data⟩], none⟩) rfl (fun K hK => ?_) AllReadyH.nil
  rw [if_pos (by kernel_rfl)]
  go_simp
  refine (unhide C3 W0 (unhide BD)).mono ?_
  rintro e w3 ⟨rfl, f3⟩
  have F3 := hide f3
  obtain ⟨cs3, h3⟩ := f3.fl (unhide HK)
  have C4 := hide (sadd_any h3 hdd hn8 hs4 (unhide HS1) name hn (unhide HL1))
  have XL3 := hide (show w.heap.size < w3.heap.size from by obtain ⟨_, z, _⟩ := f3; exact Nat.lt_of_lt_of_le (unhide XLT) z.size)
  clear f3 h3
  go_wp2_with fail
  refine hK.out _ _ (fun j u hj => ((unhide F3).cell (unhide XLT) (unhide NE).1 (unhide NE).2).trans (hS j u hj)) (fun hS1 => ?_)
  clear hK K
  try simp only [Act.put, z1, z2, z3]
  refine wpAnyH_ready (rs := [7]) (by kernel_rfl) (by simp) ?_
  refine AllReadyH.cons (o := ⟨some 26, .call { callee := .value (.func 60), args := #[.tmp 19, .tmp 21, .tmp 23, .tmp 25], argTypes := #[42, 3, 9, 3] }, 0, "soft.go:46", #[⟨0, .data⟩, ⟨2, .data⟩, ⟨4, .data⟩, ⟨6, .data⟩, ⟨6, .chain⟩], none⟩) rfl (fun K hK => ?_) AllReadyH.nil
  rw [if_pos (by kernel_rfl)]
  go_simp
  refine (unhide C4).mono ?_
  rintro e w4 ⟨rfl, f4⟩
  have F4 := hide ((unhide HF).after (unhide BD) ((unhide F3).trans f4))
  have F5 := hide f4
  clear f4
  go_wp2_with fail
  refine hK.out _ _ (fun j u hj => ((unhide F5).cell (unhide XL3) (unhide NE).1 (unhide NE).2).trans (hS1 j u hj)) (fun hS2 => ?_)
  clear hK K
  try simp only [Act.put, z1, z2, z3]
  refine wpAnyH_done (by kernel_rfl) ?_ _
  clear hS hS1 hS2 F3 F5 C4
  clear d0 d1 d2 d3 d4 d5 d6
  go_wp2_with fail
  go_ret
  exact ⟨rfl, unhide F4⟩
set_option maxHeartbeats 2000000 in
set_option maxRecDepth 100000 in
theorem sDo_link (h : Fl w bf bc cs ds m k last) (hG : Img.Good m last) (hla : last < 4611686018427387904) (dir toDir p : Int) (name tu text : ByteArray) (hn : name.size ≤ maxLen) (ht : tu.size ≤ maxLen) (hx : text.size ≤ maxLen) (hc : Img.scode m k ⟨2, dir, toDir, p, name, tu, text⟩ = 0) :
    Calls Tryz.prog 30 #[.pointer (some ⟨bf, 0, none⟩), .agg (stpA ⟨2, dir, toDir, p, name, tu, text⟩)] w fun e w' => e = .returned (.int .i64 0) ∧ Fd w w' bf bc ds (Img.sstep m k last ⟨2, dir, toDir, p, name, tu, text⟩) (Img.slast m k last ⟨2, dir, toDir, p, name, tu, text⟩) := by
  have BEL := hide (show Below w.heap.size w (w.alloc (.cells (stpA ⟨2, dir, toDir, p, name, tu, text⟩) 37)) from (Below.refl _ w).alloc (Nat.le_refl _) _)
  have C1 := hide (scheck_any (h.below (unhide BEL)) ⟨2, dir, toDir, p, name, tu, text⟩ hn ht hx)
  have HC := hide fun W bW => stp_box w ⟨2, dir, toDir, p, name, tu, text⟩ W bW
  have C2 := hide fun W (bW : Below w.heap.size w W) => sfull_any (h.below bW) hla ⟨2, dir, toDir, p, name, tu, text⟩ (full_five hG.ex.ok hc)
  rw [(scode_zero hc).1] at C1
  rw [(scode_zero hc).2] at C2
  have HF := hide h
  have tk := Img.take hc
  have hst : Img.sstep m k last ⟨2, dir, toDir, p, name, tu, text⟩ = Img.added m k toDir tu (Img.inoOf m dir name).toNat := by
    rcases Img.sstep_cases (last := last) hc with ⟨z, e⟩ | ⟨z, e⟩ | ⟨z, e⟩ | ⟨z, e⟩ | ⟨z, e⟩ | ⟨z, e⟩
    all_goals first | exact e | (exfalso; revert z; decide) | (simp at z)
  have hsl : Img.slast m k last ⟨2, dir, toDir, p, name, tu, text⟩ = last := by unfold Img.slast; first | rw [if_pos ⟨hc, rfl⟩] | rw [if_neg (fun z => by have := z.2; simp at this)]
  rw [hst, hsl]
  obtain ⟨j, n, s, hT, hS, hX⟩ := Img.linked hG hc (.inl rfl)
  have t0 : 0 ≤ toDir := (tk.to (.inl rfl)).1.1
  have t3 : toDir < 3 := (tk.to (.inl rfl)).1.2
  obtain ⟨dd, rfl⟩ := Int.eq_ofNat_of_zero_le t0
  have hdd : dd < 3 := by omega
  rw [show (Img.inoOf m dir name).toNat = n by rw [show Img.inoOf m dir name = (n : Int) from hT.of]; rfl]
  have hn8 := hT.n8
  have hs4 := hS.s4
  have C3 := hide fun W (bW : Below w.heap.size w W) => sfind_any (h.below bW) dir name
  rw [show Img.inoOf m dir name = (n : Int) from hT.of] at C3
  have C4 := hide fun W (bW : Below w.heap.size w W) => sadd_any (h.below bW) hdd hT.n8 hS.s4 hS.eq tu ht (by have := links_few hG.ex hT.n8 hT.live; omega)
  clear h hc tk hst hsl hG hT hS hX t0 t3
  go_enter Tryz.func30, Tryz.ntmps30
  go_wp2_with fail
  refine (unhide C1).mono ?_
  rintro e w1 ⟨rfl, b1⟩
  have A1 := hide b1
  have B1 := hide ((unhide BEL).trans (b1.mono (by simp)))
  have d0 := unhide HC w1 b1 0 _ rfl
  have d1 := unhide HC w1 b1 1 _ rfl
  have d2 := unhide HC w1 b1 2 _ rfl
  have d3 := unhide HC w1 b1 3 _ rfl
  have d4 := unhide HC w1 b1 4 _ rfl
  have d5 := unhide HC w1 b1 5 _ rfl
  have d6 := unhide HC w1 b1 6 _ rfl
  clear b1
  go_wp2_with fail
  refine (unhide C2 w1 (unhide B1)).mono ?_
  rintro e w2 ⟨rfl, b2⟩
  clear d0 d1 d2 d3 d4 d5 d6
  have B2 := hide ((unhide B1).trans (b2.mono (unhide B1).size))
  have A2 := hide ((unhide A1).trans (b2.mono (unhide A1).size))
  have d0 := unhide HC w2 (unhide A2) 0 _ rfl
  have d1 := unhide HC w2 (unhide A2) 1 _ rfl
  have d2 := unhide HC w2 (unhide A2) 2 _ rfl
  have d3 := unhide HC w2 (unhide A2) 3 _ rfl
  have d4 := unhide HC w2 (unhide A2) 4 _ rfl
  have d5 := unhide HC w2 (unhide A2) 5 _ rfl
  have d6 := unhide HC w2 (unhide A2) 6 _ rfl
  clear b2 A1 B1 C1 C2
  have AD := hide ((unhide A2).drew)
  have BD := hide ((unhide B2).drew)
  have NE := hide (And.intro (Nat.ne_of_gt (unhide HF).flt) (Nat.ne_of_gt (unhide HF).clt))
  have XLT := hide (show w.heap.size < w2.drew.heap.size from Nat.lt_of_lt_of_le (by simp) (unhide AD).size)
  go_wp2_with fail
  refine wp_region_held_drew (S := fun W => ∀ (j : Nat) (u : Value), (stpA ⟨2, dir, (dd : Int), p, name, tu, text⟩)[j]? = some u → W.cell? ⟨w.heap.size, j, none⟩ = some u) (by kernel_rfl) (unhide HC _ (unhide AD)) (fun hS => ?_)
  refine tkP (i := 0) (oi := ⟨some 29, .move (.tmp 0), 42, "soft.go:48", #[], none⟩) (v := .pointer (some ⟨bf, 0, none⟩)) hS ?_
  try simp only [Act.put, z1, z2, z3]
  refine tkP (i := 1) (oi := ⟨some 30, .fieldAddr 37 (.tmp 3) 2, 0, "soft.go:48", #[], none⟩) (v := .pointer (some ⟨w.heap.size, 2, none⟩)) hS ?_
  try simp only [Act.put, z1, z2, z3]
  refine tkH (i := 2) (oi := ⟨some 31, .load 3 (.tmp 30), 3, "soft.go:48", #[⟨1, .data⟩], none⟩) (v := .int .i64 (dd : Int)) (fun W h => Op1.ld_int (.tmp 30) (by kernel_rfl) (by kernel_rfl) W (h 2 _ rfl)) hS ?_
  try simp only [Act.put, z1, z2, z3]
  refine tkP (i := 3) (oi := ⟨some 32, .fieldAddr 37 (.tmp 3) 5, 0, "soft.go:48", #[], none⟩) (v := .pointer (some ⟨w.heap.size, 5, none⟩)) hS ?_
  try simp only [Act.put, z1, z2, z3]
  refine tkH (i := 4) (oi := ⟨some 33, .load 9 (.tmp 32), 9, "soft.go:48", #[⟨3, .data⟩], none⟩) (v := .string tu) (fun W h => Op1.ld_str (.tmp 32) (by kernel_rfl) (by kernel_rfl) W (h 5 _ rfl)) hS ?_
  try simp only [Act.put, z1, z2, z3]
  refine tkP (i := 5) (oi := ⟨some 34, .move (.tmp 0), 42, "soft.go:48", #[], none⟩) (v := .pointer (some ⟨bf, 0, none⟩)) hS ?_
  try simp only [Act.put, z1, z2, z3]
  refine tkP (i := 6) (oi := ⟨some 35, .fieldAddr 37 (.tmp 3) 1, 0, "soft.go:48", #[], none⟩) (v := .pointer (some ⟨w.heap.size, 1, none⟩)) hS ?_
  try simp only [Act.put, z1, z2, z3]
  refine tkH (i := 7) (oi := ⟨some 36, .load 3 (.tmp 35), 3, "soft.go:48", #[⟨6, .data⟩], none⟩) (v := .int .i64 dir) (fun W h => Op1.ld_int (.tmp 35) (by kernel_rfl) (by kernel_rfl) W (h 1 _ rfl)) hS ?_
  try simp only [Act.put, z1, z2, z3]
  refine tkP (i := 8) (oi := ⟨some 37, .fieldAddr 37 (.tmp 3) 4, 0, "soft.go:48", #[], none⟩) (v := .pointer (some ⟨w.heap.size, 4, none⟩)) hS ?_
  try simp only [Act.put, z1, z2, z3]
  refine tkH (i := 9) (oi := ⟨some 38, .load 9 (.tmp 37), 9, "soft.go:48", #[⟨8, .data⟩], none⟩) (v := .string name) (fun W h => Op1.ld_str (.tmp 37) (by kernel_rfl) (by kernel_rfl) W (h 4 _ rfl)) hS ?_
  try simp only [Act.put, z1, z2, z3]
  generalize World.drew _ = W0 at hS BD XLT ⊢
  refine wpAnyH_ready (rs := [10]) (by kernel_rfl) (by simp) ?_
  refine AllReadyH.cons (o := ⟨some 39, .call { callee := .value (.func 55), args := #[.tmp 34, .tmp 36, .tmp 38], argTypes := #[42, 3, 9] }, 3, "soft.go:48", #[⟨5, .data⟩, ⟨7, .data⟩, ⟨9, .data⟩], none⟩) rfl (fun K hK => ?_) AllReadyH.nil
  rw [if_pos (by kernel_rfl)]
  go_simp
  refine (unhide C3 W0 (unhide BD)).mono ?_
  rintro e wq ⟨rfl, e9⟩
  rw [e9]
  clear e9 wq
  go_wp2_with fail
  refine hK.out _ _ (hS) (fun hS1 => ?_)
  clear hK K
  try simp only [Act.put, z1, z2, z3]
  refine wpAnyH_ready (rs := [11]) (by kernel_rfl) (by simp) ?_
  refine AllReadyH.cons (o := ⟨some 40, .call { callee := .value (.func 60), args := #[.tmp 29, .tmp 31, .tmp 33, .tmp 39], argTypes := #[42, 3, 9, 3] }, 0, "soft.go:48", #[⟨0, .data⟩, ⟨2, .data⟩, ⟨4, .data⟩, ⟨10, .data⟩, ⟨10, .chain⟩], none⟩) rfl (fun K hK => ?_) AllReadyH.nil
  rw [if_pos (by kernel_rfl)]
  go_simp
  refine (unhide C4 W0 (unhide BD)).mono ?_
  rintro e w4 ⟨rfl, f4⟩
  have F4 := hide f4
  clear f4
  go_wp2_with fail
  refine hK.out _ _ (fun j u hj => ((unhide F4).cell (unhide XLT) (unhide NE).1 (unhide NE).2).trans (hS1 j u hj)) (fun hS2 => ?_)
  clear hK K
  try simp only [Act.put, z1, z2, z3]
  refine wpAnyH_done (by kernel_rfl) ?_ _
  have F5 := hide ((unhide HF).after (unhide BD) (unhide F4))
  clear hS hS1 hS2 F4 C4
  clear d0 d1 d2 d3 d4 d5 d6
  go_wp2_with fail
  go_ret
  exact ⟨rfl, unhide F5⟩
set_option maxHeartbeats 2000000 in
set_option maxRecDepth 100000 in
theorem sDo_unlink (h : Fl w bf bc cs ds m k last) (hG : Img.Good m last) (hla : last < 4611686018427387904) (dir toDir p : Int) (name tu text : ByteArray) (hn : name.size ≤ maxLen) (ht : tu.size ≤ maxLen) (hx : text.size ≤ maxLen) (hc : Img.scode m k ⟨3, dir, toDir, p, name, tu, text⟩ = 0) :
    Calls Tryz.prog 30 #[.pointer (some ⟨bf, 0, none⟩), .agg (stpA ⟨3, dir, toDir, p, name, tu, text⟩)] w fun e w' => e = .returned (.int .i64 0) ∧ Fd w w' bf bc ds (Img.sstep m k last ⟨3, dir, toDir, p, name, tu, text⟩) (Img.slast m k last ⟨3, dir, toDir, p, name, tu, text⟩) := by
  have BEL := hide (show Below w.heap.size w (w.alloc (.cells (stpA ⟨3, dir, toDir, p, name, tu, text⟩) 37)) from (Below.refl _ w).alloc (Nat.le_refl _) _)
  have C1 := hide (scheck_any (h.below (unhide BEL)) ⟨3, dir, toDir, p, name, tu, text⟩ hn ht hx)
  have HC := hide fun W bW => stp_box w ⟨3, dir, toDir, p, name, tu, text⟩ W bW
  have C2 := hide fun W (bW : Below w.heap.size w W) => sfull_any (h.below bW) hla ⟨3, dir, toDir, p, name, tu, text⟩ (full_five hG.ex.ok hc)
  rw [(scode_zero hc).1] at C1
  rw [(scode_zero hc).2] at C2
  have HF := hide h
  have tk := Img.take hc
  have hst : Img.sstep m k last ⟨3, dir, toDir, p, name, tu, text⟩ = Img.dropped m dir name := by
    rcases Img.sstep_cases (last := last) hc with ⟨z, e⟩ | ⟨z, e⟩ | ⟨z, e⟩ | ⟨z, e⟩ | ⟨z, e⟩ | ⟨z, e⟩
    all_goals first | exact e | (exfalso; revert z; decide) | (simp at z)
  have hsl : Img.slast m k last ⟨3, dir, toDir, p, name, tu, text⟩ = last := by unfold Img.slast; first | rw [if_pos ⟨hc, rfl⟩] | rw [if_neg (fun z => by have := z.2; simp at this)]
  rw [hst, hsl]
  obtain ⟨j, n, hT⟩ := Img.there hG.ex.ok (tk.old (by simp))
  have t0 : 0 ≤ dir := tk.dir.1
  obtain ⟨dd, rfl⟩ := Int.eq_ofNat_of_zero_le t0
  have C3 := hide fun W (bW : Below w.heap.size w W) => sdrop_any (h.below bW) name hT (by have := links_few hG.ex hT.n8 hT.live; omega)
  clear h hc tk hst hsl hG hT t0
  go_enter Tryz.func30, Tryz.ntmps30
  go_wp2_with fail
  refine (unhide C1).mono ?_
  rintro e w1 ⟨rfl, b1⟩
  have A1 := hide b1
  have B1 := hide ((unhide BEL).trans (b1.mono (by simp)))
  have d0 := unhide HC w1 b1 0 _ rfl
  have d1 := unhide HC w1 b1 1 _ rfl
  have d2 := unhide HC w1 b1 2 _ rfl
  have d3 := unhide HC w1 b1 3 _ rfl
  have d4 := unhide HC w1 b1 4 _ rfl
  have d5 := unhide HC w1 b1 5 _ rfl
  have d6 := unhide HC w1 b1 6 _ rfl
  clear b1
  go_wp2_with fail
  refine (unhide C2 w1 (unhide B1)).mono ?_
  rintro e w2 ⟨rfl, b2⟩
  clear d0 d1 d2 d3 d4 d5 d6
  have B2 := hide ((unhide B1).trans (b2.mono (unhide B1).size))
  have A2 := hide ((unhide A1).trans (b2.mono (unhide A1).size))
  have d0 := unhide HC w2 (unhide A2) 0 _ rfl
  have d1 := unhide HC w2 (unhide A2) 1 _ rfl
  have d2 := unhide HC w2 (unhide A2) 2 _ rfl
  have d3 := unhide HC w2 (unhide A2) 3 _ rfl
  have d4 := unhide HC w2 (unhide A2) 4 _ rfl
  have d5 := unhide HC w2 (unhide A2) 5 _ rfl
  have d6 := unhide HC w2 (unhide A2) 6 _ rfl
  clear b2 A1 B1 C1 C2
  go_wp2_with fail
  refine (unhide C3 w2 (unhide B2)).mono ?_
  rintro e w4 ⟨rfl, f4⟩
  have F4 := hide ((unhide HF).after (unhide B2) f4)
  clear f4 C3 d0 d1 d2 d3 d4 d5 d6
  go_wp2_with fail
  go_ret
  exact ⟨rfl, unhide F4⟩
set_option maxHeartbeats 2000000 in
set_option maxRecDepth 100000 in
theorem sDo_rename (h : Fl w bf bc cs ds m k last) (hG : Img.Good m last) (hla : last < 4611686018427387904) (dir toDir p : Int) (name tu text : ByteArray) (hn : name.size ≤ maxLen) (ht : tu.size ≤ maxLen) (hx : text.size ≤ maxLen) (hc : Img.scode m k ⟨4, dir, toDir, p, name, tu, text⟩ = 0) :
    Calls Tryz.prog 30 #[.pointer (some ⟨bf, 0, none⟩), .agg (stpA ⟨4, dir, toDir, p, name, tu, text⟩)] w fun e w' => e = .returned (.int .i64 0) ∧ Fd w w' bf bc ds (Img.sstep m k last ⟨4, dir, toDir, p, name, tu, text⟩) (Img.slast m k last ⟨4, dir, toDir, p, name, tu, text⟩) := by
  have BEL := hide (show Below w.heap.size w (w.alloc (.cells (stpA ⟨4, dir, toDir, p, name, tu, text⟩) 37)) from (Below.refl _ w).alloc (Nat.le_refl _) _)
  have C1 := hide (scheck_any (h.below (unhide BEL)) ⟨4, dir, toDir, p, name, tu, text⟩ hn ht hx)
  have HC := hide fun W bW => stp_box w ⟨4, dir, toDir, p, name, tu, text⟩ W bW
  have C2 := hide fun W (bW : Below w.heap.size w W) => sfull_any (h.below bW) hla ⟨4, dir, toDir, p, name, tu, text⟩ (full_five hG.ex.ok hc)
  rw [(scode_zero hc).1] at C1
  rw [(scode_zero hc).2] at C2
  have HF := hide h
  have tk := Img.take hc
  have hst : Img.sstep m k last ⟨4, dir, toDir, p, name, tu, text⟩ = Img.dropped (Img.added m k toDir tu (Img.inoOf m dir name).toNat) dir name := by
    rcases Img.sstep_cases (last := last) hc with ⟨z, e⟩ | ⟨z, e⟩ | ⟨z, e⟩ | ⟨z, e⟩ | ⟨z, e⟩ | ⟨z, e⟩
    all_goals first | exact e | (exfalso; revert z; decide) | (simp at z)
  have hsl : Img.slast m k last ⟨4, dir, toDir, p, name, tu, text⟩ = last := by unfold Img.slast; first | rw [if_pos ⟨hc, rfl⟩] | rw [if_neg (fun z => by have := z.2; simp at this)]
  rw [hst, hsl]
  obtain ⟨j, n, s, hT, hS, hX⟩ := Img.linked hG hc (.inr rfl)
  have t0 : 0 ≤ toDir := (tk.to (.inr rfl)).1.1
  have t3 : toDir < 3 := (tk.to (.inr rfl)).1.2
  obtain ⟨dd, rfl⟩ := Int.eq_ofNat_of_zero_le t0
  have hdd : dd < 3 := by omega
  rw [show (Img.inoOf m dir name).toNat = n by rw [show Img.inoOf m dir name = (n : Int) from hT.of]; rfl]
  have hn8 := hT.n8
  have hs4 := hS.s4
  have C3 := hide fun W (bW : Below w.heap.size w W) => sfind_any (h.below bW) dir name
  rw [show Img.inoOf m dir name = (n : Int) from hT.of] at C3
  have C4 := hide fun W (bW : Below w.heap.size w W) => sadd_any (h.below bW) hdd hT.n8 hS.s4 hS.eq tu ht (by have := links_few hG.ex hT.n8 hT.live; omega)
  have u0 : 0 ≤ dir := tk.dir.1
  obtain ⟨ee, rfl⟩ := Int.eq_ofNat_of_zero_le u0
  have hX' : Img.Ex (Img.added m k (dd : Int) tu n) := hX
  have C5 := hide fun W (cs1 : Array Value) (h1 : Fl W bf bc cs1 ds (Img.added m k (dd : Int) tu n) k last) => sdrop_any h1 name (hT.added hS hX.ok) (by have := links_few hX' hT.n8 (by rw [Img.added_live]; exact hT.live); omega)
  have HK := hide h.disk
  generalize Img.added m k (dd : Int) tu n = m1 at C4 C5 ⊢
  clear h hc tk hst hsl hG hT hS hX hX' t0 t3 u0
  go_enter Tryz.func30, Tryz.ntmps30
  go_wp2_with fail
  refine (unhide C1).mono ?_
  rintro e w1 ⟨rfl, b1⟩
  have A1 := hide b1
  have B1 := hide ((unhide BEL).trans (b1.mono (by simp)))
  have d0 := unhide HC w1 b1 0 _ rfl
  have d1 := unhide HC w1 b1 1 _ rfl
  have d2 := unhide HC w1 b1 2 _ rfl
  have d3 := unhide HC w1 b1 3 _ rfl
  have d4 := unhide HC w1 b1 4 _ rfl
  have d5 := unhide HC w1 b1 5 _ rfl
  have d6 := unhide HC w1 b1 6 _ rfl
  clear b1
  go_wp2_with fail
  refine (unhide C2 w1 (unhide B1)).mono ?_
  rintro e w2 ⟨rfl, b2⟩
  clear d0 d1 d2 d3 d4 d5 d6
  have B2 := hide ((unhide B1).trans (b2.mono (unhide B1).size))
  have A2 := hide ((unhide A1).trans (b2.mono (unhide A1).size))
  have d0 := unhide HC w2 (unhide A2) 0 _ rfl
  have d1 := unhide HC w2 (unhide A2) 1 _ rfl
  have d2 := unhide HC w2 (unhide A2) 2 _ rfl
  have d3 := unhide HC w2 (unhide A2) 3 _ rfl
  have d4 := unhide HC w2 (unhide A2) 4 _ rfl
  have d5 := unhide HC w2 (unhide A2) 5 _ rfl
  have d6 := unhide HC w2 (unhide A2) 6 _ rfl
  clear b2 A1 B1 C1 C2
  have AD := hide ((unhide A2).drew)
  have BD := hide ((unhide B2).drew)
  have NE := hide (And.intro (Nat.ne_of_gt (unhide HF).flt) (Nat.ne_of_gt (unhide HF).clt))
  have XLT := hide (show w.heap.size < w2.drew.heap.size from Nat.lt_of_lt_of_le (by simp) (unhide AD).size)
  go_wp2_with fail
  refine wp_region_held_drew (S := fun W => ∀ (j : Nat) (u : Value), (stpA ⟨4, (ee : Int), (dd : Int), p, name, tu, text⟩)[j]? = some u → W.cell? ⟨w.heap.size, j, none⟩ = some u) (by kernel_rfl) (unhide HC _ (unhide AD)) (fun hS => ?_)
  refine tkP (i := 0) (oi := ⟨some 51, .move (.tmp 0), 42, "soft.go:53", #[], none⟩) (v := .pointer (some ⟨bf, 0, none⟩)) hS ?_
  try simp only [Act.put, z1, z2, z3]
  refine tkP (i := 1) (oi := ⟨some 52, .fieldAddr 37 (.tmp 3) 2, 0, "soft.go:53", #[], none⟩) (v := .pointer (some ⟨w.heap.size, 2, none⟩)) hS ?_
  try simp only [Act.put, z1, z2, z3]
  refine tkH (i := 2) (oi := ⟨some 53, .load 3 (.tmp 52), 3, "soft.go:53", #[⟨1, .data⟩], none⟩) (v := .int .i64 (dd : Int)) (fun W h => Op1.ld_int (.tmp 52) (by kernel_rfl) (by kernel_rfl) W (h 2 _ rfl)) hS ?_
  try simp only [Act.put, z1, z2, z3]
  refine tkP (i := 3) (oi := ⟨some 54, .fieldAddr 37 (.tmp 3) 5, 0, "soft.go:53", #[], none⟩) (v := .pointer (some ⟨w.heap.size, 5, none⟩)) hS ?_
  try simp only [Act.put, z1, z2, z3]
  refine tkH (i := 4) (oi := ⟨some 55, .load 9 (.tmp 54), 9, "soft.go:53", #[⟨3, .data⟩], none⟩) (v := .string tu) (fun W h => Op1.ld_str (.tmp 54) (by kernel_rfl) (by kernel_rfl) W (h 5 _ rfl)) hS ?_
  try simp only [Act.put, z1, z2, z3]
  refine tkP (i := 5) (oi := ⟨some 56, .move (.tmp 0), 42, "soft.go:53", #[], none⟩) (v := .pointer (some ⟨bf, 0, none⟩)) hS ?_
  try simp only [Act.put, z1, z2, z3]
  refine tkP (i := 6) (oi := ⟨some 57, .fieldAddr 37 (.tmp 3) 1, 0, "soft.go:53", #[], none⟩) (v := .pointer (some ⟨w.heap.size, 1, none⟩)) hS ?_
  try simp only [Act.put, z1, z2, z3]
  refine tkH (i := 7) (oi := ⟨some 58, .load 3 (.tmp 57), 3, "soft.go:53", #[⟨6, .data⟩], none⟩) (v := .int .i64 (ee : Int)) (fun W h => Op1.ld_int (.tmp 57) (by kernel_rfl) (by kernel_rfl) W (h 1 _ rfl)) hS ?_
  try simp only [Act.put, z1, z2, z3]
  refine tkP (i := 8) (oi := ⟨some 59, .fieldAddr 37 (.tmp 3) 4, 0, "soft.go:53", #[], none⟩) (v := .pointer (some ⟨w.heap.size, 4, none⟩)) hS ?_
  try simp only [Act.put, z1, z2, z3]
  refine tkH (i := 9) (oi := ⟨some 60, .load 9 (.tmp 59), 9, "soft.go:53", #[⟨8, .data⟩], none⟩) (v := .string name) (fun W h => Op1.ld_str (.tmp 59) (by kernel_rfl) (by kernel_rfl) W (h 4 _ rfl)) hS ?_
  try simp only [Act.put, z1, z2, z3]
  generalize World.drew _ = W0 at hS BD XLT ⊢
  refine wpAnyH_ready (rs := [10]) (by kernel_rfl) (by simp) ?_
  refine AllReadyH.cons (o := ⟨some 61, .call { callee := .value (.func 55), args := #[.tmp 56, .tmp 58, .tmp 60], argTypes := #[42, 3, 9] }, 3, "soft.go:53", #[⟨5, .data⟩, ⟨7, .data⟩, ⟨9, .data⟩], none⟩) rfl (fun K hK => ?_) AllReadyH.nil
  rw [if_pos (by kernel_rfl)]
  go_simp
  refine (unhide C3 W0 (unhide BD)).mono ?_
  rintro e wq ⟨rfl, e9⟩
  rw [e9]
  clear e9 wq
  go_wp2_with fail
  refine hK.out _ _ (hS) (fun hS1 => ?_)
  clear hK K
  try simp only [Act.put, z1, z2, z3]
  refine wpAnyH_ready (rs := [11]) (by kernel_rfl) (by simp) ?_
  refine AllReadyH.cons (o := ⟨some 62, .call { callee := .value (.func 60), args := #[.tmp 51, .tmp 53, .tmp 55, .tmp 61], argTypes := #[42, 3, 9, 3] }, 0, "soft.go:53", #[⟨0, .data⟩, ⟨2, .data⟩, ⟨4, .data⟩, ⟨10, .data⟩, ⟨10, .chain⟩], none⟩) rfl (fun K hK => ?_) AllReadyH.nil
  rw [if_pos (by kernel_rfl)]
  go_simp
  refine (unhide C4 W0 (unhide BD)).mono ?_
  rintro e w4 ⟨rfl, f4⟩
  have F4 := hide f4
  clear f4
  go_wp2_with fail
  refine hK.out _ _ (fun j u hj => ((unhide F4).cell (unhide XLT) (unhide NE).1 (unhide NE).2).trans (hS1 j u hj)) (fun hS2 => ?_)
  clear hK K
  try simp only [Act.put, z1, z2, z3]
  refine wpAnyH_done (by kernel_rfl) ?_ _
  have g1 := hS2 1 _ rfl
  have g4 := hS2 4 _ rfl
  obtain ⟨cs4, h4⟩ := (unhide F4).fl (unhide HK)
  have C6 := hide (unhide C5 w4 cs4 h4)
  clear h4 C4 C5 hS hS1 hS2
  clear d0 d1 d2 d3 d4 d5 d6
  go_wp2_with fail
  refine (unhide C6).mono ?_
  rintro e w5 ⟨rfl, f5⟩
  have F5 := hide ((unhide HF).after (unhide BD) ((unhide F4).trans f5))
  clear f5 F4 C6 g1 g4
  go_wp2_with fail
  go_ret
  exact ⟨rfl, unhide F5⟩
set_option maxHeartbeats 2000000 in
set_option maxRecDepth 100000 in
theorem sDo_put (h : Fl w bf bc cs ds m k last) (hG : Img.Good m last) (hla : last < 4611686018427387904) (dir toDir p : Int) (name tu text : ByteArray) (hn : name.size ≤ maxLen) (ht : tu.size ≤ maxLen) (hx : text.size ≤ maxLen) (hc : Img.scode m k ⟨5, dir, toDir, p, name, tu, text⟩ = 0) :
    Calls Tryz.prog 30 #[.pointer (some ⟨bf, 0, none⟩), .agg (stpA ⟨5, dir, toDir, p, name, tu, text⟩)] w fun e w' => e = .returned (.int .i64 0) ∧ Fd w w' bf bc ds (Img.sstep m k last ⟨5, dir, toDir, p, name, tu, text⟩) (Img.slast m k last ⟨5, dir, toDir, p, name, tu, text⟩) := by
  have BEL := hide (show Below w.heap.size w (w.alloc (.cells (stpA ⟨5, dir, toDir, p, name, tu, text⟩) 37)) from (Below.refl _ w).alloc (Nat.le_refl _) _)
  have C1 := hide (scheck_any (h.below (unhide BEL)) ⟨5, dir, toDir, p, name, tu, text⟩ hn ht hx)
  have HC := hide fun W bW => stp_box w ⟨5, dir, toDir, p, name, tu, text⟩ W bW
  have C2 := hide fun W (bW : Below w.heap.size w W) => sfull_any (h.below bW) hla ⟨5, dir, toDir, p, name, tu, text⟩ (full_five hG.ex.ok hc)
  rw [(scode_zero hc).1] at C1
  rw [(scode_zero hc).2] at C2
  have HF := hide h
  have tk := Img.take hc
  have hst : Img.sstep m k last ⟨5, dir, toDir, p, name, tu, text⟩ = Img.putPart m k (Img.inoOf m dir name).toNat p.toNat text := by
    rcases Img.sstep_cases (last := last) hc with ⟨z, e⟩ | ⟨z, e⟩ | ⟨z, e⟩ | ⟨z, e⟩ | ⟨z, e⟩ | ⟨z, e⟩
    all_goals first | exact e | (exfalso; revert z; decide) | (simp at z)
  have hsl : Img.slast m k last ⟨5, dir, toDir, p, name, tu, text⟩ = last := by unfold Img.slast; first | rw [if_pos ⟨hc, rfl⟩] | rw [if_neg (fun z => by have := z.2; simp at this)]
  rw [hst, hsl]
  obtain ⟨j, n, hT⟩ := Img.there hG.ex.ok (tk.old (by simp))
  obtain ⟨q0, q2⟩ := tk.part (.inl rfl)
  have q0 : 0 ≤ p := q0
  have q2 : p < 2 := q2
  obtain ⟨q, rfl⟩ := Int.eq_ofNat_of_zero_le q0
  have hq : q < 2 := by omega
  have hn8 := hT.n8
  have C3 := hide fun W (bW : Below w.heap.size w W) => sfind_any (h.below bW) dir name
  rw [show Img.inoOf m dir name = (n : Int) from hT.of] at C3
  simp only [Int.toNat_natCast]
  rw [show (Img.inoOf m dir name).toNat = n by rw [show Img.inoOf m dir name = (n : Int) from hT.of]; rfl]
  have hdat := tk.data rfl
  rw [show Img.inoOf m dir name = (n : Int) from hT.of] at hdat
  simp only [Int.toNat_natCast] at hdat
  obtain ⟨xx, hx9, hxc⟩ : ∃ xx : Nat, xx < 9 ∧ ((m.part n q < 0 ∧ Img.freeData m k = (xx : Int)) ∨ m.part n q = (xx : Int)) := by
    by_cases z : m.part n q < 0
    · obtain ⟨xx, h1, h2, _⟩ := Img.dataAt (hdat z)
      exact ⟨xx, h1, .inl ⟨z, h2⟩⟩
    · rcases Img.checkPart_iff.1 ((Img.inode_parts_ok hG.ex.ok hT.n8 hT.live).2.2 q hq) with y | ⟨y, _⟩
      · omega
      · have hb : 0 ≤ m.part n q ∧ m.part n q < 9 := by simpa [Img.isD] using y
        obtain ⟨xx, hxx⟩ := Int.eq_ofNat_of_zero_le hb.1
        exact ⟨xx, by omega, .inr hxx⟩
  have C4 := hide fun W (bW : Below w.heap.size w W) => sput_any (h.below bW) hT.n8 hq hx9 text hx hxc
  clear h hc tk hst hsl hG hT q0 q2 hdat hxc
  go_enter Tryz.func30, Tryz.ntmps30
  go_wp2_with fail
  refine (unhide C1).mono ?_
  rintro e w1 ⟨rfl, b1⟩
  have A1 := hide b1
  have B1 := hide ((unhide BEL).trans (b1.mono (by simp)))
  have d0 := unhide HC w1 b1 0 _ rfl
  have d1 := unhide HC w1 b1 1 _ rfl
  have d2 := unhide HC w1 b1 2 _ rfl
  have d3 := unhide HC w1 b1 3 _ rfl
  have d4 := unhide HC w1 b1 4 _ rfl
  have d5 := unhide HC w1 b1 5 _ rfl
  have d6 := unhide HC w1 b1 6 _ rfl
  clear b1
  go_wp2_with fail
  refine (unhide C2 w1 (unhide B1)).mono ?_
  rintro e w2 ⟨rfl, b2⟩
  clear d0 d1 d2 d3 d4 d5 d6
  have B2 := hide ((unhide B1).trans (b2.mono (unhide B1).size))
  have A2 := hide ((unhide A1).trans (b2.mono (unhide A1).size))
  have d0 := unhide HC w2 (unhide A2) 0 _ rfl
  have d1 := unhide HC w2 (unhide A2) 1 _ rfl
  have d2 := unhide HC w2 (unhide A2) 2 _ rfl
  have d3 := unhide HC w2 (unhide A2) 3 _ rfl
  have d4 := unhide HC w2 (unhide A2) 4 _ rfl
  have d5 := unhide HC w2 (unhide A2) 5 _ rfl
  have d6 := unhide HC w2 (unhide A2) 6 _ rfl
  clear b2 A1 B1 C1 C2
  have AD := hide ((unhide A2).drew)
  have BD := hide ((unhide B2).drew)
  have NE := hide (And.intro (Nat.ne_of_gt (unhide HF).flt) (Nat.ne_of_gt (unhide HF).clt))
  have XLT := hide (show w.heap.size < w2.drew.heap.size from Nat.lt_of_lt_of_le (by simp) (unhide AD).size)
  go_wp2_with fail
  refine wp_region_held_drew (S := fun W => ∀ (j : Nat) (u : Value), (stpA ⟨5, dir, toDir, (q : Int), name, tu, text⟩)[j]? = some u → W.cell? ⟨w.heap.size, j, none⟩ = some u) (by kernel_rfl) (unhide HC _ (unhide AD)) (fun hS => ?_)
  refine tkP (i := 0) (oi := ⟨some 71, .move (.tmp 0), 42, "soft.go:56", #[], none⟩) (v := .pointer (some ⟨bf, 0, none⟩)) hS ?_
  try simp only [Act.put, z1, z2, z3]
  refine tkP (i := 1) (oi := ⟨some 72, .move (.tmp 0), 42, "soft.go:56", #[], none⟩) (v := .pointer (some ⟨bf, 0, none⟩)) hS ?_
  try simp only [Act.put, z1, z2, z3]
  refine tkP (i := 2) (oi := ⟨some 73, .fieldAddr 37 (.tmp 3) 1, 0, "soft.go:56", #[], none⟩) (v := .pointer (some ⟨w.heap.size, 1, none⟩)) hS ?_
  try simp only [Act.put, z1, z2, z3]
  refine tkH (i := 3) (oi := ⟨some 74, .load 3 (.tmp 73), 3, "soft.go:56", #[⟨2, .data⟩], none⟩) (v := .int .i64 dir) (fun W h => Op1.ld_int (.tmp 73) (by kernel_rfl) (by kernel_rfl) W (h 1 _ rfl)) hS ?_
  try simp only [Act.put, z1, z2, z3]
  refine tkP (i := 4) (oi := ⟨some 75, .fieldAddr 37 (.tmp 3) 4, 0, "soft.go:56", #[], none⟩) (v := .pointer (some ⟨w.heap.size, 4, none⟩)) hS ?_
  try simp only [Act.put, z1, z2, z3]
  refine tkH (i := 5) (oi := ⟨some 76, .load 9 (.tmp 75), 9, "soft.go:56", #[⟨4, .data⟩], none⟩) (v := .string name) (fun W h => Op1.ld_str (.tmp 75) (by kernel_rfl) (by kernel_rfl) W (h 4 _ rfl)) hS ?_
  try simp only [Act.put, z1, z2, z3]
  refine tkP (i := 7) (oi := ⟨some 78, .fieldAddr 37 (.tmp 3) 3, 0, "soft.go:56", #[], none⟩) (v := .pointer (some ⟨w.heap.size, 3, none⟩)) hS ?_
  try simp only [Act.put, z1, z2, z3]
  refine tkH (i := 8) (oi := ⟨some 79, .load 3 (.tmp 78), 3, "soft.go:56", #[⟨7, .data⟩], none⟩) (v := .int .i64 (q : Int)) (fun W h => Op1.ld_int (.tmp 78) (by kernel_rfl) (by kernel_rfl) W (h 3 _ rfl)) hS ?_
  try simp only [Act.put, z1, z2, z3]
  refine tkP (i := 9) (oi := ⟨some 80, .fieldAddr 37 (.tmp 3) 6, 0, "soft.go:56", #[], none⟩) (v := .pointer (some ⟨w.heap.size, 6, none⟩)) hS ?_
  try simp only [Act.put, z1, z2, z3]
  refine tkH (i := 10) (oi := ⟨some 81, .load 9 (.tmp 80), 9, "soft.go:56", #[⟨9, .data⟩], none⟩) (v := .string text) (fun W h => Op1.ld_str (.tmp 80) (by kernel_rfl) (by kernel_rfl) W (h 6 _ rfl)) hS ?_
  try simp only [Act.put, z1, z2, z3]
  generalize World.drew _ = W0 at hS BD XLT ⊢
  refine wpAnyH_ready (rs := [6]) (by kernel_rfl) (by simp) ?_
  refine AllReadyH.cons (o := ⟨some 77, .call { callee := .value (.func 55), args := #[.tmp 72, .tmp 74, .tmp 76], argTypes := #[42, 3, 9] }, 3, "soft.go:56", #[⟨1, .data⟩, ⟨3, .data⟩, ⟨5, .data⟩], none⟩) rfl (fun K hK => ?_) AllReadyH.nil
  rw [if_pos (by kernel_rfl)]
  go_simp
  refine (unhide C3 W0 (unhide BD)).mono ?_
  rintro e wq ⟨rfl, e9⟩
  rw [e9]
  clear e9 wq
  go_wp2_with fail
  refine hK.out _ _ (hS) (fun hS1 => ?_)
  clear hK K
  try simp only [Act.put, z1, z2, z3]
  refine wpAnyH_ready (rs := [11]) (by kernel_rfl) (by simp) ?_
  refine AllReadyH.cons (o := ⟨some 82, .call { callee := .value (.func 63), args := #[.tmp 71, .tmp 77, .tmp 79, .tmp 81], argTypes := #[42, 3, 3, 9] }, 0, "soft.go:56", #[⟨0, .data⟩, ⟨6, .data⟩, ⟨8, .data⟩, ⟨10, .data⟩, ⟨6, .chain⟩], none⟩) rfl (fun K hK => ?_) AllReadyH.nil
  rw [if_pos (by kernel_rfl)]
  go_simp
  refine (unhide C4 W0 (unhide BD)).mono ?_
  rintro e w4 ⟨rfl, f4⟩
  have F4 := hide f4
  clear f4
  go_wp2_with fail
  refine hK.out _ _ (fun j u hj => ((unhide F4).cell (unhide XLT) (unhide NE).1 (unhide NE).2).trans (hS1 j u hj)) (fun hS2 => ?_)
  clear hK K
  try simp only [Act.put, z1, z2, z3]
  refine wpAnyH_done (by kernel_rfl) ?_ _
  have F5 := hide ((unhide HF).after (unhide BD) (unhide F4))
  clear hS hS1 hS2 F4 C4
  clear d0 d1 d2 d3 d4 d5 d6
  go_wp2_with fail
  go_ret
  exact ⟨rfl, unhide F5⟩
set_option maxHeartbeats 2000000 in
set_option maxRecDepth 100000 in
theorem sDo_cut (h : Fl w bf bc cs ds m k last) (hG : Img.Good m last) (hla : last < 4611686018427387904) (dir toDir p : Int) (name tu text : ByteArray) (hn : name.size ≤ maxLen) (ht : tu.size ≤ maxLen) (hx : text.size ≤ maxLen) (hc : Img.scode m k ⟨6, dir, toDir, p, name, tu, text⟩ = 0) :
    Calls Tryz.prog 30 #[.pointer (some ⟨bf, 0, none⟩), .agg (stpA ⟨6, dir, toDir, p, name, tu, text⟩)] w fun e w' => e = .returned (.int .i64 0) ∧ Fd w w' bf bc ds (Img.sstep m k last ⟨6, dir, toDir, p, name, tu, text⟩) (Img.slast m k last ⟨6, dir, toDir, p, name, tu, text⟩) := by
  have BEL := hide (show Below w.heap.size w (w.alloc (.cells (stpA ⟨6, dir, toDir, p, name, tu, text⟩) 37)) from (Below.refl _ w).alloc (Nat.le_refl _) _)
  have C1 := hide (scheck_any (h.below (unhide BEL)) ⟨6, dir, toDir, p, name, tu, text⟩ hn ht hx)
  have HC := hide fun W bW => stp_box w ⟨6, dir, toDir, p, name, tu, text⟩ W bW
  have C2 := hide fun W (bW : Below w.heap.size w W) => sfull_any (h.below bW) hla ⟨6, dir, toDir, p, name, tu, text⟩ (full_five hG.ex.ok hc)
  rw [(scode_zero hc).1] at C1
  rw [(scode_zero hc).2] at C2
  have HF := hide h
  have tk := Img.take hc
  have hst : Img.sstep m k last ⟨6, dir, toDir, p, name, tu, text⟩ = m.setPart (Img.inoOf m dir name).toNat p.toNat (-1) := by
    rcases Img.sstep_cases (last := last) hc with ⟨z, e⟩ | ⟨z, e⟩ | ⟨z, e⟩ | ⟨z, e⟩ | ⟨z, e⟩ | ⟨z, e⟩
    all_goals first | exact e | (exfalso; revert z; decide) | (simp at z)
  have hsl : Img.slast m k last ⟨6, dir, toDir, p, name, tu, text⟩ = last := by unfold Img.slast; first | rw [if_pos ⟨hc, rfl⟩] | rw [if_neg (fun z => by have := z.2; simp at this)]
  rw [hst, hsl]
  obtain ⟨j, n, hT⟩ := Img.there hG.ex.ok (tk.old (by simp))
  obtain ⟨q0, q2⟩ := tk.part (.inr rfl)
  have q0 : 0 ≤ p := q0
  have q2 : p < 2 := q2
  obtain ⟨q, rfl⟩ := Int.eq_ofNat_of_zero_le q0
  have hq : q < 2 := by omega
  have hn8 := hT.n8
  have C3 := hide fun W (bW : Below w.heap.size w W) => sfind_any (h.below bW) dir name
  rw [show Img.inoOf m dir name = (n : Int) from hT.of] at C3
  simp only [Int.toNat_natCast]
  rw [show (Img.inoOf m dir name).toNat = n by rw [show Img.inoOf m dir name = (n : Int) from hT.of]; rfl]
  have HM := hide h.now
  clear h hc tk hst hsl hG hT q0 q2
  go_enter Tryz.func30, Tryz.ntmps30
  go_wp2_with fail
  refine (unhide C1).mono ?_
  rintro e w1 ⟨rfl, b1⟩
  have A1 := hide b1
  have B1 := hide ((unhide BEL).trans (b1.mono (by simp)))
  have d0 := unhide HC w1 b1 0 _ rfl
  have d1 := unhide HC w1 b1 1 _ rfl
  have d2 := unhide HC w1 b1 2 _ rfl
  have d3 := unhide HC w1 b1 3 _ rfl
  have d4 := unhide HC w1 b1 4 _ rfl
  have d5 := unhide HC w1 b1 5 _ rfl
  have d6 := unhide HC w1 b1 6 _ rfl
  clear b1
  go_wp2_with fail
  refine (unhide C2 w1 (unhide B1)).mono ?_
  rintro e w2 ⟨rfl, b2⟩
  clear d0 d1 d2 d3 d4 d5 d6
  have B2 := hide ((unhide B1).trans (b2.mono (unhide B1).size))
  have A2 := hide ((unhide A1).trans (b2.mono (unhide A1).size))
  have d0 := unhide HC w2 (unhide A2) 0 _ rfl
  have d1 := unhide HC w2 (unhide A2) 1 _ rfl
  have d2 := unhide HC w2 (unhide A2) 2 _ rfl
  have d3 := unhide HC w2 (unhide A2) 3 _ rfl
  have d4 := unhide HC w2 (unhide A2) 4 _ rfl
  have d5 := unhide HC w2 (unhide A2) 5 _ rfl
  have d6 := unhide HC w2 (unhide A2) 6 _ rfl
  clear b2 A1 B1 C1 C2
  have FM2 := hide (((unhide HF).fm.call (unhide B2)).call (Below.refl _ _).drew)
  have HB := hide fun j u hj => (show w2.drew.cell? ⟨w.heap.size, j, none⟩ = some u from unhide HC w2 (unhide A2) j u hj)
  have FB2 := hide ((unhide B2).drew)
  go_wp2_with fail
  refine wp_region_F (S := FS bf bc w.heap.size m ⟨6, dir, toDir, (q : Int), name, tu, text⟩) 18 (by kernel_rfl) (⟨(unhide FM2).ptr, unhide HB, (unhide FM2).has (unhide HM)⟩) (fun hS => ?_)
  refine wpAnyF_take (i := 0) (oi := ⟨some 85, .move (.tmp 0), 42, "soft.go:58", #[], none⟩) (v := .pointer (some ⟨bf, 0, none⟩)) rfl (by kernel_rfl) (by kernel_rfl) (by kernel_rfl) (by kernel_rfl) (fun _ _ _ h => h) (Or.inl ⟨by kernel_rfl, fun W h => (by first | kernel_rfl | go_simp)⟩) hS ?_
  try simp only [Act.put, z1, z2, z3]
  refine wpAnyF_take (i := 1) (oi := ⟨some 86, .nilCheck (.tmp 85), 0, "soft.go:58", #[⟨0, .data⟩], none⟩) (v := .pointer (some ⟨bf, 0, none⟩)) rfl (by kernel_rfl) (by kernel_rfl) (by kernel_rfl) (by kernel_rfl) (fun _ _ _ h => h) (Or.inl ⟨by kernel_rfl, fun W h => (by first | kernel_rfl | go_simp)⟩) hS ?_
  try simp only [Act.put, z1, z2, z3]
  refine wpAnyF_take (i := 2) (oi := ⟨some 87, .fieldAddr 55 (.tmp 86) 0, 0, "soft.go:58", #[⟨1, .data⟩], none⟩) (v := .pointer (some ⟨bf, 0, none⟩)) rfl (by kernel_rfl) (by kernel_rfl) (by kernel_rfl) (by kernel_rfl) (fun _ _ _ h => h) (Or.inl ⟨by kernel_rfl, fun W h => (by first | kernel_rfl | go_simp)⟩) hS ?_
  try simp only [Act.put, z1, z2, z3]
  refine wpAnyF_take (i := 3) (oi := ⟨some 88, .load 53 (.tmp 87), 53, "soft.go:58", #[⟨2, .data⟩], none⟩) (v := .pointer (some ⟨bc, 0, none⟩)) rfl (by kernel_rfl) (by kernel_rfl) (by kernel_rfl) (by kernel_rfl) (fun _ _ _ h => h) (Or.inl ⟨by kernel_rfl, fun W h => Op1.ld_ptr (.tmp 87) (by kernel_rfl) (by kernel_rfl) W (h.1)⟩) hS ?_
  try simp only [Act.put, z1, z2, z3]
  refine wpAnyF_take (i := 4) (oi := ⟨some 89, .move (.tmp 0), 42, "soft.go:58", #[], none⟩) (v := .pointer (some ⟨bf, 0, none⟩)) rfl (by kernel_rfl) (by kernel_rfl) (by kernel_rfl) (by kernel_rfl) (fun _ _ _ h => h) (Or.inl ⟨by kernel_rfl, fun W h => (by first | kernel_rfl | go_simp)⟩) hS ?_
  try simp only [Act.put, z1, z2, z3]
  refine wpAnyF_take (i := 5) (oi := ⟨some 90, .fieldAddr 37 (.tmp 3) 1, 0, "soft.go:58", #[], none⟩) (v := .pointer (some ⟨w.heap.size, 1, none⟩)) rfl (by kernel_rfl) (by kernel_rfl) (by kernel_rfl) (by kernel_rfl) (fun _ _ _ h => h) (Or.inl ⟨by kernel_rfl, fun W h => (by first | kernel_rfl | go_simp)⟩) hS ?_
  try simp only [Act.put, z1, z2, z3]
  refine wpAnyF_take (i := 6) (oi := ⟨some 91, .load 3 (.tmp 90), 3, "soft.go:58", #[⟨5, .data⟩], none⟩) (v := .int .i64 dir) rfl (by kernel_rfl) (by kernel_rfl) (by kernel_rfl) (by kernel_rfl) (fun _ _ _ h => h) (Or.inl ⟨by kernel_rfl, fun W h => Op1.ld_int (.tmp 90) (by kernel_rfl) (by kernel_rfl) W (h.2.1 1 _ rfl)⟩) hS ?_
  try simp only [Act.put, z1, z2, z3]
  refine wpAnyF_take (i := 7) (oi := ⟨some 92, .fieldAddr 37 (.tmp 3) 4, 0, "soft.go:58", #[], none⟩) (v := .pointer (some ⟨w.heap.size, 4, none⟩)) rfl (by kernel_rfl) (by kernel_rfl) (by kernel_rfl) (by kernel_rfl) (fun _ _ _ h => h) (Or.inl ⟨by kernel_rfl, fun W h => (by first | kernel_rfl | go_simp)⟩) hS ?_
  try simp only [Act.put, z1, z2, z3]
  refine wpAnyF_take (i := 8) (oi := ⟨some 93, .load 9 (.tmp 92), 9, "soft.go:58", #[⟨7, .data⟩], none⟩) (v := .string name) rfl (by kernel_rfl) (by kernel_rfl) (by kernel_rfl) (by kernel_rfl) (fun _ _ _ h => h) (Or.inl ⟨by kernel_rfl, fun W h => Op1.ld_str (.tmp 92) (by kernel_rfl) (by kernel_rfl) W (h.2.1 4 _ rfl)⟩) hS ?_
  try simp only [Act.put, z1, z2, z3]
  refine wpAnyF_take (i := 10) (oi := ⟨some 95, .fieldAddr 37 (.tmp 3) 3, 0, "soft.go:58", #[], none⟩) (v := .pointer (some ⟨w.heap.size, 3, none⟩)) rfl (by kernel_rfl) (by kernel_rfl) (by kernel_rfl) (by kernel_rfl) (fun _ _ _ h => h) (Or.inl ⟨by kernel_rfl, fun W h => (by first | kernel_rfl | go_simp)⟩) hS ?_
  try simp only [Act.put, z1, z2, z3]
  refine wpAnyF_take (i := 11) (oi := ⟨some 96, .load 3 (.tmp 95), 3, "soft.go:58", #[⟨10, .data⟩], none⟩) (v := .int .i64 (q : Int)) rfl (by kernel_rfl) (by kernel_rfl) (by kernel_rfl) (by kernel_rfl) (fun _ _ _ h => h) (Or.inl ⟨by kernel_rfl, fun W h => Op1.ld_int (.tmp 95) (by kernel_rfl) (by kernel_rfl) W (h.2.1 3 _ rfl)⟩) hS ?_
  try simp only [Act.put, z1, z2, z3]
  refine wpAnyF_free (i := 12) (oi := ⟨some 97, .nilCheck (.tmp 88), 0, "soft.go:58", #[⟨3, .data⟩], none⟩) (v := .pointer (some ⟨bc, 0, none⟩)) rfl (by kernel_rfl) (by kernel_rfl) (by kernel_rfl) (by kernel_rfl) (fun _ _ _ h => h) (Or.inl ⟨by kernel_rfl, fun W _ => (by first | kernel_rfl | go_simp)⟩) hS ?_
  try simp only [Act.put, z1, z2, z3]
  refine wpAnyF_free (i := 13) (oi := ⟨some 98, .fieldAddr 57 (.tmp 97) 0, 0, "soft.go:58", #[⟨12, .data⟩], none⟩) (v := .pointer (some ⟨bc, 0, none⟩)) rfl (by kernel_rfl) (by kernel_rfl) (by kernel_rfl) (by kernel_rfl) (fun _ _ _ h => h) (Or.inl ⟨by kernel_rfl, fun W _ => (by first | kernel_rfl | go_simp)⟩) hS ?_
  try simp only [Act.put, z1, z2, z3]
  refine wpAnyF_free (i := 14) (oi := ⟨some 99, .fieldAddr 34 (.tmp 98) 0, 0, "soft.go:58", #[⟨13, .data⟩], none⟩) (v := .pointer (some ⟨bc, 0, none⟩)) rfl (by kernel_rfl) (by kernel_rfl) (by kernel_rfl) (by kernel_rfl) (fun _ _ _ h => h) (Or.inl ⟨by kernel_rfl, fun W _ => (by first | kernel_rfl | go_simp)⟩) hS ?_
  try simp only [Act.put, z1, z2, z3]
  generalize World.drew _ = W0 at hS FM2 FB2 ⊢
  refine wpAnyF_one (i := 9) (o := ⟨some 94, .call { callee := .value (.func 55), args := #[.tmp 89, .tmp 91, .tmp 93], argTypes := #[42, 3, 9] }, 3, "soft.go:58", #[⟨4, .data⟩, ⟨6, .data⟩, ⟨8, .data⟩], none⟩) (by kernel_rfl) rfl (by kernel_rfl) (fun K hK => ?_)
  go_simp
  refine (unhide C3 W0 (unhide FB2)).mono ?_
  rintro e wq ⟨rfl, e9⟩
  rw [e9]
  clear e9 wq
  go_wp2_with fail
  have hS1 := hS
  refine hK.out _ _ (fun _ => hS1) ?_
  clear hK K
  try simp only [Act.put, z1, z2, z3]
  refine wpAnyF_free (i := 15) (oi := ⟨some 100, .indexAddr 25 (.tmp 99) (.tmp 94), 0, "soft.go:58", #[⟨14, .data⟩, ⟨9, .data⟩], none⟩) (v := .pointer (some ⟨bc, n * 5, none⟩)) rfl (by kernel_rfl) (by kernel_rfl) (by kernel_rfl) (by kernel_rfl) (fun _ _ _ h => h) (Or.inl ⟨by kernel_rfl, fun W _ => Op1.ix_ino (.tmp 99) (.tmp 94) (by kernel_rfl) (by kernel_rfl) (by kernel_rfl) (hn8) W⟩) hS1 ?_
  try simp only [Act.put, z1, z2, z3]
  refine wpAnyF_free (i := 16) (oi := ⟨some 101, .fieldAddr 24 (.tmp 100) 3, 0, "soft.go:58", #[⟨15, .data⟩], none⟩) (v := .pointer (some ⟨bc, n * 5 + 3, none⟩)) rfl (by kernel_rfl) (by kernel_rfl) (by kernel_rfl) (by kernel_rfl) (fun _ _ _ h => h) (Or.inl ⟨by kernel_rfl, fun W _ => (by first | kernel_rfl | go_simp)⟩) hS1 ?_
  try simp only [Act.put, z1, z2, z3]
  refine wpAnyF_take (i := 17) (oi := ⟨some 102, .indexAddr 22 (.tmp 101) (.tmp 96), 0, "soft.go:58", #[⟨16, .data⟩, ⟨11, .data⟩, ⟨0, .phase⟩, ⟨1, .phase⟩, ⟨2, .phase⟩, ⟨3, .phase⟩, ⟨4, .phase⟩, ⟨5, .phase⟩, ⟨6, .phase⟩, ⟨7, .phase⟩, ⟨8, .phase⟩, ⟨9, .phase⟩, ⟨10, .phase⟩, ⟨11, .phase⟩], none⟩) (v := .pointer (some ⟨bc, n * 5 + 3 + q, none⟩)) rfl (by kernel_rfl) (by kernel_rfl) (by kernel_rfl) (by kernel_rfl) (fun _ _ _ h => h) (Or.inl ⟨by kernel_rfl, fun W h => Op1.ix_part (.tmp 101) (.tmp 96) (by kernel_rfl) (by kernel_rfl) (by kernel_rfl) (hq) W⟩) hS1 ?_
  try simp only [Act.put, z1, z2, z3]
  refine wpAnyF_last (o := ⟨none, .store 3 (.tmp 102) (.const (.int .i64 (-1))), 0, "soft.go:58", #[⟨17, .data⟩, ⟨9, .chain⟩, ⟨0, .phase⟩, ⟨1, .phase⟩, ⟨2, .phase⟩, ⟨3, .phase⟩, ⟨4, .phase⟩, ⟨5, .phase⟩, ⟨6, .phase⟩, ⟨7, .phase⟩, ⟨8, .phase⟩, ⟨9, .phase⟩, ⟨10, .phase⟩, ⟨11, .phase⟩], none⟩) (by kernel_rfl) rfl (by kernel_rfl) (by kernel_rfl) (fun K hK => ?_)
  refine Op1.st_int (v := -1) (.tmp 102) (.const (.int .i64 (-1))) (by kernel_rfl) rfl (by kernel_rfl) (by kernel_rfl) (by have := hS1.2.2.part n q hn8 hq; rw [Nat.zero_add] at this; exact this) ((unhide FM2).frozen _) ?_
  refine hK.out _ _ ?_
  clear hK K
  try simp only [Act.put, z1, z2, z3]
  refine wpAnyF_done (by kernel_rfl) ?_ _
  have F4 := hide (Fd.part (unhide FM2) (unhide HM) hn8 hq (-1))
  clear hS hS1 d0 d1 d2 d3 d4 d5 d6
  go_wp2_with fail
  go_ret
  exact ⟨rfl, unhide F4⟩
theorem sDo_any (h : Fl w bf bc cs ds m k last) (hG : Img.Good m last) (hla : last < 4611686018427387904) (x : Stp) (hn : x.name.size ≤ maxLen) (ht : x.to.size ≤ maxLen) (hx : x.text.size ≤ maxLen) :
    Calls Tryz.prog 30 #[.pointer (some ⟨bf, 0, none⟩), .agg (stpA x)] w fun e w' => e = .returned (.int .i64 (Img.scode m k x)) ∧ Fd w w' bf bc ds (Img.sstep m k last x) (Img.slast m k last x) := by
  by_cases hc : Img.scode m k x = 0
  · rw [hc]
    have kc := Img.sstep_cases (last := last) hc
    obtain ⟨kind, dir, toDir, p, name, tu, text⟩ := x
    rcases kc with ⟨z, _⟩ | ⟨z, _⟩ | ⟨z, _⟩ | ⟨z, _⟩ | ⟨z, _⟩ | ⟨z, _⟩
    · have z : kind = 1 := z
      subst z
      exact sDo_make h hG hla dir toDir p name tu text hn ht hx hc
    · have z : kind = 2 := z
      subst z
      exact sDo_link h hG hla dir toDir p name tu text hn ht hx hc
    · have z : kind = 3 := z
      subst z
      exact sDo_unlink h hG hla dir toDir p name tu text hn ht hx hc
    · have z : kind = 4 := z
      subst z
      exact sDo_rename h hG hla dir toDir p name tu text hn ht hx hc
    · have z : kind = 5 := z
      subst z
      exact sDo_put h hG hla dir toDir p name tu text hn ht hx hc
    · have z : kind = 6 := z
      subst z
      exact sDo_cut h hG hla dir toDir p name tu text hn ht hx hc
  · have e1 : Img.sstep m k last x = m := if_pos hc
    have e2 : Img.slast m k last x = last := if_neg (fun z => hc z.1)
    rw [e1, e2]
    refine (sDo_code h hG hla x hn ht hx hc).mono ?_
    rintro e w' ⟨rfl, hb⟩
    exact ⟨rfl, h.fd.call hb⟩
end
end Go.Proofs.YtmbpckmpnnmnmabGreat
namespace Go.Proofs.YtmbpckmpnnmnmabGreat
open Go.RowKit
open Idl (Stp chk stpA)
namespace Img
def ssame (m : Img) (d : Int) (s : ByteArray) (e : Int) (u : ByteArray) : Bool := decide (0 ≤ inoOf m d s) && (inoOf m d s == inoOf m e u)
/-- what Read answers -/
def sreadC (m : Img) (d : Int) (s : ByteArray) (p : Int) : Int := scheck m (Idl.cut d s p)
def spart (m : Img) (d : Int) (s : ByteArray) (p : Int) : Int := m.part (inoOf m d s).toNat p.toNat
def sreadB (m : Img) (d : Int) (s : ByteArray) (p : Int) : Bool := if sreadC m d s p ≠ 0 then false else !decide (spart m d s p < 0)
def sreadT (m : Img) (d : Int) (s : ByteArray) (p : Int) : ByteArray := if sreadC m d s p ≠ 0 then ⟨#[]⟩ else if spart m d s p < 0 then ⟨#[]⟩ else m.text (spart m d s p).toNat
end Img
section
variable {w : World} {bf bc : Nat} {cs ds : Array Value} {m k : Img} {last : Int}
theorem sNew_any (w : World) :
    Calls Tryz.prog 12 #[] w fun e w' => (∃ bf bc, e = .returned (.pointer (some ⟨bf, 0, none⟩)) ∧ w.heap.size ≤ bf ∧ w.heap.size ≤ bc ∧ Fl w' bf bc blankCells blankCells blankI blankI 0) ∧ Below w.heap.size w w' := by
  go_enter Tryz.func12, Tryz.ntmps12
  go_wp2_with fail
  refine (cNew_any w).mono ?_
  rintro e w1 ⟨⟨g, rfl, hg, hr⟩, b1⟩
  have HR := hide hr
  have B1 := hide b1
  have hlt : g < w1.heap.size := (Array.getElem?_eq_some_iff.1 hr).1
  clear hr b1
  go_wp2_with fail
  go_ret
  refine ⟨⟨_, g, rfl, (unhide B1).size, hg, ⟨heap_alloc_last _ _, ?_, blank_is, blank_is, by omega⟩⟩, (unhide B1).alloc (unhide B1).size _⟩
  rw [Below.heap_alloc _ _ _ hlt]; exact unhide HR
set_option maxHeartbeats 1000000 in
set_option maxRecDepth 100000 in
theorem sOf_nil (cs : Array Value) (m : Img) (hi : IsImg cs m) (hm : m.check ≠ 0) (w : World) :
    Calls Tryz.prog 14 #[.agg cs] w fun e w' => e = .returned (.pointer none) ∧ Below w.heap.size w w' := by
  have C1 := hide (of_any cs m hi (w.alloc (.cells cs 34)))
  have BEL := hide (show Below w.heap.size w (w.alloc (.cells cs 34)) from (Below.refl _ w).alloc (Nat.le_refl _) _)
  have HR := hide (heap_alloc_last w (.cells cs 34))
  have hz := hi.size
  go_enter Tryz.func14, Tryz.ntmps14
  go_wp2_with (refine wpList_load_row rfl 34 _ rfl w.heap.size rfl 34 cs (0, 0) _ (unhide HR) img_under rfl (img_info hz) ?_)
  refine (unhide C1).mono ?_
  rintro e w1 ⟨ho, b1⟩
  have e0 : e = .returned (.pointer none) := by
    rcases ho with ⟨z, _⟩ | ⟨_, z⟩
    · exact absurd z hm
    · exact z
  subst e0
  have B1 := hide ((unhide BEL).trans (b1.mono (by simp)))
  clear b1 ho
  go_wp2_with fail
  go_ret
  exact ⟨rfl, unhide B1⟩
set_option maxHeartbeats 1000000 in
set_option maxRecDepth 100000 in
theorem sSame_any (h : Fl w bf bc cs ds m k last) (d : Int) (s : ByteArray) (d2 : Int) (u : ByteArray) :
    Calls Tryz.prog 24 #[.pointer (some ⟨bf, 0, none⟩), .int .i64 d, .string s, .int .i64 d2, .string u] w fun e w' => e = .returned (.bool (Img.ssame m d s d2 u)) ∧ w' = w := by
  have C1 := hide (sfind_any h d s)
  have C2 := hide (sfind_any h d2 u)
  have E := hide (show Img.ssame m d s d2 u = (decide (0 ≤ Img.inoOf m d s) && (Img.inoOf m d s == Img.inoOf m d2 u)) from rfl)
  generalize Img.ssame m d s d2 u = r at E ⊢
  generalize Img.inoOf m d s = i1 at E C1
  generalize Img.inoOf m d2 u = i2 at E C2
  clear h
  by_cases hi : 0 ≤ i1
  · have u1 : decide (i1 ≥ 0) = true := by simpa using hi
    have u2 : decide (0 ≤ i1) = true := by simpa using hi
    have E1 := hide (show r = (i1 == i2) by rw [unhide E, u2, Bool.true_and])
    clear hi E
    go_enter Tryz.func24, Tryz.ntmps24
    go_wp2_with fail
    refine (unhide C1).mono ?_
    rintro e wq ⟨rfl, e9⟩
    rw [e9]
    clear e9 wq
    go_wp2_with fail
    refine (unhide C2).mono ?_
    rintro e wq ⟨rfl, e9⟩
    rw [e9]
    clear e9 wq
    go_wp2_with fail
    go_ret
    exact ⟨ret_bool (by rw [unhide E1]), rfl⟩
  · have u1 : decide (i1 ≥ 0) = false := by simpa using hi
    have u2 : decide (0 ≤ i1) = false := by simpa using hi
    have E1 := hide (show r = false by rw [unhide E, u2, Bool.false_and])
    clear hi E C2
    go_enter Tryz.func24, Tryz.ntmps24
    go_wp2_with fail
    refine (unhide C1).mono ?_
    rintro e wq ⟨rfl, e9⟩
    rw [e9]
    clear e9 wq
    go_wp2_with fail
    go_ret
    exact ⟨ret_bool (unhide E1).symm, rfl⟩
theorem cut_old {m : Img} (hm : m.check = 0) {d : Int} {s : ByteArray} {p : Int} (h : Img.sreadC m d s p = 0) : ∃ j n q : Nat, Img.There m d s j n ∧ q < 2 ∧ p = (q : Int) := by
  have hc : chk (Idl.cut d s p) = 0 := by
    unfold Img.sreadC Img.scheck at h
    by_cases e : chk (Idl.cut d s p) = 0
    · exact e
    · rw [if_pos e] at h; exact absurd h e
  have ho : 0 ≤ Img.inoOf m d s := by
    unfold Img.sreadC Img.scheck at h
    rw [if_neg (by rw [hc]; simp), if_neg (by show ¬ (6 : Int) = 1; omega)] at h
    by_cases z : Img.inoOf m d s < 0
    · rw [if_pos (show Img.inoOf m (Idl.cut d s p).dir (Idl.cut d s p).name < 0 from z)] at h; simp at h
    · omega
  obtain ⟨_, _, _, _, _, a6⟩ := Img.chk_names hc
  obtain ⟨j, n, hT⟩ := Img.there hm ho
  have a7 : 0 ≤ p ∧ p < 2 := a6 (.inr rfl)
  obtain ⟨q, hq⟩ := Int.eq_ofNat_of_zero_le a7.1
  exact ⟨j, n, q, hT, by omega, hq⟩
set_option maxHeartbeats 2000000 in
set_option maxRecDepth 100000 in
theorem sRead_any (h : Fl w bf bc cs ds m k last) (hm : m.check = 0) (d : Int) (s : ByteArray) (hs : s.size ≤ maxLen) (p : Int) :
    Calls Tryz.prog 22 #[.pointer (some ⟨bf, 0, none⟩), .int .i64 d, .string s, .int .i64 p] w fun e w' => e = .returned (.tuple #[.string (Img.sreadT m d s p), .bool (Img.sreadB m d s p), .int .i64 (Img.sreadC m d s p)]) ∧ Below w.heap.size w w' := by
  have C1 := hide (scheck_any h (Idl.cut d s p) hs (Nat.zero_le _) (Nat.zero_le _))
  have E1 := hide (show Img.scheck m (Idl.cut d s p) = Img.sreadC m d s p from rfl)
  rw [unhide E1] at C1
  by_cases hc : Img.sreadC m d s p = 0
  · obtain ⟨j, n, q, hT, hq, rfl⟩ := cut_old hm hc
    have e1 : Img.spart m d s (q : Int) = m.part n q := by unfold Img.spart; rw [hT.of, Int.toNat_natCast, Int.toNat_natCast]
    have C2 := hide fun W (bW : Below w.heap.size w W) => sfind_any (h.below bW) d s
    rw [hT.of] at C2
    rw [hc] at C1 ⊢
    have hn := hT.n8
    have HFL := hide h
    have hpt := (Img.checkPart_iff.1 ((Img.inode_parts_ok hm hT.n8 hT.live).2.2 q hq))
    have eB : Img.sreadB m d s (q : Int) = !decide (m.part n q < 0) := by unfold Img.sreadB; rw [if_neg (by rw [hc]; simp), e1]
    have eT : Img.sreadT m d s (q : Int) = if m.part n q < 0 then ⟨#[]⟩ else m.text (m.part n q).toNat := by unfold Img.sreadT; rw [if_neg (by rw [hc]; simp), e1]
    rw [eB, eT]
    have PRT := hide fun W (hW : HasAt W bc 0 m) => hW.part n q hn hq
    have TXT := hide fun W (hW : HasAt W bc 0 m) (x : Nat) (hx : x < 9) => hW.text x hx
    simp only [Idl.cut, stpA, Idl.none0] at C1
    clear h hT hc e1 eB eT
    rcases hpt with z | ⟨z, _⟩
    · rw [z] at PRT ⊢
      have u1 : decide ((-1 : Int) < 0) = true := by decide
      go_enter Tryz.func22, Tryz.ntmps22
      go_wp2_with fail
      refine (unhide C1).mono ?_
      rintro e w1 ⟨rfl, b1⟩
      have B1 := hide b1.drew
      clear b1
      go_wp2_with fail
      refine wp_region_held_drew (S := PS2 bf bc m) (by kernel_rfl) (⟨((unhide HFL).below (unhide B1)).ptr, ((unhide HFL).below (unhide B1)).hasNow⟩) (fun hS => ?_)
      refine tkP (i := 0) (oi := ⟨some 22, .move (.tmp 0), 42, "soft.go:68", #[], none⟩) (v := .pointer (some ⟨bf, 0, none⟩)) hS ?_
      try simp only [Act.put, z1, z2, z3]
      refine tkP (i := 1) (oi := ⟨some 23, .nilCheck (.tmp 22), 0, "soft.go:68", #[⟨0, .data⟩], none⟩) (v := .pointer (some ⟨bf, 0, none⟩)) hS ?_
      try simp only [Act.put, z1, z2, z3]
      refine tkP (i := 2) (oi := ⟨some 24, .fieldAddr 55 (.tmp 23) 0, 0, "soft.go:68", #[⟨1, .data⟩], none⟩) (v := .pointer (some ⟨bf, 0, none⟩)) hS ?_
      try simp only [Act.put, z1, z2, z3]
      refine tkH (i := 3) (oi := ⟨some 25, .load 53 (.tmp 24), 53, "soft.go:68", #[⟨2, .data⟩], none⟩) (v := .pointer (some ⟨bc, 0, none⟩)) (fun W h => Op1.ld_ptr (.tmp 24) (by kernel_rfl) (by kernel_rfl) W (h.1)) hS ?_
      try simp only [Act.put, z1, z2, z3]
      refine tkP (i := 4) (oi := ⟨some 26, .move (.tmp 0), 42, "soft.go:68", #[], none⟩) (v := .pointer (some ⟨bf, 0, none⟩)) hS ?_
      try simp only [Act.put, z1, z2, z3]
      refine tkP (i := 5) (oi := ⟨some 27, .move (.tmp 1), 3, "soft.go:68", #[], none⟩) (v := .int .i64 d) hS ?_
      try simp only [Act.put, z1, z2, z3]
      refine tkP (i := 6) (oi := ⟨some 28, .move (.tmp 2), 9, "soft.go:68", #[], none⟩) (v := .string s) hS ?_
      try simp only [Act.put, z1, z2, z3]
      refine tkP (i := 8) (oi := ⟨some 30, .move (.tmp 3), 3, "soft.go:68", #[], none⟩) (v := .int .i64 (q : Int)) hS ?_
      try simp only [Act.put, z1, z2, z3]
      refine tkP (i := 9) (oi := ⟨some 31, .nilCheck (.tmp 25), 0, "soft.go:68", #[⟨3, .data⟩], none⟩) (v := .pointer (some ⟨bc, 0, none⟩)) hS ?_
      try simp only [Act.put, z1, z2, z3]
      refine tkP (i := 10) (oi := ⟨some 32, .fieldAddr 57 (.tmp 31) 0, 0, "soft.go:68", #[⟨9, .data⟩], none⟩) (v := .pointer (some ⟨bc, 0, none⟩)) hS ?_
      try simp only [Act.put, z1, z2, z3]
      refine tkP (i := 11) (oi := ⟨some 33, .fieldAddr 34 (.tmp 32) 0, 0, "soft.go:68", #[⟨10, .data⟩], none⟩) (v := .pointer (some ⟨bc, 0, none⟩)) hS ?_
      try simp only [Act.put, z1, z2, z3]
      generalize World.drew _ = W0 at hS B1 ⊢
      refine wpAnyH_ready (rs := [7]) (by kernel_rfl) (by simp) ?_
      refine AllReadyH.cons (o := ⟨some 29, .call { callee := .value (.func 55), args := #[.tmp 26, .tmp 27, .tmp 28], argTypes := #[42, 3, 9] }, 3, "soft.go:68", #[⟨4, .data⟩, ⟨5, .data⟩, ⟨6, .data⟩], none⟩) rfl (fun K hK => ?_) AllReadyH.nil
      rw [if_pos (by kernel_rfl)]
      go_simp
      refine (unhide C2 W0 (unhide B1)).mono ?_
      rintro e wq ⟨rfl, e9⟩
      rw [e9]
      clear e9 wq
      go_wp2_with fail
      refine hK.out _ _ (hS) (fun hS1 => ?_)
      clear hK K
      try simp only [Act.put, z1, z2, z3]
      refine tkH (i := 12) (oi := ⟨some 34, .indexAddr 25 (.tmp 33) (.tmp 29), 0, "soft.go:68", #[⟨11, .data⟩, ⟨7, .data⟩], none⟩) (v := .pointer (some ⟨bc, n * 5, none⟩)) (fun W h => Op1.ix_ino (.tmp 33) (.tmp 29) (by kernel_rfl) (by kernel_rfl) (by kernel_rfl) (hn) W) hS1 ?_
      try simp only [Act.put, z1, z2, z3]
      refine tkP (i := 13) (oi := ⟨some 35, .fieldAddr 24 (.tmp 34) 3, 0, "soft.go:68", #[⟨12, .data⟩], none⟩) (v := .pointer (some ⟨bc, n * 5 + 3, none⟩)) hS1 ?_
      try simp only [Act.put, z1, z2, z3]
      refine tkH (i := 14) (oi := ⟨some 36, .indexAddr 22 (.tmp 35) (.tmp 30), 0, "soft.go:68", #[⟨13, .data⟩, ⟨8, .data⟩], none⟩) (v := .pointer (some ⟨bc, n * 5 + 3 + q, none⟩)) (fun W h => Op1.ix_part (.tmp 35) (.tmp 30) (by kernel_rfl) (by kernel_rfl) (by kernel_rfl) (hq) W) hS1 ?_
      try simp only [Act.put, z1, z2, z3]
      refine tkH (i := 15) (oi := ⟨some 37, .load 3 (.tmp 36), 3, "soft.go:68", #[⟨14, .data⟩], none⟩) (v := .int .i64 (-1)) (fun W h => Op1.ld_int (.tmp 36) (by kernel_rfl) (by kernel_rfl) W (by have := unhide PRT W h.2; rw [Nat.zero_add] at this; exact this)) hS1 ?_
      try simp only [Act.put, z1, z2, z3]
      refine tkP (i := 16) (oi := ⟨some 12, .assign (.tmp 37), 3, "soft.go:68", #[⟨15, .data⟩, ⟨7, .chain⟩, ⟨0, .phase⟩, ⟨1, .phase⟩, ⟨2, .phase⟩, ⟨3, .phase⟩, ⟨4, .phase⟩, ⟨5, .phase⟩, ⟨6, .phase⟩, ⟨7, .phase⟩, ⟨8, .phase⟩, ⟨9, .phase⟩, ⟨10, .phase⟩, ⟨11, .phase⟩, ⟨12, .phase⟩, ⟨13, .phase⟩, ⟨14, .phase⟩, ⟨15, .phase⟩], none⟩) (v := .int .i64 (-1)) hS1 ?_
      try simp only [Act.put, z1, z2, z3]
      refine wpAnyH_done (by kernel_rfl) ?_ _
      clear hS hS1
      go_wp2_with fail
      go_ret3
      exact ⟨rfl, unhide B1⟩
    · have hb : 0 ≤ m.part n q ∧ m.part n q < 9 := by simpa [Img.isD] using z
      obtain ⟨x, hxx⟩ := Int.eq_ofNat_of_zero_le hb.1
      have hx : x < 9 := by omega
      rw [show m.part n q = (x : Int) from hxx] at PRT ⊢
      have u1 : decide ((x : Int) < 0) = false := by simp
      rw [if_neg (by omega), Int.toNat_natCast, u1]
      have xz : (x : Int) < 9 := by omega
      clear z hb hxx
      go_enter Tryz.func22, Tryz.ntmps22
      go_wp2_with fail
      refine (unhide C1).mono ?_
      rintro e w1 ⟨rfl, b1⟩
      have B1 := hide b1.drew
      clear b1
      go_wp2_with fail
      refine wp_region_held_drew (S := PS2 bf bc m) (by kernel_rfl) (⟨((unhide HFL).below (unhide B1)).ptr, ((unhide HFL).below (unhide B1)).hasNow⟩) (fun hS => ?_)
      refine tkP (i := 0) (oi := ⟨some 22, .move (.tmp 0), 42, "soft.go:68", #[], none⟩) (v := .pointer (some ⟨bf, 0, none⟩)) hS ?_
      try simp only [Act.put, z1, z2, z3]
      refine tkP (i := 1) (oi := ⟨some 23, .nilCheck (.tmp 22), 0, "soft.go:68", #[⟨0, .data⟩], none⟩) (v := .pointer (some ⟨bf, 0, none⟩)) hS ?_
      try simp only [Act.put, z1, z2, z3]
      refine tkP (i := 2) (oi := ⟨some 24, .fieldAddr 55 (.tmp 23) 0, 0, "soft.go:68", #[⟨1, .data⟩], none⟩) (v := .pointer (some ⟨bf, 0, none⟩)) hS ?_
      try simp only [Act.put, z1, z2, z3]
      refine tkH (i := 3) (oi := ⟨some 25, .load 53 (.tmp 24), 53, "soft.go:68", #[⟨2, .data⟩], none⟩) (v := .pointer (some ⟨bc, 0, none⟩)) (fun W h => Op1.ld_ptr (.tmp 24) (by kernel_rfl) (by kernel_rfl) W (h.1)) hS ?_
      try simp only [Act.put, z1, z2, z3]
      refine tkP (i := 4) (oi := ⟨some 26, .move (.tmp 0), 42, "soft.go:68", #[], none⟩) (v := .pointer (some ⟨bf, 0, none⟩)) hS ?_
      try simp only [Act.put, z1, z2, z3]
      refine tkP (i := 5) (oi := ⟨some 27, .move (.tmp 1), 3, "soft.go:68", #[], none⟩) (v := .int .i64 d) hS ?_
      try simp only [Act.put, z1, z2, z3]
      refine tkP (i := 6) (oi := ⟨some 28, .move (.tmp 2), 9, "soft.go:68", #[], none⟩) (v := .string s) hS ?_
      try simp only [Act.put, z1, z2, z3]
      refine tkP (i := 8) (oi := ⟨some 30, .move (.tmp 3), 3, "soft.go:68", #[], none⟩) (v := .int .i64 (q : Int)) hS ?_
      try simp only [Act.put, z1, z2, z3]
      refine tkP (i := 9) (oi := ⟨some 31, .nilCheck (.tmp 25), 0, "soft.go:68", #[⟨3, .data⟩], none⟩) (v := .pointer (some ⟨bc, 0, none⟩)) hS ?_
      try simp only [Act.put, z1, z2, z3]
      refine tkP (i := 10) (oi := ⟨some 32, .fieldAddr 57 (.tmp 31) 0, 0, "soft.go:68", #[⟨9, .data⟩], none⟩) (v := .pointer (some ⟨bc, 0, none⟩)) hS ?_
      try simp only [Act.put, z1, z2, z3]
      refine tkP (i := 11) (oi := ⟨some 33, .fieldAddr 34 (.tmp 32) 0, 0, "soft.go:68", #[⟨10, .data⟩], none⟩) (v := .pointer (some ⟨bc, 0, none⟩)) hS ?_
      try simp only [Act.put, z1, z2, z3]
      generalize World.drew _ = W0 at hS B1 ⊢
      refine wpAnyH_ready (rs := [7]) (by kernel_rfl) (by simp) ?_
      refine AllReadyH.cons (o := ⟨some 29, .call { callee := .value (.func 55), args := #[.tmp 26, .tmp 27, .tmp 28], argTypes := #[42, 3, 9] }, 3, "soft.go:68", #[⟨4, .data⟩, ⟨5, .data⟩, ⟨6, .data⟩], none⟩) rfl (fun K hK => ?_) AllReadyH.nil
      rw [if_pos (by kernel_rfl)]
      go_simp
      refine (unhide C2 W0 (unhide B1)).mono ?_
      rintro e wq ⟨rfl, e9⟩
      rw [e9]
      clear e9 wq
      go_wp2_with fail
      refine hK.out _ _ (hS) (fun hS1 => ?_)
      clear hK K
      try simp only [Act.put, z1, z2, z3]
      refine tkH (i := 12) (oi := ⟨some 34, .indexAddr 25 (.tmp 33) (.tmp 29), 0, "soft.go:68", #[⟨11, .data⟩, ⟨7, .data⟩], none⟩) (v := .pointer (some ⟨bc, n * 5, none⟩)) (fun W h => Op1.ix_ino (.tmp 33) (.tmp 29) (by kernel_rfl) (by kernel_rfl) (by kernel_rfl) (hn) W) hS1 ?_
      try simp only [Act.put, z1, z2, z3]
      refine tkP (i := 13) (oi := ⟨some 35, .fieldAddr 24 (.tmp 34) 3, 0, "soft.go:68", #[⟨12, .data⟩], none⟩) (v := .pointer (some ⟨bc, n * 5 + 3, none⟩)) hS1 ?_
      try simp only [Act.put, z1, z2, z3]
      refine tkH (i := 14) (oi := ⟨some 36, .indexAddr 22 (.tmp 35) (.tmp 30), 0, "soft.go:68", #[⟨13, .data⟩, ⟨8, .data⟩], none⟩) (v := .pointer (some ⟨bc, n * 5 + 3 + q, none⟩)) (fun W h => Op1.ix_part (.tmp 35) (.tmp 30) (by kernel_rfl) (by kernel_rfl) (by kernel_rfl) (hq) W) hS1 ?_
      try simp only [Act.put, z1, z2, z3]
      refine tkH (i := 15) (oi := ⟨some 37, .load 3 (.tmp 36), 3, "soft.go:68", #[⟨14, .data⟩], none⟩) (v := .int .i64 (x : Int)) (fun W h => Op1.ld_int (.tmp 36) (by kernel_rfl) (by kernel_rfl) W (by have := unhide PRT W h.2; rw [Nat.zero_add] at this; exact this)) hS1 ?_
      try simp only [Act.put, z1, z2, z3]
      refine tkP (i := 16) (oi := ⟨some 12, .assign (.tmp 37), 3, "soft.go:68", #[⟨15, .data⟩, ⟨7, .chain⟩, ⟨0, .phase⟩, ⟨1, .phase⟩, ⟨2, .phase⟩, ⟨3, .phase⟩, ⟨4, .phase⟩, ⟨5, .phase⟩, ⟨6, .phase⟩, ⟨7, .phase⟩, ⟨8, .phase⟩, ⟨9, .phase⟩, ⟨10, .phase⟩, ⟨11, .phase⟩, ⟨12, .phase⟩, ⟨13, .phase⟩, ⟨14, .phase⟩, ⟨15, .phase⟩], none⟩) (v := .int .i64 (x : Int)) hS1 ?_
      try simp only [Act.put, z1, z2, z3]
      refine wpAnyH_done (by kernel_rfl) ?_ _
      clear hS hS1
      have p2 := ((unhide HFL).below (unhide B1)).ptr
      have l2 := ((unhide HFL).below (unhide B1)).flt
      have k2 := ((unhide HFL).below (unhide B1)).clt
      have c2 : W0.cell? ⟨bc, 76 + x * 2 + 1, none⟩ = some (.string (m.text x)) := by
        have := unhide TXT W0 ((unhide HFL).below (unhide B1)).hasNow x hx
        rw [Nat.zero_add] at this; exact this
      go_wp2_with fail
      go_ret3
      exact ⟨rfl, unhide B1⟩
  · have eB : Img.sreadB m d s p = false := by unfold Img.sreadB; rw [if_pos hc]
    have eT : Img.sreadT m d s p = ⟨#[]⟩ := by unfold Img.sreadT; rw [if_pos hc]
    rw [eB, eT]
    generalize Img.sreadC m d s p = ck at C1 hc ⊢
    have u1 : (ck != 0) = true := by simpa using hc
    simp only [Idl.cut, stpA, Idl.none0] at C1
    clear h E1 eB eT
    go_enter Tryz.func22, Tryz.ntmps22
    go_wp2_with fail
    refine (unhide C1).mono ?_
    rintro e w1 ⟨rfl, b1⟩
    have B1 := hide b1
    clear b1
    go_wp2_with fail
    try (go_quiet (fail); go_wp2_with fail)
    go_ret3
    exact ⟨rfl, by first | exact unhide B1 | exact (unhide B1).drew | exact belowN (unhide B1)⟩
end
end Go.Proofs.YtmbpckmpnnmnmabGreat
namespace Go.Proofs.YtmbpckmpnnmnmabGreat
open Go.RowKit
open Idl (Stp chk stpA)
theorem fld0 (ds : Array Value) (w : World) : (Instr.field 34 (.agg ds) 1).run Tryz.prog w = .ok (.agg (ds.extract 40 (40 + 36))) w := by kernel_rfl
theorem ixd0 (ds : Array Value) (j : Nat) (hj : j < 3) (w : World) : (Instr.index 29 (.agg ds) (.int .i64 (j : Int))).run Tryz.prog w = .ok (.agg (ds.extract (j * 12) (j * 12 + 12))) w :=
  match j, hj with
  | 0, _ => by kernel_rfl
  | 1, _ => by kernel_rfl
  | 2, _ => by kernel_rfl
theorem ixs0 (ds : Array Value) (j : Nat) (hj : j < 4) (w : World) : (Instr.index 28 (.agg ds) (.int .i64 (j : Int))).run Tryz.prog w = .ok (.agg (ds.extract (j * 3) (j * 3 + 3))) w :=
  match j, hj with
  | 0, _ => by kernel_rfl
  | 1, _ => by kernel_rfl
  | 2, _ => by kernel_rfl
  | 3, _ => by kernel_rfl
namespace Op1
theorem fld_dir {o : Oper} {ρ : Operand → Value} (x : Operand) (ho : o.op = .field 34 x 1) {ds : Array Value} (hx : ρ x = .agg ds) (w : World) : (execOp ρ o).run Tryz.prog w = .ok (.value (.agg (ds.extract 40 (40 + 36)))) w := by
  have q := fld0 ds w
  unfold execOp
  rw [ho]
  simp only [hx, Sem.run_bind, q, Result.andThen_ok, Sem.run_pure]
theorem iv_dir {o : Oper} {ρ : Operand → Value} (x y : Operand) (ho : o.op = .index 29 x y) {ds : Array Value} {j : Nat} (hx : ρ x = .agg ds) (hy : ρ y = .int .i64 (j : Int)) (hj : j < 3) (w : World) : (execOp ρ o).run Tryz.prog w = .ok (.value (.agg (ds.extract (j * 12) (j * 12 + 12)))) w := by
  have q := ixd0 ds j hj w
  unfold execOp
  rw [ho]
  simp only [hx, hy, Sem.run_bind, q, Result.andThen_ok, Sem.run_pure]
theorem iv_slot {o : Oper} {ρ : Operand → Value} (x y : Operand) (ho : o.op = .index 28 x y) {ds : Array Value} {j : Nat} (hx : ρ x = .agg ds) (hy : ρ y = .int .i64 (j : Int)) (hj : j < 4) (w : World) : (execOp ρ o).run Tryz.prog w = .ok (.value (.agg (ds.extract (j * 3) (j * 3 + 3)))) w := by
  have q := ixs0 ds j hj w
  unfold execOp
  rw [ho]
  simp only [hx, hy, Sem.run_bind, q, Result.andThen_ok, Sem.run_pure]
theorem geq0 {o : Oper} {ρ : Operand → Value} (x : Operand) (ho : o.op = .binOp .geq 3 x (.const (.int .i64 0)) 3) {v : Int} (hx : ρ x = .int .i64 v) (hy : ρ (.const (.int .i64 0)) = .int .i64 0) (w : World) : (execOp ρ o).run Tryz.prog w = .ok (.value (.bool (decide (0 ≤ v)))) w := by
  unfold execOp
  rw [ho]
  go_simp
theorem ld_ent {o : Oper} {ρ : Operand → Value} (x : Operand) (ho : o.op = .load 27 x) {g o0 : Nat} (hx : ρ x = .pointer (some ⟨g, o0, none⟩)) {s : ByteArray} {a b : Int} (w : World) (c0 : w.cell? ⟨g, o0, none⟩ = some (.string s)) (c1 : w.cell? ⟨g, o0 + 1, none⟩ = some (.int .i64 a)) (c2 : w.cell? ⟨g, o0 + 2, none⟩ = some (.int .i64 b)) : (execOp ρ o).run Tryz.prog w = .ok (.value (.agg #[.string s, .int .i64 a, .int .i64 b])) w := by
  unfold execOp
  rw [ho]
  go_simp
theorem eq_ent {o : Oper} {ρ : Operand → Value} (x y : Operand) (ho : o.op = .binOp .eql 27 x y 27) {na : ByteArray} {ia sa : Int} {nb : ByteArray} {ib sb : Int} (hx : ρ x = .agg #[.string na, .int .i64 ia, .int .i64 sa]) (hy : ρ y = .agg #[.string nb, .int .i64 ib, .int .i64 sb]) (w : World) : (execOp ρ o).run Tryz.prog w = .ok (.value (.bool (na.toList == nb.toList && ia == ib && sa == sb))) w :=
  run_exec_eql 27 27 x y ho _ _ hx hy _ (by kernel_rfl) (fun w => eqEnt na ia sa nb ib sb w) w
end Op1
theorem ent_cells {ds : Array Value} {k : Img} (h : IsImg ds k) {d s : Nat} (hd : d < 3) (hs : s < 4) : ((ds.extract 40 (40 + 36)).extract (d * 12) (d * 12 + 12)).extract (s * 3) (s * 3 + 3) = #[.string (k.name d s), .int .i64 (k.ino d s), .int .i64 (k.est d s)] := by
  have hz := h.size
  have h0 := h.name d s hd hs
  have h1 := h.ino d s hd hs
  have h2 := h.est d s hd hs
  refine Array.ext_getElem? fun i => ?_
  rw [Array.getElem?_extract, Array.getElem?_extract, Array.getElem?_extract]
  simp only [Array.size_extract, hz]
  by_cases hi : i < 3
  · rw [if_pos (by omega), if_pos (by omega), if_pos (by omega)]
    have : i = 0 ∨ i = 1 ∨ i = 2 := by omega
    rcases this with rfl | rfl | rfl
    · rw [show 40 + (d * 12 + (s * 3 + 0)) = 40 + d * 12 + s * 3 by omega, h0]; rfl
    · rw [show 40 + (d * 12 + (s * 3 + 1)) = 40 + d * 12 + s * 3 + 1 by omega, h1]; rfl
    · rw [show 40 + (d * 12 + (s * 3 + 2)) = 40 + d * 12 + s * 3 + 2 by omega, h2]; rfl
  · rw [if_neg (by omega)]
    simp; omega
def Img.ssure (m k : Img) (d : Int) (s : ByteArray) : Bool := decide (0 ≤ m.findAt d s.toList) && Img.sameEnt m k d.toNat (m.findAt d s.toList).toNat
section
variable {w : World} {bf bc : Nat} {cs ds : Array Value} {m k : Img} {last : Int}
set_option maxHeartbeats 2000000 in
set_option maxRecDepth 100000 in
theorem sSure_any (h : Fl w bf bc cs ds m k last) (d : Int) (s : ByteArray) :
    Calls Tryz.prog 26 #[.pointer (some ⟨bf, 0, none⟩), .int .i64 d, .string s] w fun e w' => e = .returned (.bool (Img.ssure m k d s)) ∧ Below w.heap.size w w' := by
  have C1 := hide (At.find_any bc m d s w h.hasNow)
  have HFL := hide h
  have p0 := h.ptr
  have l0 := h.flt
  have l1 := h.clt
  have BD := hide ((Below.refl w.heap.size w).drew)
  have SD := hide (show PS2 bf bc m w.drew from ⟨(h.below (unhide BD)).ptr, (h.below (unhide BD)).hasNow⟩)
  by_cases hf : m.findAt d s.toList < 0
  · have e1 : Img.ssure m k d s = false := by unfold Img.ssure; rw [show decide (0 ≤ m.findAt d s.toList) = false by simp; omega]; rfl
    rw [e1]
    have u1 : decide (0 ≤ m.findAt d s.toList) = false := by simp; omega
    have U1 := hide u1
    generalize m.findAt d s.toList = v at C1 U1
    clear hf h e1 u1
    go_enter Tryz.func26, Tryz.ntmps26
    go_wp2_with fail
    refine (unhide C1).mono ?_
    rintro e wq ⟨rfl, e9⟩
    rw [e9]
    clear e9 wq p0 l0 l1
    go_wp2_with fail
    refine wp_region_held_drew (S := PS2 bf bc m) (by kernel_rfl) (unhide SD) (fun hS => ?_)
    refine tkP (i := 0) (oi := ⟨some 17, .move (.tmp 7), 3, "soft.go:99", #[], none⟩) (v := .int .i64 v) hS ?_
    try simp only [Act.put, z1, z2, z3]
    refine tkH (i := 1) (oi := ⟨some 18, .binOp .geq 3 (.tmp 17) (.const (.int .i64 0)) 3, 4, "soft.go:99", #[⟨0, .data⟩], none⟩) (v := .bool false) (fun W h => (by rw [← unhide U1]; exact Op1.geq0 (.tmp 17) (by kernel_rfl) (by kernel_rfl) (by kernel_rfl) W)) hS ?_
    try simp only [Act.put, z1, z2, z3]
    refine tkP (i := 2) (oi := ⟨some 19, .move (.tmp 18), 4, "soft.go:99", #[⟨1, .data⟩], none⟩) (v := .bool false) hS ?_
    try simp only [Act.put, z1, z2, z3]
    refine wpAnyH_take (i := 3) (oi := ⟨some 20, .move (.tmp 0), 42, "soft.go:99", #[⟨2, .guard⟩], some (2, true)⟩) (v := undef) rfl (by kernel_rfl) (by kernel_rfl) (by kernel_rfl) (fun _ _ _ h => h) (Or.inr ⟨by kernel_rfl, rfl⟩) hS ?_
    try simp only [Act.put, z1, z2, z3]
    refine wpAnyH_take (i := 4) (oi := ⟨some 21, .nilCheck (.tmp 20), 0, "soft.go:99", #[⟨3, .data⟩, ⟨2, .guard⟩], some (2, true)⟩) (v := undef) rfl (by kernel_rfl) (by kernel_rfl) (by kernel_rfl) (fun _ _ _ h => h) (Or.inr ⟨by kernel_rfl, rfl⟩) hS ?_
    try simp only [Act.put, z1, z2, z3]
    refine wpAnyH_take (i := 5) (oi := ⟨some 22, .fieldAddr 55 (.tmp 21) 0, 0, "soft.go:99", #[⟨4, .data⟩, ⟨2, .guard⟩], some (2, true)⟩) (v := undef) rfl (by kernel_rfl) (by kernel_rfl) (by kernel_rfl) (fun _ _ _ h => h) (Or.inr ⟨by kernel_rfl, rfl⟩) hS ?_
    try simp only [Act.put, z1, z2, z3]
    refine wpAnyH_take (i := 6) (oi := ⟨some 23, .load 53 (.tmp 22), 53, "soft.go:99", #[⟨5, .data⟩, ⟨2, .guard⟩], some (2, true)⟩) (v := undef) rfl (by kernel_rfl) (by kernel_rfl) (by kernel_rfl) (fun _ _ _ h => h) (Or.inr ⟨by kernel_rfl, rfl⟩) hS ?_
    try simp only [Act.put, z1, z2, z3]
    refine wpAnyH_take (i := 7) (oi := ⟨some 24, .move (.tmp 1), 3, "soft.go:99", #[⟨2, .guard⟩], some (2, true)⟩) (v := undef) rfl (by kernel_rfl) (by kernel_rfl) (by kernel_rfl) (fun _ _ _ h => h) (Or.inr ⟨by kernel_rfl, rfl⟩) hS ?_
    try simp only [Act.put, z1, z2, z3]
    refine wpAnyH_take (i := 8) (oi := ⟨some 25, .move (.tmp 7), 3, "soft.go:99", #[⟨2, .guard⟩], some (2, true)⟩) (v := undef) rfl (by kernel_rfl) (by kernel_rfl) (by kernel_rfl) (fun _ _ _ h => h) (Or.inr ⟨by kernel_rfl, rfl⟩) hS ?_
    try simp only [Act.put, z1, z2, z3]
    refine wpAnyH_take (i := 9) (oi := ⟨some 26, .nilCheck (.tmp 23), 0, "soft.go:99", #[⟨6, .data⟩, ⟨2, .guard⟩], some (2, true)⟩) (v := undef) rfl (by kernel_rfl) (by kernel_rfl) (by kernel_rfl) (fun _ _ _ h => h) (Or.inr ⟨by kernel_rfl, rfl⟩) hS ?_
    try simp only [Act.put, z1, z2, z3]
    refine wpAnyH_take (i := 10) (oi := ⟨some 27, .fieldAddr 57 (.tmp 26) 0, 0, "soft.go:99", #[⟨9, .data⟩, ⟨2, .guard⟩], some (2, true)⟩) (v := undef) rfl (by kernel_rfl) (by kernel_rfl) (by kernel_rfl) (fun _ _ _ h => h) (Or.inr ⟨by kernel_rfl, rfl⟩) hS ?_
    try simp only [Act.put, z1, z2, z3]
    refine wpAnyH_take (i := 11) (oi := ⟨some 28, .fieldAddr 34 (.tmp 27) 1, 0, "soft.go:99", #[⟨10, .data⟩, ⟨2, .guard⟩], some (2, true)⟩) (v := undef) rfl (by kernel_rfl) (by kernel_rfl) (by kernel_rfl) (fun _ _ _ h => h) (Or.inr ⟨by kernel_rfl, rfl⟩) hS ?_
    try simp only [Act.put, z1, z2, z3]
    refine wpAnyH_take (i := 12) (oi := ⟨some 29, .indexAddr 29 (.tmp 28) (.tmp 24), 0, "soft.go:99", #[⟨11, .data⟩, ⟨7, .data⟩, ⟨2, .guard⟩], some (2, true)⟩) (v := undef) rfl (by kernel_rfl) (by kernel_rfl) (by kernel_rfl) (fun _ _ _ h => h) (Or.inr ⟨by kernel_rfl, rfl⟩) hS ?_
    try simp only [Act.put, z1, z2, z3]
    refine wpAnyH_take (i := 13) (oi := ⟨some 30, .indexAddr 28 (.tmp 29) (.tmp 25), 0, "soft.go:99", #[⟨12, .data⟩, ⟨8, .data⟩, ⟨2, .guard⟩], some (2, true)⟩) (v := undef) rfl (by kernel_rfl) (by kernel_rfl) (by kernel_rfl) (fun _ _ _ h => h) (Or.inr ⟨by kernel_rfl, rfl⟩) hS ?_
    try simp only [Act.put, z1, z2, z3]
    refine wpAnyH_take (i := 14) (oi := ⟨some 31, .load 27 (.tmp 30), 27, "soft.go:99", #[⟨13, .data⟩, ⟨2, .guard⟩], some (2, true)⟩) (v := undef) rfl (by kernel_rfl) (by kernel_rfl) (by kernel_rfl) (fun _ _ _ h => h) (Or.inr ⟨by kernel_rfl, rfl⟩) hS ?_
    try simp only [Act.put, z1, z2, z3]
    refine wpAnyH_take (i := 15) (oi := ⟨some 32, .move (.tmp 0), 42, "soft.go:99", #[⟨2, .guard⟩], some (2, true)⟩) (v := undef) rfl (by kernel_rfl) (by kernel_rfl) (by kernel_rfl) (fun _ _ _ h => h) (Or.inr ⟨by kernel_rfl, rfl⟩) hS ?_
    try simp only [Act.put, z1, z2, z3]
    refine wpAnyH_take (i := 16) (oi := ⟨some 33, .nilCheck (.tmp 32), 0, "soft.go:99", #[⟨15, .data⟩, ⟨2, .guard⟩], some (2, true)⟩) (v := undef) rfl (by kernel_rfl) (by kernel_rfl) (by kernel_rfl) (fun _ _ _ h => h) (Or.inr ⟨by kernel_rfl, rfl⟩) hS ?_
    try simp only [Act.put, z1, z2, z3]
    refine wpAnyH_take (i := 17) (oi := ⟨some 34, .fieldAddr 55 (.tmp 33) 0, 0, "soft.go:99", #[⟨16, .data⟩, ⟨2, .guard⟩], some (2, true)⟩) (v := undef) rfl (by kernel_rfl) (by kernel_rfl) (by kernel_rfl) (fun _ _ _ h => h) (Or.inr ⟨by kernel_rfl, rfl⟩) hS ?_
    try simp only [Act.put, z1, z2, z3]
    refine wpAnyH_take (i := 18) (oi := ⟨some 35, .load 53 (.tmp 34), 53, "soft.go:99", #[⟨17, .data⟩, ⟨2, .guard⟩], some (2, true)⟩) (v := undef) rfl (by kernel_rfl) (by kernel_rfl) (by kernel_rfl) (fun _ _ _ h => h) (Or.inr ⟨by kernel_rfl, rfl⟩) hS ?_
    try simp only [Act.put, z1, z2, z3]
    refine wpAnyH_take (i := 19) (oi := ⟨some 36, .call { callee := .value (.func 18), args := #[.tmp 35], argTypes := #[53] }, 34, "soft.go:99", #[⟨18, .data⟩, ⟨2, .chain⟩, ⟨2, .guard⟩], some (2, true)⟩) (v := undef) rfl (by kernel_rfl) (by kernel_rfl) (by kernel_rfl) (fun _ _ _ h => h) (Or.inr ⟨by kernel_rfl, rfl⟩) hS ?_
    try simp only [Act.put, z1, z2, z3]
    refine wpAnyH_take (i := 20) (oi := ⟨some 37, .field 34 (.tmp 36) 1, 29, "soft.go:99", #[⟨19, .data⟩, ⟨2, .guard⟩], some (2, true)⟩) (v := undef) rfl (by kernel_rfl) (by kernel_rfl) (by kernel_rfl) (fun _ _ _ h => h) (Or.inr ⟨by kernel_rfl, rfl⟩) hS ?_
    try simp only [Act.put, z1, z2, z3]
    refine wpAnyH_take (i := 21) (oi := ⟨some 38, .move (.tmp 1), 3, "soft.go:99", #[⟨2, .guard⟩], some (2, true)⟩) (v := undef) rfl (by kernel_rfl) (by kernel_rfl) (by kernel_rfl) (fun _ _ _ h => h) (Or.inr ⟨by kernel_rfl, rfl⟩) hS ?_
    try simp only [Act.put, z1, z2, z3]
    refine wpAnyH_take (i := 22) (oi := ⟨some 39, .index 29 (.tmp 37) (.tmp 38), 28, "soft.go:99", #[⟨20, .data⟩, ⟨21, .data⟩, ⟨2, .guard⟩], some (2, true)⟩) (v := undef) rfl (by kernel_rfl) (by kernel_rfl) (by kernel_rfl) (fun _ _ _ h => h) (Or.inr ⟨by kernel_rfl, rfl⟩) hS ?_
    try simp only [Act.put, z1, z2, z3]
    refine wpAnyH_take (i := 23) (oi := ⟨some 40, .move (.tmp 7), 3, "soft.go:99", #[⟨2, .guard⟩], some (2, true)⟩) (v := undef) rfl (by kernel_rfl) (by kernel_rfl) (by kernel_rfl) (fun _ _ _ h => h) (Or.inr ⟨by kernel_rfl, rfl⟩) hS ?_
    try simp only [Act.put, z1, z2, z3]
    refine wpAnyH_take (i := 24) (oi := ⟨some 41, .index 28 (.tmp 39) (.tmp 40), 27, "soft.go:99", #[⟨22, .data⟩, ⟨23, .data⟩, ⟨2, .guard⟩], some (2, true)⟩) (v := undef) rfl (by kernel_rfl) (by kernel_rfl) (by kernel_rfl) (fun _ _ _ h => h) (Or.inr ⟨by kernel_rfl, rfl⟩) hS ?_
    try simp only [Act.put, z1, z2, z3]
    refine wpAnyH_take (i := 25) (oi := ⟨some 42, .binOp .eql 27 (.tmp 31) (.tmp 41) 27, 4, "soft.go:99", #[⟨14, .data⟩, ⟨24, .data⟩, ⟨2, .guard⟩], some (2, true)⟩) (v := undef) rfl (by kernel_rfl) (by kernel_rfl) (by kernel_rfl) (fun _ _ _ h => h) (Or.inr ⟨by kernel_rfl, rfl⟩) hS ?_
    try simp only [Act.put, z1, z2, z3]
    refine tkP (i := 26) (oi := ⟨some 43, .pick (.tmp 19) (.tmp 42) (.const (.bool false)), 4, "soft.go:99", #[⟨2, .data⟩, ⟨25, .data⟩], none⟩) (v := .bool false) hS ?_
    try simp only [Act.put, z1, z2, z3]
    refine tkP (i := 27) (oi := ⟨some 6, .assign (.tmp 43), 4, "soft.go:99", #[⟨26, .data⟩, ⟨19, .chain⟩, ⟨0, .phase⟩, ⟨1, .phase⟩, ⟨2, .phase⟩, ⟨3, .phase⟩, ⟨4, .phase⟩, ⟨5, .phase⟩, ⟨6, .phase⟩, ⟨7, .phase⟩, ⟨8, .phase⟩, ⟨9, .phase⟩, ⟨10, .phase⟩, ⟨11, .phase⟩, ⟨12, .phase⟩, ⟨13, .phase⟩, ⟨14, .phase⟩, ⟨15, .phase⟩, ⟨16, .phase⟩, ⟨17, .phase⟩, ⟨18, .phase⟩, ⟨19, .phase⟩, ⟨20, .phase⟩, ⟨21, .phase⟩, ⟨22, .phase⟩, ⟨23, .phase⟩, ⟨24, .phase⟩, ⟨25, .phase⟩, ⟨26, .phase⟩], none⟩) (v := .bool false) hS ?_
    try simp only [Act.put, z1, z2, z3]
    refine wpAnyH_done (by kernel_rfl) ?_ _
    clear hS
    go_wp2_with fail
    go_ret
    exact ⟨rfl, unhide BD⟩
  · obtain ⟨⟨d0, d3⟩, _, j, hj, e1, _, _⟩ := Img.findAt_some (Int.not_lt.1 hf)
    obtain ⟨dd, rfl⟩ := Int.eq_ofNat_of_zero_le d0
    have hd : dd < 3 := by omega
    have e2 : Img.ssure m k (dd : Int) s = ((m.name dd j).toList == (k.name dd j).toList && m.ino dd j == k.ino dd j && m.est dd j == k.est dd j) := by unfold Img.ssure; rw [e1, Int.toNat_natCast, Int.toNat_natCast, show decide (0 ≤ (j : Int)) = true by simp]; rfl
    rw [e2]
    rw [e1] at C1
    have HK := hide (ent_cells h.disk hd hj)
    have C2 := hide fun W (bW : Below w.heap.size w W) => disk_any bc cs ds m k h.now h.disk W (h.below bW).row
    have U1 := hide (show decide (0 ≤ (j : Int)) = true by simp)
    clear hf h e1 e2 d0 d3
    go_enter Tryz.func26, Tryz.ntmps26
    go_wp2_with fail
    refine (unhide C1).mono ?_
    rintro e wq ⟨rfl, e9⟩
    rw [e9]
    clear e9 wq p0 l0 l1
    go_wp2_with fail
    refine wp_region_held_drew (S := PS2 bf bc m) (by kernel_rfl) (unhide SD) (fun hS => ?_)
    refine tkP (i := 0) (oi := ⟨some 17, .move (.tmp 7), 3, "soft.go:99", #[], none⟩) (v := .int .i64 (j : Int)) hS ?_
    try simp only [Act.put, z1, z2, z3]
    refine tkH (i := 1) (oi := ⟨some 18, .binOp .geq 3 (.tmp 17) (.const (.int .i64 0)) 3, 4, "soft.go:99", #[⟨0, .data⟩], none⟩) (v := .bool true) (fun W h => (by rw [← unhide U1]; exact Op1.geq0 (.tmp 17) (by kernel_rfl) (by kernel_rfl) (by kernel_rfl) W)) hS ?_
    try simp only [Act.put, z1, z2, z3]
    refine tkP (i := 2) (oi := ⟨some 19, .move (.tmp 18), 4, "soft.go:99", #[⟨1, .data⟩], none⟩) (v := .bool true) hS ?_
    try simp only [Act.put, z1, z2, z3]
    refine tkP (i := 3) (oi := ⟨some 20, .move (.tmp 0), 42, "soft.go:99", #[⟨2, .guard⟩], some (2, true)⟩) (v := .pointer (some ⟨bf, 0, none⟩)) hS ?_
    try simp only [Act.put, z1, z2, z3]
    refine tkP (i := 4) (oi := ⟨some 21, .nilCheck (.tmp 20), 0, "soft.go:99", #[⟨3, .data⟩, ⟨2, .guard⟩], some (2, true)⟩) (v := .pointer (some ⟨bf, 0, none⟩)) hS ?_
    try simp only [Act.put, z1, z2, z3]
    refine tkP (i := 5) (oi := ⟨some 22, .fieldAddr 55 (.tmp 21) 0, 0, "soft.go:99", #[⟨4, .data⟩, ⟨2, .guard⟩], some (2, true)⟩) (v := .pointer (some ⟨bf, 0, none⟩)) hS ?_
    try simp only [Act.put, z1, z2, z3]
    refine tkH (i := 6) (oi := ⟨some 23, .load 53 (.tmp 22), 53, "soft.go:99", #[⟨5, .data⟩, ⟨2, .guard⟩], some (2, true)⟩) (v := .pointer (some ⟨bc, 0, none⟩)) (fun W h => Op1.ld_ptr (.tmp 22) (by kernel_rfl) (by kernel_rfl) W (h.1)) hS ?_
    try simp only [Act.put, z1, z2, z3]
    refine tkP (i := 7) (oi := ⟨some 24, .move (.tmp 1), 3, "soft.go:99", #[⟨2, .guard⟩], some (2, true)⟩) (v := .int .i64 (dd : Int)) hS ?_
    try simp only [Act.put, z1, z2, z3]
    refine tkP (i := 8) (oi := ⟨some 25, .move (.tmp 7), 3, "soft.go:99", #[⟨2, .guard⟩], some (2, true)⟩) (v := .int .i64 (j : Int)) hS ?_
    try simp only [Act.put, z1, z2, z3]
    refine tkP (i := 9) (oi := ⟨some 26, .nilCheck (.tmp 23), 0, "soft.go:99", #[⟨6, .data⟩, ⟨2, .guard⟩], some (2, true)⟩) (v := .pointer (some ⟨bc, 0, none⟩)) hS ?_
    try simp only [Act.put, z1, z2, z3]
    refine tkP (i := 10) (oi := ⟨some 27, .fieldAddr 57 (.tmp 26) 0, 0, "soft.go:99", #[⟨9, .data⟩, ⟨2, .guard⟩], some (2, true)⟩) (v := .pointer (some ⟨bc, 0, none⟩)) hS ?_
    try simp only [Act.put, z1, z2, z3]
    refine tkP (i := 11) (oi := ⟨some 28, .fieldAddr 34 (.tmp 27) 1, 0, "soft.go:99", #[⟨10, .data⟩, ⟨2, .guard⟩], some (2, true)⟩) (v := .pointer (some ⟨bc, 40, none⟩)) hS ?_
    try simp only [Act.put, z1, z2, z3]
    refine tkH (i := 12) (oi := ⟨some 29, .indexAddr 29 (.tmp 28) (.tmp 24), 0, "soft.go:99", #[⟨11, .data⟩, ⟨7, .data⟩, ⟨2, .guard⟩], some (2, true)⟩) (v := .pointer (some ⟨bc, 40 + dd * 12, none⟩)) (fun W h => Op1.ix_dir (.tmp 28) (.tmp 24) (by kernel_rfl) (by kernel_rfl) (by kernel_rfl) (hd) W) hS ?_
    try simp only [Act.put, z1, z2, z3]
    refine tkH (i := 13) (oi := ⟨some 30, .indexAddr 28 (.tmp 29) (.tmp 25), 0, "soft.go:99", #[⟨12, .data⟩, ⟨8, .data⟩, ⟨2, .guard⟩], some (2, true)⟩) (v := .pointer (some ⟨bc, 40 + dd * 12 + j * 3, none⟩)) (fun W h => Op1.ix_slot (.tmp 29) (.tmp 25) (by kernel_rfl) (by kernel_rfl) (by kernel_rfl) (hj) W) hS ?_
    try simp only [Act.put, z1, z2, z3]
    refine tkH (i := 14) (oi := ⟨some 31, .load 27 (.tmp 30), 27, "soft.go:99", #[⟨13, .data⟩, ⟨2, .guard⟩], some (2, true)⟩) (v := .agg #[.string (m.name dd j), .int .i64 (m.ino dd j), .int .i64 (m.est dd j)]) (fun W h => Op1.ld_ent (.tmp 30) (by kernel_rfl) (by kernel_rfl) W (by have := h.2.name dd j hd hj; simp only [Nat.zero_add] at this; exact this) (by have := h.2.ino dd j hd hj; simp only [Nat.zero_add] at this; exact this) (by have := h.2.est dd j hd hj; simp only [Nat.zero_add] at this; exact this)) hS ?_
    try simp only [Act.put, z1, z2, z3]
    refine tkP (i := 15) (oi := ⟨some 32, .move (.tmp 0), 42, "soft.go:99", #[⟨2, .guard⟩], some (2, true)⟩) (v := .pointer (some ⟨bf, 0, none⟩)) hS ?_
    try simp only [Act.put, z1, z2, z3]
    refine tkP (i := 16) (oi := ⟨some 33, .nilCheck (.tmp 32), 0, "soft.go:99", #[⟨15, .data⟩, ⟨2, .guard⟩], some (2, true)⟩) (v := .pointer (some ⟨bf, 0, none⟩)) hS ?_
    try simp only [Act.put, z1, z2, z3]
    refine tkP (i := 17) (oi := ⟨some 34, .fieldAddr 55 (.tmp 33) 0, 0, "soft.go:99", #[⟨16, .data⟩, ⟨2, .guard⟩], some (2, true)⟩) (v := .pointer (some ⟨bf, 0, none⟩)) hS ?_
    try simp only [Act.put, z1, z2, z3]
    refine tkH (i := 18) (oi := ⟨some 35, .load 53 (.tmp 34), 53, "soft.go:99", #[⟨17, .data⟩, ⟨2, .guard⟩], some (2, true)⟩) (v := .pointer (some ⟨bc, 0, none⟩)) (fun W h => Op1.ld_ptr (.tmp 34) (by kernel_rfl) (by kernel_rfl) W (h.1)) hS ?_
    try simp only [Act.put, z1, z2, z3]
    refine tkP (i := 21) (oi := ⟨some 38, .move (.tmp 1), 3, "soft.go:99", #[⟨2, .guard⟩], some (2, true)⟩) (v := .int .i64 (dd : Int)) hS ?_
    try simp only [Act.put, z1, z2, z3]
    refine tkP (i := 23) (oi := ⟨some 40, .move (.tmp 7), 3, "soft.go:99", #[⟨2, .guard⟩], some (2, true)⟩) (v := .int .i64 (j : Int)) hS ?_
    try simp only [Act.put, z1, z2, z3]
    generalize World.drew _ = W0 at hS BD ⊢
    refine wpAnyH_ready (rs := [19]) (by kernel_rfl) (by simp) ?_
    refine AllReadyH.cons (o := ⟨some 36, .call { callee := .value (.func 18), args := #[.tmp 35], argTypes := #[53] }, 34, "soft.go:99", #[⟨18, .data⟩, ⟨2, .chain⟩, ⟨2, .guard⟩], some (2, true)⟩) rfl (fun K hK => ?_) AllReadyH.nil
    rw [if_pos (by kernel_rfl)]
    go_simp
    refine (unhide C2 W0 (unhide BD)).mono ?_
    rintro e w2 ⟨rfl, b2⟩
    have B2 := hide ((unhide BD).trans (b2.mono (unhide BD).size))
    clear b2
    go_wp2_with fail
    refine hK.out _ _ (⟨((unhide HFL).below (unhide B2)).ptr, ((unhide HFL).below (unhide B2)).hasNow⟩) (fun hS1 => ?_)
    clear hK K
    try simp only [Act.put, z1, z2, z3]
    refine tkH (i := 20) (oi := ⟨some 37, .field 34 (.tmp 36) 1, 29, "soft.go:99", #[⟨19, .data⟩, ⟨2, .guard⟩], some (2, true)⟩) (v := .agg (ds.extract 40 (40 + 36))) (fun W h => Op1.fld_dir (.tmp 36) (by kernel_rfl) (by kernel_rfl) W) hS1 ?_
    try simp only [Act.put, z1, z2, z3]
    refine tkH (i := 22) (oi := ⟨some 39, .index 29 (.tmp 37) (.tmp 38), 28, "soft.go:99", #[⟨20, .data⟩, ⟨21, .data⟩, ⟨2, .guard⟩], some (2, true)⟩) (v := .agg ((ds.extract 40 (40 + 36)).extract (dd * 12) (dd * 12 + 12))) (fun W h => Op1.iv_dir (.tmp 37) (.tmp 38) (by kernel_rfl) (by kernel_rfl) (by kernel_rfl) hd W) hS1 ?_
    try simp only [Act.put, z1, z2, z3]
    refine tkH (i := 24) (oi := ⟨some 41, .index 28 (.tmp 39) (.tmp 40), 27, "soft.go:99", #[⟨22, .data⟩, ⟨23, .data⟩, ⟨2, .guard⟩], some (2, true)⟩) (v := .agg #[.string (k.name dd j), .int .i64 (k.ino dd j), .int .i64 (k.est dd j)]) (fun W h => (by rw [← unhide HK]; exact Op1.iv_slot (.tmp 39) (.tmp 40) (by kernel_rfl) (by kernel_rfl) (by kernel_rfl) hj W)) hS1 ?_
    try simp only [Act.put, z1, z2, z3]
    refine tkH (i := 25) (oi := ⟨some 42, .binOp .eql 27 (.tmp 31) (.tmp 41) 27, 4, "soft.go:99", #[⟨14, .data⟩, ⟨24, .data⟩, ⟨2, .guard⟩], some (2, true)⟩) (v := .bool ((m.name dd j).toList == (k.name dd j).toList && m.ino dd j == k.ino dd j && m.est dd j == k.est dd j)) (fun W h => Op1.eq_ent (.tmp 31) (.tmp 41) (by kernel_rfl) (by kernel_rfl) (by kernel_rfl) W) hS1 ?_
    try simp only [Act.put, z1, z2, z3]
    refine tkP (i := 26) (oi := ⟨some 43, .pick (.tmp 19) (.tmp 42) (.const (.bool false)), 4, "soft.go:99", #[⟨2, .data⟩, ⟨25, .data⟩], none⟩) (v := .bool ((m.name dd j).toList == (k.name dd j).toList && m.ino dd j == k.ino dd j && m.est dd j == k.est dd j)) hS1 ?_
    try simp only [Act.put, z1, z2, z3]
    refine tkP (i := 27) (oi := ⟨some 6, .assign (.tmp 43), 4, "soft.go:99", #[⟨26, .data⟩, ⟨19, .chain⟩, ⟨0, .phase⟩, ⟨1, .phase⟩, ⟨2, .phase⟩, ⟨3, .phase⟩, ⟨4, .phase⟩, ⟨5, .phase⟩, ⟨6, .phase⟩, ⟨7, .phase⟩, ⟨8, .phase⟩, ⟨9, .phase⟩, ⟨10, .phase⟩, ⟨11, .phase⟩, ⟨12, .phase⟩, ⟨13, .phase⟩, ⟨14, .phase⟩, ⟨15, .phase⟩, ⟨16, .phase⟩, ⟨17, .phase⟩, ⟨18, .phase⟩, ⟨19, .phase⟩, ⟨20, .phase⟩, ⟨21, .phase⟩, ⟨22, .phase⟩, ⟨23, .phase⟩, ⟨24, .phase⟩, ⟨25, .phase⟩, ⟨26, .phase⟩], none⟩) (v := .bool ((m.name dd j).toList == (k.name dd j).toList && m.ino dd j == k.ino dd j && m.est dd j == k.est dd j)) hS1 ?_
    try simp only [Act.put, z1, z2, z3]
    refine wpAnyH_done (by kernel_rfl) ?_ _
    clear hS hS1
    go_wp2_with fail
    go_ret
    exact ⟨rfl, unhide B2⟩
end
end Go.Proofs.YtmbpckmpnnmnmabGreat
