/-
  The walks of package soft: New, Of (nil), Same, Read. (Written by gendr.py.)
-/
import Derived.Test.YtfpfpnhpbnnmfadGreatDoorXax
namespace Go.Proofs.YtfpfpnhpbnnmfadGreatDoor
open Go.RowKit
open Idl (Stp chk stpA)
namespace Img
def ssame (m : Img) (d : Int) (s : ByteArray) (e : Int) (u : ByteArray) : Bool := decide (0 ≤ inoOf m d s) && (inoOf m d s == inoOf m e u)
/-- what Read answers -/
def sreadC (m : Img) (d : Int) (s : ByteArray) (p : Int) : Int := scheck m (Idl.cut d s p)
def spart (m : Img) (d : Int) (s : ByteArray) (p : Int) : Int := m.part (inoOf m d s).toNat p.toNat
def sreadB (m : Img) (d : Int) (s : ByteArray) (p : Int) : Bool := if sreadC m d s p ≠ 0 then false else !decide (spart m d s p < 0)
def sreadT (m : Img) (d : Int) (s : ByteArray) (p : Int) : ByteArray := if sreadC m d s p ≠ 0 then ⟨#[]⟩ else if spart m d s p < 0 then ⟨#[]⟩ else m.text (spart m d s p).toNat
end Img
section
variable {w : World} {bf bc : Nat} {cs ds : Array Value} {m k : Img} {last : Int}
theorem sNew_any (w : World) :
    Calls Tryz.prog 24 #[] w fun e w' => (∃ bf bc, e = .returned (.pointer (some ⟨bf, 0, none⟩)) ∧ w.heap.size ≤ bf ∧ w.heap.size ≤ bc ∧ Fl w' bf bc blankCells blankCells blankI blankI 0) ∧ Below w.heap.size w w' := by
  go_enter Tryz.func24, Tryz.ntmps24
  go_wp2_with fail
  refine (cNew_any w).mono ?_
  rintro e w1 ⟨⟨g, rfl, hg, hr⟩, b1⟩
  have HR := hide hr
  have B1 := hide b1
  have hlt : g < w1.heap.size := (Array.getElem?_eq_some_iff.1 hr).1
  clear hr b1
  go_wp2_with fail
  go_ret
  refine ⟨⟨_, g, rfl, (unhide B1).size, hg, ⟨heap_alloc_last _ _, ?_, blank_is, blank_is, by omega⟩⟩, (unhide B1).alloc (unhide B1).size _⟩
  rw [Below.heap_alloc _ _ _ hlt]; exact unhide HR
set_option maxHeartbeats 1000000 in
set_option maxRecDepth 100000 in
theorem sSame_any (h : Fl w bf bc cs ds m k last) (d : Int) (s : ByteArray) (d2 : Int) (u : ByteArray) :
    Calls Tryz.prog 57 #[.pointer (some ⟨bf, 0, none⟩), .int .i64 d, .string s, .int .i64 d2, .string u] w fun e w' => e = .returned (.bool (Img.ssame m d s d2 u)) ∧ w' = w := by
  have C1 := hide (sfind_any h d s)
  have C2 := hide (sfind_any h d2 u)
  have E := hide (show Img.ssame m d s d2 u = (decide (0 ≤ Img.inoOf m d s) && (Img.inoOf m d s == Img.inoOf m d2 u)) from rfl)
  generalize Img.ssame m d s d2 u = r at E ⊢
  generalize Img.inoOf m d s = i1 at E C1
  generalize Img.inoOf m d2 u = i2 at E C2
  clear h
  by_cases hi : 0 ≤ i1
  · have u1 : decide (i1 ≥ 0) = true := by simpa using hi
    have u2 : decide (0 ≤ i1) = true := by simpa using hi
    have E1 := hide (show r = (i1 == i2) by rw [unhide E, u2, Bool.true_and])
    clear hi E
    go_enter Tryz.func57, Tryz.ntmps57
    go_wp2_with fail
    refine (unhide C1).mono ?_
    rintro e wq ⟨rfl, e9⟩
    rw [e9]
    clear e9 wq
    go_wp2_with fail
    refine (unhide C2).mono ?_
    rintro e wq ⟨rfl, e9⟩
    rw [e9]
    clear e9 wq
    go_wp2_with fail
    go_ret
    exact ⟨ret_bool (by rw [unhide E1]), rfl⟩
  · have u1 : decide (i1 ≥ 0) = false := by simpa using hi
    have u2 : decide (0 ≤ i1) = false := by simpa using hi
    have E1 := hide (show r = false by rw [unhide E, u2, Bool.false_and])
    clear hi E C2
    go_enter Tryz.func57, Tryz.ntmps57
    go_wp2_with fail
    refine (unhide C1).mono ?_
    rintro e wq ⟨rfl, e9⟩
    rw [e9]
    clear e9 wq
    go_wp2_with fail
    go_ret
    exact ⟨ret_bool (unhide E1).symm, rfl⟩
theorem cut_old {m : Img} (hm : m.check = 0) {d : Int} {s : ByteArray} {p : Int} (h : Img.sreadC m d s p = 0) : ∃ j n q : Nat, Img.There m d s j n ∧ q < 2 ∧ p = (q : Int) := by
  have hc : chk (Idl.cut d s p) = 0 := by
    unfold Img.sreadC Img.scheck at h
    by_cases e : chk (Idl.cut d s p) = 0
    · exact e
    · rw [if_pos e] at h; exact absurd h e
  have ho : 0 ≤ Img.inoOf m d s := by
    unfold Img.sreadC Img.scheck at h
    rw [if_neg (by rw [hc]; simp), if_neg (by show ¬ (6 : Int) = 1; omega)] at h
    by_cases z : Img.inoOf m d s < 0
    · rw [if_pos (show Img.inoOf m (Idl.cut d s p).dir (Idl.cut d s p).name < 0 from z)] at h; simp at h
    · omega
  obtain ⟨_, _, _, _, _, a6⟩ := Img.chk_names hc
  obtain ⟨j, n, hT⟩ := Img.there hm ho
  have a7 : 0 ≤ p ∧ p < 2 := a6 (.inr rfl)
  obtain ⟨q, hq⟩ := Int.eq_ofNat_of_zero_le a7.1
  exact ⟨j, n, q, hT, by omega, hq⟩
set_option maxHeartbeats 2000000 in
set_option maxRecDepth 100000 in
theorem sRead_any (h : Fl w bf bc cs ds m k last) (hm : m.check = 0) (d : Int) (s : ByteArray) (hs : s.size ≤ maxLen) (p : Int) :
    Calls Tryz.prog 82 #[.pointer (some ⟨bf, 0, none⟩), .int .i64 d, .string s, .int .i64 p] w fun e w' => e = .returned (.tuple #[.string (Img.sreadT m d s p), .bool (Img.sreadB m d s p), .int .i64 (Img.sreadC m d s p)]) ∧ Below w.heap.size w w' := by
  have C1 := hide (scheck_any h (Idl.cut d s p) hs (Nat.zero_le _) (Nat.zero_le _))
  have E1 := hide (show Img.scheck m (Idl.cut d s p) = Img.sreadC m d s p from rfl)
  rw [unhide E1] at C1
  by_cases hc : Img.sreadC m d s p = 0
  · obtain ⟨j, n, q, hT, hq, rfl⟩ := cut_old hm hc
    have e1 : Img.spart m d s (q : Int) = m.part n q := by unfold Img.spart; rw [hT.of, Int.toNat_natCast, Int.toNat_natCast]
    have C2 := hide fun W (bW : Below w.heap.size w W) => sfind_any (h.below bW) d s
    rw [hT.of] at C2
    rw [hc] at C1 ⊢
    have hn := hT.n8
    have HFL := hide h
    have hpt := (Img.checkPart_iff.1 ((Img.inode_parts_ok hm hT.n8 hT.live).2.2 q hq))
    have eB : Img.sreadB m d s (q : Int) = !decide (m.part n q < 0) := by unfold Img.sreadB; rw [if_neg (by rw [hc]; simp), e1]
    have eT : Img.sreadT m d s (q : Int) = if m.part n q < 0 then ⟨#[]⟩ else m.text (m.part n q).toNat := by unfold Img.sreadT; rw [if_neg (by rw [hc]; simp), e1]
    rw [eB, eT]
    have PRT := hide fun W (hW : HasAt W bc 0 m) => hW.part n q hn hq
    have TXT := hide fun W (hW : HasAt W bc 0 m) (x : Nat) (hx : x < 9) => hW.text x hx
    simp only [Idl.cut, stpA, Idl.none0] at C1
    clear h hT hc e1 eB eT
    rcases hpt with z | ⟨z, _⟩
    · rw [z] at PRT ⊢
      have u1 : decide ((-1 : Int) < 0) = true := by decide
      go_enter Tryz.func82, Tryz.ntmps82
      go_wp2_with fail
      refine (unhide C1).mono ?_
      rintro e w1 ⟨rfl, b1⟩
      have B1 := hide b1.drew
      clear b1
      go_wp2_with fail
      refine wp_region_held_drew (S := PS2 bf bc m) (by kernel_rfl) (⟨((unhide HFL).below (unhide B1)).ptr, ((unhide HFL).below (unhide B1)).hasNow⟩) (fun hS => ?_)
      refine wpAnyH_take (i := 0) (oi := { dst := some 22, op := Op.move (Operand.tmp 0), type := 60, pos := "soft.go:68", after := #[], guard := none }) (v := .pointer (some ⟨bf, 0, none⟩)) rfl (by kernel_rfl) (by kernel_rfl) (by kernel_rfl) (fun _ _ _ h => h) (Or.inl ⟨by kernel_rfl, fun W h => (by first | kernel_rfl | go_simp)⟩) hS ?_
      try simp only [Act.put, List.setIfInBounds_toArray, List.set_cons_zero, List.set_cons_succ]
      refine wpAnyH_take (i := 1) (oi := { dst := some 23, op := Op.nilCheck (Operand.tmp 22), type := 0, pos := "soft.go:68", after := #[{ on := 0, ground := Ground.data }], guard := none }) (v := .pointer (some ⟨bf, 0, none⟩)) rfl (by kernel_rfl) (by kernel_rfl) (by kernel_rfl) (fun _ _ _ h => h) (Or.inl ⟨by kernel_rfl, fun W h => (by first | kernel_rfl | go_simp)⟩) hS ?_
      try simp only [Act.put, List.setIfInBounds_toArray, List.set_cons_zero, List.set_cons_succ]
      refine wpAnyH_take (i := 2) (oi := { dst := some 24, op := Op.fieldAddr 114 (Operand.tmp 23) 0, type := 0, pos := "soft.go:68", after := #[{ on := 1, ground := Ground.data }], guard := none }) (v := .pointer (some ⟨bf, 0, none⟩)) rfl (by kernel_rfl) (by kernel_rfl) (by kernel_rfl) (fun _ _ _ h => h) (Or.inl ⟨by kernel_rfl, fun W h => (by first | kernel_rfl | go_simp)⟩) hS ?_
      try simp only [Act.put, List.setIfInBounds_toArray, List.set_cons_zero, List.set_cons_succ]
      refine wpAnyH_take (i := 3) (oi := { dst := some 25, op := Op.load 111 (Operand.tmp 24), type := 111, pos := "soft.go:68", after := #[{ on := 2, ground := Ground.data }], guard := none }) (v := .pointer (some ⟨bc, 0, none⟩)) rfl (by kernel_rfl) (by kernel_rfl) (by kernel_rfl) (fun _ _ _ h => h) (Or.inl ⟨by kernel_rfl, fun W h => Op1.ld_ptr (.tmp 24) (by kernel_rfl) (by kernel_rfl) W (h.1)⟩) hS ?_
      try simp only [Act.put, List.setIfInBounds_toArray, List.set_cons_zero, List.set_cons_succ]
      refine wpAnyH_take (i := 4) (oi := { dst := some 26, op := Op.move (Operand.tmp 0), type := 60, pos := "soft.go:68", after := #[], guard := none }) (v := .pointer (some ⟨bf, 0, none⟩)) rfl (by kernel_rfl) (by kernel_rfl) (by kernel_rfl) (fun _ _ _ h => h) (Or.inl ⟨by kernel_rfl, fun W h => (by first | kernel_rfl | go_simp)⟩) hS ?_
      try simp only [Act.put, List.setIfInBounds_toArray, List.set_cons_zero, List.set_cons_succ]
      refine wpAnyH_take (i := 5) (oi := { dst := some 27, op := Op.move (Operand.tmp 1), type := 3, pos := "soft.go:68", after := #[], guard := none }) (v := .int .i64 d) rfl (by kernel_rfl) (by kernel_rfl) (by kernel_rfl) (fun _ _ _ h => h) (Or.inl ⟨by kernel_rfl, fun W h => (by first | kernel_rfl | go_simp)⟩) hS ?_
      try simp only [Act.put, List.setIfInBounds_toArray, List.set_cons_zero, List.set_cons_succ]
      refine wpAnyH_take (i := 6) (oi := { dst := some 28, op := Op.move (Operand.tmp 2), type := 9, pos := "soft.go:68", after := #[], guard := none }) (v := .string s) rfl (by kernel_rfl) (by kernel_rfl) (by kernel_rfl) (fun _ _ _ h => h) (Or.inl ⟨by kernel_rfl, fun W h => (by first | kernel_rfl | go_simp)⟩) hS ?_
      try simp only [Act.put, List.setIfInBounds_toArray, List.set_cons_zero, List.set_cons_succ]
      refine wpAnyH_take (i := 8) (oi := { dst := some 30, op := Op.move (Operand.tmp 3), type := 3, pos := "soft.go:68", after := #[], guard := none }) (v := .int .i64 (q : Int)) rfl (by kernel_rfl) (by kernel_rfl) (by kernel_rfl) (fun _ _ _ h => h) (Or.inl ⟨by kernel_rfl, fun W h => (by first | kernel_rfl | go_simp)⟩) hS ?_
      try simp only [Act.put, List.setIfInBounds_toArray, List.set_cons_zero, List.set_cons_succ]
      refine wpAnyH_take (i := 9) (oi := { dst := some 31, op := Op.nilCheck (Operand.tmp 25), type := 0, pos := "soft.go:68", after := #[{ on := 3, ground := Ground.data }], guard := none }) (v := .pointer (some ⟨bc, 0, none⟩)) rfl (by kernel_rfl) (by kernel_rfl) (by kernel_rfl) (fun _ _ _ h => h) (Or.inl ⟨by kernel_rfl, fun W h => (by first | kernel_rfl | go_simp)⟩) hS ?_
      try simp only [Act.put, List.setIfInBounds_toArray, List.set_cons_zero, List.set_cons_succ]
      refine wpAnyH_take (i := 10) (oi := { dst := some 32, op := Op.fieldAddr 141 (Operand.tmp 31) 0, type := 0, pos := "soft.go:68", after := #[{ on := 9, ground := Ground.data }], guard := none }) (v := .pointer (some ⟨bc, 0, none⟩)) rfl (by kernel_rfl) (by kernel_rfl) (by kernel_rfl) (fun _ _ _ h => h) (Or.inl ⟨by kernel_rfl, fun W h => (by first | kernel_rfl | go_simp)⟩) hS ?_
      try simp only [Act.put, List.setIfInBounds_toArray, List.set_cons_zero, List.set_cons_succ]
      refine wpAnyH_take (i := 11) (oi := { dst := some 33, op := Op.fieldAddr 78 (Operand.tmp 32) 0, type := 0, pos := "soft.go:68", after := #[{ on := 10, ground := Ground.data }], guard := none }) (v := .pointer (some ⟨bc, 0, none⟩)) rfl (by kernel_rfl) (by kernel_rfl) (by kernel_rfl) (fun _ _ _ h => h) (Or.inl ⟨by kernel_rfl, fun W h => (by first | kernel_rfl | go_simp)⟩) hS ?_
      try simp only [Act.put, List.setIfInBounds_toArray, List.set_cons_zero, List.set_cons_succ]
      generalize World.drew _ = W0 at hS B1 ⊢
      refine wpAnyH_ready (rs := [7]) (by kernel_rfl) (by simp) ?_
      refine AllReadyH.cons (o := { dst := some 29, op := Op.call { callee := Callee.value (Operand.func 87), args := #[Operand.tmp 26, Operand.tmp 27, Operand.tmp 28], argTypes := #[60, 3, 9] }, type := 3, pos := "soft.go:68", after := #[{ on := 4, ground := Ground.data }, { on := 5, ground := Ground.data }, { on := 6, ground := Ground.data }], guard := none }) rfl (fun K hK => ?_) AllReadyH.nil
      rw [if_pos (by kernel_rfl)]
      go_simp
      refine (unhide C2 W0 (unhide B1)).mono ?_
      rintro e wq ⟨rfl, e9⟩
      rw [e9]
      clear e9 wq
      go_wp2_with fail
      refine hK.out _ _ (hS) (fun hS1 => ?_)
      clear hK K
      try simp only [Act.put, List.setIfInBounds_toArray, List.set_cons_zero, List.set_cons_succ]
      refine wpAnyH_take (i := 12) (oi := { dst := some 34, op := Op.indexAddr 69 (Operand.tmp 33) (Operand.tmp 29), type := 0, pos := "soft.go:68", after := #[{ on := 11, ground := Ground.data }, { on := 7, ground := Ground.data }], guard := none }) (v := .pointer (some ⟨bc, n * 5, none⟩)) rfl (by kernel_rfl) (by kernel_rfl) (by kernel_rfl) (fun _ _ _ h => h) (Or.inl ⟨by kernel_rfl, fun W h => Op1.ix_ino (.tmp 33) (.tmp 29) (by kernel_rfl) (by kernel_rfl) (by kernel_rfl) (hn) W⟩) hS1 ?_
      try simp only [Act.put, List.setIfInBounds_toArray, List.set_cons_zero, List.set_cons_succ]
      refine wpAnyH_take (i := 13) (oi := { dst := some 35, op := Op.fieldAddr 68 (Operand.tmp 34) 3, type := 0, pos := "soft.go:68", after := #[{ on := 12, ground := Ground.data }], guard := none }) (v := .pointer (some ⟨bc, n * 5 + 3, none⟩)) rfl (by kernel_rfl) (by kernel_rfl) (by kernel_rfl) (fun _ _ _ h => h) (Or.inl ⟨by kernel_rfl, fun W h => (by first | kernel_rfl | go_simp)⟩) hS1 ?_
      try simp only [Act.put, List.setIfInBounds_toArray, List.set_cons_zero, List.set_cons_succ]
      refine wpAnyH_take (i := 14) (oi := { dst := some 36, op := Op.indexAddr 66 (Operand.tmp 35) (Operand.tmp 30), type := 0, pos := "soft.go:68", after := #[{ on := 13, ground := Ground.data }, { on := 8, ground := Ground.data }], guard := none }) (v := .pointer (some ⟨bc, n * 5 + 3 + q, none⟩)) rfl (by kernel_rfl) (by kernel_rfl) (by kernel_rfl) (fun _ _ _ h => h) (Or.inl ⟨by kernel_rfl, fun W h => Op1.ix_part (.tmp 35) (.tmp 30) (by kernel_rfl) (by kernel_rfl) (by kernel_rfl) (hq) W⟩) hS1 ?_
      try simp only [Act.put, List.setIfInBounds_toArray, List.set_cons_zero, List.set_cons_succ]
      refine wpAnyH_take (i := 15) (oi := { dst := some 37, op := Op.load 3 (Operand.tmp 36), type := 3, pos := "soft.go:68", after := #[{ on := 14, ground := Ground.data }], guard := none }) (v := .int .i64 (-1)) rfl (by kernel_rfl) (by kernel_rfl) (by kernel_rfl) (fun _ _ _ h => h) (Or.inl ⟨by kernel_rfl, fun W h => Op1.ld_int (.tmp 36) (by kernel_rfl) (by kernel_rfl) W (by have := unhide PRT W h.2; rw [Nat.zero_add] at this; exact this)⟩) hS1 ?_
      try simp only [Act.put, List.setIfInBounds_toArray, List.set_cons_zero, List.set_cons_succ]
      refine wpAnyH_take (i := 16) (oi := { dst := some 12, op := Op.assign (Operand.tmp 37), type := 3, pos := "soft.go:68", after := #[{ on := 15, ground := Ground.data }, { on := 7, ground := Ground.chain }, { on := 0, ground := Ground.phase }, { on := 1, ground := Ground.phase }, { on := 2, ground := Ground.phase }, { on := 3, ground := Ground.phase }, { on := 4, ground := Ground.phase }, { on := 5, ground := Ground.phase }, { on := 6, ground := Ground.phase }, { on := 7, ground := Ground.phase }, { on := 8, ground := Ground.phase }, { on := 9, ground := Ground.phase }, { on := 10, ground := Ground.phase }, { on := 11, ground := Ground.phase }, { on := 12, ground := Ground.phase }, { on := 13, ground := Ground.phase }, { on := 14, ground := Ground.phase }, { on := 15, ground := Ground.phase }], guard := none }) (v := .int .i64 (-1)) rfl (by kernel_rfl) (by kernel_rfl) (by kernel_rfl) (fun _ _ _ h => h) (Or.inl ⟨by kernel_rfl, fun W h => (by first | kernel_rfl | go_simp)⟩) hS1 ?_
      try simp only [Act.put, List.setIfInBounds_toArray, List.set_cons_zero, List.set_cons_succ]
      refine wpAnyH_done (by kernel_rfl) ?_ _
      clear hS hS1
      go_wp2_with fail
      go_ret3
      exact ⟨rfl, unhide B1⟩
    · have hb : 0 ≤ m.part n q ∧ m.part n q < 9 := by simpa [Img.isD] using z
      obtain ⟨x, hxx⟩ := Int.eq_ofNat_of_zero_le hb.1
      have hx : x < 9 := by omega
      rw [show m.part n q = (x : Int) from hxx] at PRT ⊢
      have u1 : decide ((x : Int) < 0) = false := by simp
      rw [if_neg (by omega), Int.toNat_natCast, u1]
      have xz : (x : Int) < 9 := by omega
      clear z hb hxx
      go_enter Tryz.func82, Tryz.ntmps82
      go_wp2_with fail
      refine (unhide C1).mono ?_
      rintro e w1 ⟨rfl, b1⟩
      have B1 := hide b1.drew
      clear b1
      go_wp2_with fail
      refine wp_region_held_drew (S := PS2 bf bc m) (by kernel_rfl) (⟨((unhide HFL).below (unhide B1)).ptr, ((unhide HFL).below (unhide B1)).hasNow⟩) (fun hS => ?_)
      refine wpAnyH_take (i := 0) (oi := { dst := some 22, op := Op.move (Operand.tmp 0), type := 60, pos := "soft.go:68", after := #[], guard := none }) (v := .pointer (some ⟨bf, 0, none⟩)) rfl (by kernel_rfl) (by kernel_rfl) (by kernel_rfl) (fun _ _ _ h => h) (Or.inl ⟨by kernel_rfl, fun W h => (by first | kernel_rfl | go_simp)⟩) hS ?_
      try simp only [Act.put, List.setIfInBounds_toArray, List.set_cons_zero, List.set_cons_succ]
      refine wpAnyH_take (i := 1) (oi := { dst := some 23, op := Op.nilCheck (Operand.tmp 22), type := 0, pos := "soft.go:68", after := #[{ on := 0, ground := Ground.data }], guard := none }) (v := .pointer (some ⟨bf, 0, none⟩)) rfl (by kernel_rfl) (by kernel_rfl) (by kernel_rfl) (fun _ _ _ h => h) (Or.inl ⟨by kernel_rfl, fun W h => (by first | kernel_rfl | go_simp)⟩) hS ?_
      try simp only [Act.put, List.setIfInBounds_toArray, List.set_cons_zero, List.set_cons_succ]
      refine wpAnyH_take (i := 2) (oi := { dst := some 24, op := Op.fieldAddr 114 (Operand.tmp 23) 0, type := 0, pos := "soft.go:68", after := #[{ on := 1, ground := Ground.data }], guard := none }) (v := .pointer (some ⟨bf, 0, none⟩)) rfl (by kernel_rfl) (by kernel_rfl) (by kernel_rfl) (fun _ _ _ h => h) (Or.inl ⟨by kernel_rfl, fun W h => (by first | kernel_rfl | go_simp)⟩) hS ?_
      try simp only [Act.put, List.setIfInBounds_toArray, List.set_cons_zero, List.set_cons_succ]
      refine wpAnyH_take (i := 3) (oi := { dst := some 25, op := Op.load 111 (Operand.tmp 24), type := 111, pos := "soft.go:68", after := #[{ on := 2, ground := Ground.data }], guard := none }) (v := .pointer (some ⟨bc, 0, none⟩)) rfl (by kernel_rfl) (by kernel_rfl) (by kernel_rfl) (fun _ _ _ h => h) (Or.inl ⟨by kernel_rfl, fun W h => Op1.ld_ptr (.tmp 24) (by kernel_rfl) (by kernel_rfl) W (h.1)⟩) hS ?_
      try simp only [Act.put, List.setIfInBounds_toArray, List.set_cons_zero, List.set_cons_succ]
      refine wpAnyH_take (i := 4) (oi := { dst := some 26, op := Op.move (Operand.tmp 0), type := 60, pos := "soft.go:68", after := #[], guard := none }) (v := .pointer (some ⟨bf, 0, none⟩)) rfl (by kernel_rfl) (by kernel_rfl) (by kernel_rfl) (fun _ _ _ h => h) (Or.inl ⟨by kernel_rfl, fun W h => (by first | kernel_rfl | go_simp)⟩) hS ?_
      try simp only [Act.put, List.setIfInBounds_toArray, List.set_cons_zero, List.set_cons_succ]
      refine wpAnyH_take (i := 5) (oi := { dst := some 27, op := Op.move (Operand.tmp 1), type := 3, pos := "soft.go:68", after := #[], guard := none }) (v := .int .i64 d) rfl (by kernel_rfl) (by kernel_rfl) (by kernel_rfl) (fun _ _ _ h => h) (Or.inl ⟨by kernel_rfl, fun W h => (by first | kernel_rfl | go_simp)⟩) hS ?_
      try simp only [Act.put, List.setIfInBounds_toArray, List.set_cons_zero, List.set_cons_succ]
      refine wpAnyH_take (i := 6) (oi := { dst := some 28, op := Op.move (Operand.tmp 2), type := 9, pos := "soft.go:68", after := #[], guard := none }) (v := .string s) rfl (by kernel_rfl) (by kernel_rfl) (by kernel_rfl) (fun _ _ _ h => h) (Or.inl ⟨by kernel_rfl, fun W h => (by first | kernel_rfl | go_simp)⟩) hS ?_
      try simp only [Act.put, List.setIfInBounds_toArray, List.set_cons_zero, List.set_cons_succ]
      refine wpAnyH_take (i := 8) (oi := { dst := some 30, op := Op.move (Operand.tmp 3), type := 3, pos := "soft.go:68", after := #[], guard := none }) (v := .int .i64 (q : Int)) rfl (by kernel_rfl) (by kernel_rfl) (by kernel_rfl) (fun _ _ _ h => h) (Or.inl ⟨by kernel_rfl, fun W h => (by first | kernel_rfl | go_simp)⟩) hS ?_
      try simp only [Act.put, List.setIfInBounds_toArray, List.set_cons_zero, List.set_cons_succ]
      refine wpAnyH_take (i := 9) (oi := { dst := some 31, op := Op.nilCheck (Operand.tmp 25), type := 0, pos := "soft.go:68", after := #[{ on := 3, ground := Ground.data }], guard := none }) (v := .pointer (some ⟨bc, 0, none⟩)) rfl (by kernel_rfl) (by kernel_rfl) (by kernel_rfl) (fun _ _ _ h => h) (Or.inl ⟨by kernel_rfl, fun W h => (by first | kernel_rfl | go_simp)⟩) hS ?_
      try simp only [Act.put, List.setIfInBounds_toArray, List.set_cons_zero, List.set_cons_succ]
      refine wpAnyH_take (i := 10) (oi := { dst := some 32, op := Op.fieldAddr 141 (Operand.tmp 31) 0, type := 0, pos := "soft.go:68", after := #[{ on := 9, ground := Ground.data }], guard := none }) (v := .pointer (some ⟨bc, 0, none⟩)) rfl (by kernel_rfl) (by kernel_rfl) (by kernel_rfl) (fun _ _ _ h => h) (Or.inl ⟨by kernel_rfl, fun W h => (by first | kernel_rfl | go_simp)⟩) hS ?_
      try simp only [Act.put, List.setIfInBounds_toArray, List.set_cons_zero, List.set_cons_succ]
      refine wpAnyH_take (i := 11) (oi := { dst := some 33, op := Op.fieldAddr 78 (Operand.tmp 32) 0, type := 0, pos := "soft.go:68", after := #[{ on := 10, ground := Ground.data }], guard := none }) (v := .pointer (some ⟨bc, 0, none⟩)) rfl (by kernel_rfl) (by kernel_rfl) (by kernel_rfl) (fun _ _ _ h => h) (Or.inl ⟨by kernel_rfl, fun W h => (by first | kernel_rfl | go_simp)⟩) hS ?_
      try simp only [Act.put, List.setIfInBounds_toArray, List.set_cons_zero, List.set_cons_succ]
      generalize World.drew _ = W0 at hS B1 ⊢
      refine wpAnyH_ready (rs := [7]) (by kernel_rfl) (by simp) ?_
      refine AllReadyH.cons (o := { dst := some 29, op := Op.call { callee := Callee.value (Operand.func 87), args := #[Operand.tmp 26, Operand.tmp 27, Operand.tmp 28], argTypes := #[60, 3, 9] }, type := 3, pos := "soft.go:68", after := #[{ on := 4, ground := Ground.data }, { on := 5, ground := Ground.data }, { on := 6, ground := Ground.data }], guard := none }) rfl (fun K hK => ?_) AllReadyH.nil
      rw [if_pos (by kernel_rfl)]
      go_simp
      refine (unhide C2 W0 (unhide B1)).mono ?_
      rintro e wq ⟨rfl, e9⟩
      rw [e9]
      clear e9 wq
      go_wp2_with fail
      refine hK.out _ _ (hS) (fun hS1 => ?_)
      clear hK K
      try simp only [Act.put, List.setIfInBounds_toArray, List.set_cons_zero, List.set_cons_succ]
      refine wpAnyH_take (i := 12) (oi := { dst := some 34, op := Op.indexAddr 69 (Operand.tmp 33) (Operand.tmp 29), type := 0, pos := "soft.go:68", after := #[{ on := 11, ground := Ground.data }, { on := 7, ground := Ground.data }], guard := none }) (v := .pointer (some ⟨bc, n * 5, none⟩)) rfl (by kernel_rfl) (by kernel_rfl) (by kernel_rfl) (fun _ _ _ h => h) (Or.inl ⟨by kernel_rfl, fun W h => Op1.ix_ino (.tmp 33) (.tmp 29) (by kernel_rfl) (by kernel_rfl) (by kernel_rfl) (hn) W⟩) hS1 ?_
      try simp only [Act.put, List.setIfInBounds_toArray, List.set_cons_zero, List.set_cons_succ]
      refine wpAnyH_take (i := 13) (oi := { dst := some 35, op := Op.fieldAddr 68 (Operand.tmp 34) 3, type := 0, pos := "soft.go:68", after := #[{ on := 12, ground := Ground.data }], guard := none }) (v := .pointer (some ⟨bc, n * 5 + 3, none⟩)) rfl (by kernel_rfl) (by kernel_rfl) (by kernel_rfl) (fun _ _ _ h => h) (Or.inl ⟨by kernel_rfl, fun W h => (by first | kernel_rfl | go_simp)⟩) hS1 ?_
      try simp only [Act.put, List.setIfInBounds_toArray, List.set_cons_zero, List.set_cons_succ]
      refine wpAnyH_take (i := 14) (oi := { dst := some 36, op := Op.indexAddr 66 (Operand.tmp 35) (Operand.tmp 30), type := 0, pos := "soft.go:68", after := #[{ on := 13, ground := Ground.data }, { on := 8, ground := Ground.data }], guard := none }) (v := .pointer (some ⟨bc, n * 5 + 3 + q, none⟩)) rfl (by kernel_rfl) (by kernel_rfl) (by kernel_rfl) (fun _ _ _ h => h) (Or.inl ⟨by kernel_rfl, fun W h => Op1.ix_part (.tmp 35) (.tmp 30) (by kernel_rfl) (by kernel_rfl) (by kernel_rfl) (hq) W⟩) hS1 ?_
      try simp only [Act.put, List.setIfInBounds_toArray, List.set_cons_zero, List.set_cons_succ]
      refine wpAnyH_take (i := 15) (oi := { dst := some 37, op := Op.load 3 (Operand.tmp 36), type := 3, pos := "soft.go:68", after := #[{ on := 14, ground := Ground.data }], guard := none }) (v := .int .i64 (x : Int)) rfl (by kernel_rfl) (by kernel_rfl) (by kernel_rfl) (fun _ _ _ h => h) (Or.inl ⟨by kernel_rfl, fun W h => Op1.ld_int (.tmp 36) (by kernel_rfl) (by kernel_rfl) W (by have := unhide PRT W h.2; rw [Nat.zero_add] at this; exact this)⟩) hS1 ?_
      try simp only [Act.put, List.setIfInBounds_toArray, List.set_cons_zero, List.set_cons_succ]
      refine wpAnyH_take (i := 16) (oi := { dst := some 12, op := Op.assign (Operand.tmp 37), type := 3, pos := "soft.go:68", after := #[{ on := 15, ground := Ground.data }, { on := 7, ground := Ground.chain }, { on := 0, ground := Ground.phase }, { on := 1, ground := Ground.phase }, { on := 2, ground := Ground.phase }, { on := 3, ground := Ground.phase }, { on := 4, ground := Ground.phase }, { on := 5, ground := Ground.phase }, { on := 6, ground := Ground.phase }, { on := 7, ground := Ground.phase }, { on := 8, ground := Ground.phase }, { on := 9, ground := Ground.phase }, { on := 10, ground := Ground.phase }, { on := 11, ground := Ground.phase }, { on := 12, ground := Ground.phase }, { on := 13, ground := Ground.phase }, { on := 14, ground := Ground.phase }, { on := 15, ground := Ground.phase }], guard := none }) (v := .int .i64 (x : Int)) rfl (by kernel_rfl) (by kernel_rfl) (by kernel_rfl) (fun _ _ _ h => h) (Or.inl ⟨by kernel_rfl, fun W h => (by first | kernel_rfl | go_simp)⟩) hS1 ?_
      try simp only [Act.put, List.setIfInBounds_toArray, List.set_cons_zero, List.set_cons_succ]
      refine wpAnyH_done (by kernel_rfl) ?_ _
      clear hS hS1
      have p2 := ((unhide HFL).below (unhide B1)).ptr
      have l2 := ((unhide HFL).below (unhide B1)).flt
      have k2 := ((unhide HFL).below (unhide B1)).clt
      have c2 : W0.cell? ⟨bc, 76 + x * 2 + 1, none⟩ = some (.string (m.text x)) := by
        have := unhide TXT W0 ((unhide HFL).below (unhide B1)).hasNow x hx
        rw [Nat.zero_add] at this; exact this
      go_wp2_with fail
      go_ret3
      exact ⟨rfl, unhide B1⟩
  · have eB : Img.sreadB m d s p = false := by unfold Img.sreadB; rw [if_pos hc]
    have eT : Img.sreadT m d s p = ⟨#[]⟩ := by unfold Img.sreadT; rw [if_pos hc]
    rw [eB, eT]
    generalize Img.sreadC m d s p = ck at C1 hc ⊢
    have u1 : (ck != 0) = true := by simpa using hc
    simp only [Idl.cut, stpA, Idl.none0] at C1
    clear h E1 eB eT
    go_enter Tryz.func82, Tryz.ntmps82
    go_wp2_with fail
    refine (unhide C1).mono ?_
    rintro e w1 ⟨rfl, b1⟩
    have B1 := hide b1
    clear b1
    go_wp2_with fail
    try (go_quiet (fail); go_wp2_with fail)
    go_ret3
    exact ⟨rfl, by first | exact unhide B1 | exact (unhide B1).drew | exact belowN (unhide B1)⟩
end
end Go.Proofs.YtfpfpnhpbnnmfadGreatDoor
