/-
  The walks of package soft: New, Of (nil), Same, Read. (Written by gendr.py.)
-/
import Derived.Test.YtmlhalhjfcfagabGreatYh
namespace Go.Proofs.YtmlhalhjfcfagabGreat
open Go.RowKit
open Idl (Stp chk stpA)
namespace Img
def ssame (m : Img) (d : Int) (s : ByteArray) (e : Int) (u : ByteArray) : Bool := decide (0 ≤ inoOf m d s) && (inoOf m d s == inoOf m e u)
/-- what Read answers -/
def sreadC (m : Img) (d : Int) (s : ByteArray) (p : Int) : Int := scheck m (Idl.cut d s p)
def spart (m : Img) (d : Int) (s : ByteArray) (p : Int) : Int := m.part (inoOf m d s).toNat p.toNat
def sreadB (m : Img) (d : Int) (s : ByteArray) (p : Int) : Bool := if sreadC m d s p ≠ 0 then false else !decide (spart m d s p < 0)
def sreadT (m : Img) (d : Int) (s : ByteArray) (p : Int) : ByteArray := if sreadC m d s p ≠ 0 then ⟨#[]⟩ else if spart m d s p < 0 then ⟨#[]⟩ else m.text (spart m d s p).toNat
end Img
section
variable {w : World} {bf bc : Nat} {cs ds : Array Value} {m k : Img} {last : Int}
theorem sNew_any (w : World) :
    Calls Tryz.prog 12 #[] w fun e w' => (∃ bf bc, e = .returned (.pointer (some ⟨bf, 0, none⟩)) ∧ w.heap.size ≤ bf ∧ w.heap.size ≤ bc ∧ Fl w' bf bc blankCells blankCells blankI blankI 0) ∧ Below w.heap.size w w' := by
  go_enter Tryz.func12, Tryz.ntmps12
  go_wp2_with fail
  refine (cNew_any w).mono ?_
  rintro e w1 ⟨⟨g, rfl, hg, hr⟩, b1⟩
  have HR := hide hr
  have B1 := hide b1
  have hlt : g < w1.heap.size := (Array.getElem?_eq_some_iff.1 hr).1
  clear hr b1
  go_wp2_with fail
  go_ret
  refine ⟨⟨_, g, rfl, (unhide B1).size, hg, ⟨heap_alloc_last _ _, ?_, blank_is, blank_is, by omega⟩⟩, (unhide B1).alloc (unhide B1).size _⟩
  rw [Below.heap_alloc _ _ _ hlt]; exact unhide HR
set_option maxHeartbeats 1000000 in
set_option maxRecDepth 100000 in
theorem sOf_nil (cs : Array Value) (m : Img) (hi : IsImg cs m) (hm : m.check ≠ 0) (w : World) :
    Calls Tryz.prog 14 #[.agg cs] w fun e w' => e = .returned (.pointer none) ∧ Below w.heap.size w w' := by
  have C1 := hide (of_any cs m hi (w.alloc (.cells cs 34)))
  have BEL := hide (show Below w.heap.size w (w.alloc (.cells cs 34)) from (Below.refl _ w).alloc (Nat.le_refl _) _)
  have HR := hide (heap_alloc_last w (.cells cs 34))
  have hz := hi.size
  go_enter Tryz.func14, Tryz.ntmps14
  go_wp2_with (refine wpList_load_row rfl 34 _ rfl w.heap.size rfl 34 cs (0, 0) _ (unhide HR) img_under rfl (img_info hz) ?_)
  refine (unhide C1).mono ?_
  rintro e w1 ⟨ho, b1⟩
  have e0 : e = .returned (.pointer none) := by
    rcases ho with ⟨z, _⟩ | ⟨_, z⟩
    · exact absurd z hm
    · exact z
  subst e0
  have B1 := hide ((unhide BEL).trans (b1.mono (by simp)))
  clear b1 ho
  go_wp2_with fail
  go_ret
  exact ⟨rfl, unhide B1⟩
set_option maxHeartbeats 1000000 in
set_option maxRecDepth 100000 in
theorem sSame_any (h : Fl w bf bc cs ds m k last) (d : Int) (s : ByteArray) (d2 : Int) (u : ByteArray) :
    Calls Tryz.prog 24 #[.pointer (some ⟨bf, 0, none⟩), .int .i64 d, .string s, .int .i64 d2, .string u] w fun e w' => e = .returned (.bool (Img.ssame m d s d2 u)) ∧ w' = w := by
  have C1 := hide (sfind_any h d s)
  have C2 := hide (sfind_any h d2 u)
  have E := hide (show Img.ssame m d s d2 u = (decide (0 ≤ Img.inoOf m d s) && (Img.inoOf m d s == Img.inoOf m d2 u)) from rfl)
  generalize Img.ssame m d s d2 u = r at E ⊢
  generalize Img.inoOf m d s = i1 at E C1
  generalize Img.inoOf m d2 u = i2 at E C2
  clear h
  by_cases hi : 0 ≤ i1
  · have u1 : decide (i1 ≥ 0) = true := by simpa using hi
    have u2 : decide (0 ≤ i1) = true := by simpa using hi
    have E1 := hide (show r = (i1 == i2) by rw [unhide E, u2, Bool.true_and])
    clear hi E
    go_enter Tryz.func24, Tryz.ntmps24
    go_wp2_with fail
    refine (unhide C1).mono ?_
    rintro e wq ⟨rfl, e9⟩
    rw [e9]
    clear e9 wq
    go_wp2_with fail
    refine (unhide C2).mono ?_
    rintro e wq ⟨rfl, e9⟩
    rw [e9]
    clear e9 wq
    go_wp2_with fail
    go_ret
    exact ⟨ret_bool (by rw [unhide E1]), rfl⟩
  · have u1 : decide (i1 ≥ 0) = false := by simpa using hi
    have u2 : decide (0 ≤ i1) = false := by simpa using hi
    have E1 := hide (show r = false by rw [unhide E, u2, Bool.false_and])
    clear hi E C2
    go_enter Tryz.func24, Tryz.ntmps24
    go_wp2_with fail
    refine (unhide C1).mono ?_
    rintro e wq ⟨rfl, e9⟩
    rw [e9]
    clear e9 wq
    go_wp2_with fail
    go_ret
    exact ⟨ret_bool (unhide E1).symm, rfl⟩
theorem cut_old {m : Img} (hm : m.check = 0) {d : Int} {s : ByteArray} {p : Int} (h : Img.sreadC m d s p = 0) : ∃ j n q : Nat, Img.There m d s j n ∧ q < 2 ∧ p = (q : Int) := by
  have hc : chk (Idl.cut d s p) = 0 := by
    unfold Img.sreadC Img.scheck at h
    by_cases e : chk (Idl.cut d s p) = 0
    · exact e
    · rw [if_pos e] at h; exact absurd h e
  have ho : 0 ≤ Img.inoOf m d s := by
    unfold Img.sreadC Img.scheck at h
    rw [if_neg (by rw [hc]; simp), if_neg (by show ¬ (6 : Int) = 1; omega)] at h
    by_cases z : Img.inoOf m d s < 0
    · rw [if_pos (show Img.inoOf m (Idl.cut d s p).dir (Idl.cut d s p).name < 0 from z)] at h; simp at h
    · omega
  obtain ⟨_, _, _, _, _, a6⟩ := Img.chk_names hc
  obtain ⟨j, n, hT⟩ := Img.there hm ho
  have a7 : 0 ≤ p ∧ p < 2 := a6 (.inr rfl)
  obtain ⟨q, hq⟩ := Int.eq_ofNat_of_zero_le a7.1
  exact ⟨j, n, q, hT, by omega, hq⟩
set_option maxHeartbeats 2000000 in
set_option maxRecDepth 100000 in
theorem sRead_any (h : Fl w bf bc cs ds m k last) (hm : m.check = 0) (d : Int) (s : ByteArray) (hs : s.size ≤ maxLen) (p : Int) :
    Calls Tryz.prog 22 #[.pointer (some ⟨bf, 0, none⟩), .int .i64 d, .string s, .int .i64 p] w fun e w' => e = .returned (.tuple #[.string (Img.sreadT m d s p), .bool (Img.sreadB m d s p), .int .i64 (Img.sreadC m d s p)]) ∧ Below w.heap.size w w' := by
  have C1 := hide (scheck_any h (Idl.cut d s p) hs (Nat.zero_le _) (Nat.zero_le _))
  have E1 := hide (show Img.scheck m (Idl.cut d s p) = Img.sreadC m d s p from rfl)
  rw [unhide E1] at C1
  by_cases hc : Img.sreadC m d s p = 0
  · obtain ⟨j, n, q, hT, hq, rfl⟩ := cut_old hm hc
    have e1 : Img.spart m d s (q : Int) = m.part n q := by unfold Img.spart; rw [hT.of, Int.toNat_natCast, Int.toNat_natCast]
    have C2 := hide fun W (bW : Below w.heap.size w W) => sfind_any (h.below bW) d s
    rw [hT.of] at C2
    rw [hc] at C1 ⊢
    have hn := hT.n8
    have HFL := hide h
    have hpt := (Img.checkPart_iff.1 ((Img.inode_parts_ok hm hT.n8 hT.live).2.2 q hq))
    have eB : Img.sreadB m d s (q : Int) = !decide (m.part n q < 0) := by unfold Img.sreadB; rw [if_neg (by rw [hc]; simp), e1]
    have eT : Img.sreadT m d s (q : Int) = if m.part n q < 0 then ⟨#[]⟩ else m.text (m.part n q).toNat := by unfold Img.sreadT; rw [if_neg (by rw [hc]; simp), e1]
    rw [eB, eT]
    have PRT := hide fun W (hW : HasAt W bc 0 m) => hW.part n q hn hq
    have TXT := hide fun W (hW : HasAt W bc 0 m) (x : Nat) (hx : x < 9) => hW.text x hx
    simp only [Idl.cut, stpA, Idl.none0] at C1
    clear h hT hc e1 eB eT
    rcases hpt with z | ⟨z, _⟩
    · rw [z] at PRT ⊢
      have u1 : decide ((-1 : Int) < 0) = true := by decide
      go_enter Tryz.func22, Tryz.ntmps22
      go_wp2_with fail
      refine (unhide C1).mono ?_
      rintro e w1 ⟨rfl, b1⟩
      have B1 := hide b1.drew
      clear b1
      go_wp2_with fail
      refine wp_region_held_drew (S := PS2 bf bc m) (by kernel_rfl) (⟨((unhide HFL).below (unhide B1)).ptr, ((unhide HFL).below (unhide B1)).hasNow⟩) (fun hS => ?_)
      refine wpAnyH_take (i := 0) (oi := { dst := some 22, op := Op.move (Operand.tmp 0), type := 42, pos := "soft.go:68", after := #[], guard := none }) (v := .pointer (some ⟨bf, 0, none⟩)) rfl (by kernel_rfl) (by kernel_rfl) (by kernel_rfl) (fun _ _ _ h => h) (Or.inl ⟨by kernel_rfl, fun W h => (by first | kernel_rfl | go_simp)⟩) hS ?_
      try simp only [Act.put, List.setIfInBounds_toArray, List.set_cons_zero, List.set_cons_succ]
      refine wpAnyH_take (i := 1) (oi := { dst := some 23, op := Op.nilCheck (Operand.tmp 22), type := 0, pos := "soft.go:68", after := #[{ on := 0, ground := Ground.data }], guard := none }) (v := .pointer (some ⟨bf, 0, none⟩)) rfl (by kernel_rfl) (by kernel_rfl) (by kernel_rfl) (fun _ _ _ h => h) (Or.inl ⟨by kernel_rfl, fun W h => (by first | kernel_rfl | go_simp)⟩) hS ?_
      try simp only [Act.put, List.setIfInBounds_toArray, List.set_cons_zero, List.set_cons_succ]
      refine wpAnyH_take (i := 2) (oi := { dst := some 24, op := Op.fieldAddr 55 (Operand.tmp 23) 0, type := 0, pos := "soft.go:68", after := #[{ on := 1, ground := Ground.data }], guard := none }) (v := .pointer (some ⟨bf, 0, none⟩)) rfl (by kernel_rfl) (by kernel_rfl) (by kernel_rfl) (fun _ _ _ h => h) (Or.inl ⟨by kernel_rfl, fun W h => (by first | kernel_rfl | go_simp)⟩) hS ?_
      try simp only [Act.put, List.setIfInBounds_toArray, List.set_cons_zero, List.set_cons_succ]
      refine wpAnyH_take (i := 3) (oi := { dst := some 25, op := Op.load 53 (Operand.tmp 24), type := 53, pos := "soft.go:68", after := #[{ on := 2, ground := Ground.data }], guard := none }) (v := .pointer (some ⟨bc, 0, none⟩)) rfl (by kernel_rfl) (by kernel_rfl) (by kernel_rfl) (fun _ _ _ h => h) (Or.inl ⟨by kernel_rfl, fun W h => Op1.ld_ptr (.tmp 24) (by kernel_rfl) (by kernel_rfl) W (h.1)⟩) hS ?_
      try simp only [Act.put, List.setIfInBounds_toArray, List.set_cons_zero, List.set_cons_succ]
      refine wpAnyH_take (i := 4) (oi := { dst := some 26, op := Op.move (Operand.tmp 0), type := 42, pos := "soft.go:68", after := #[], guard := none }) (v := .pointer (some ⟨bf, 0, none⟩)) rfl (by kernel_rfl) (by kernel_rfl) (by kernel_rfl) (fun _ _ _ h => h) (Or.inl ⟨by kernel_rfl, fun W h => (by first | kernel_rfl | go_simp)⟩) hS ?_
      try simp only [Act.put, List.setIfInBounds_toArray, List.set_cons_zero, List.set_cons_succ]
      refine wpAnyH_take (i := 5) (oi := { dst := some 27, op := Op.move (Operand.tmp 1), type := 3, pos := "soft.go:68", after := #[], guard := none }) (v := .int .i64 d) rfl (by kernel_rfl) (by kernel_rfl) (by kernel_rfl) (fun _ _ _ h => h) (Or.inl ⟨by kernel_rfl, fun W h => (by first | kernel_rfl | go_simp)⟩) hS ?_
      try simp only [Act.put, List.setIfInBounds_toArray, List.set_cons_zero, List.set_cons_succ]
      refine wpAnyH_take (i := 6) (oi := { dst := some 28, op := Op.move (Operand.tmp 2), type := 9, pos := "soft.go:68", after := #[], guard := none }) (v := .string s) rfl (by kernel_rfl) (by kernel_rfl) (by kernel_rfl) (fun _ _ _ h => h) (Or.inl ⟨by kernel_rfl, fun W h => (by first | kernel_rfl | go_simp)⟩) hS ?_
      try simp only [Act.put, List.setIfInBounds_toArray, List.set_cons_zero, List.set_cons_succ]
      refine wpAnyH_take (i := 8) (oi := { dst := some 30, op := Op.move (Operand.tmp 3), type := 3, pos := "soft.go:68", after := #[], guard := none }) (v := .int .i64 (q : Int)) rfl (by kernel_rfl) (by kernel_rfl) (by kernel_rfl) (fun _ _ _ h => h) (Or.inl ⟨by kernel_rfl, fun W h => (by first | kernel_rfl | go_simp)⟩) hS ?_
      try simp only [Act.put, List.setIfInBounds_toArray, List.set_cons_zero, List.set_cons_succ]
      refine wpAnyH_take (i := 9) (oi := { dst := some 31, op := Op.nilCheck (Operand.tmp 25), type := 0, pos := "soft.go:68", after := #[{ on := 3, ground := Ground.data }], guard := none }) (v := .pointer (some ⟨bc, 0, none⟩)) rfl (by kernel_rfl) (by kernel_rfl) (by kernel_rfl) (fun _ _ _ h => h) (Or.inl ⟨by kernel_rfl, fun W h => (by first | kernel_rfl | go_simp)⟩) hS ?_
      try simp only [Act.put, List.setIfInBounds_toArray, List.set_cons_zero, List.set_cons_succ]
      refine wpAnyH_take (i := 10) (oi := { dst := some 32, op := Op.fieldAddr 57 (Operand.tmp 31) 0, type := 0, pos := "soft.go:68", after := #[{ on := 9, ground := Ground.data }], guard := none }) (v := .pointer (some ⟨bc, 0, none⟩)) rfl (by kernel_rfl) (by kernel_rfl) (by kernel_rfl) (fun _ _ _ h => h) (Or.inl ⟨by kernel_rfl, fun W h => (by first | kernel_rfl | go_simp)⟩) hS ?_
      try simp only [Act.put, List.setIfInBounds_toArray, List.set_cons_zero, List.set_cons_succ]
      refine wpAnyH_take (i := 11) (oi := { dst := some 33, op := Op.fieldAddr 34 (Operand.tmp 32) 0, type := 0, pos := "soft.go:68", after := #[{ on := 10, ground := Ground.data }], guard := none }) (v := .pointer (some ⟨bc, 0, none⟩)) rfl (by kernel_rfl) (by kernel_rfl) (by kernel_rfl) (fun _ _ _ h => h) (Or.inl ⟨by kernel_rfl, fun W h => (by first | kernel_rfl | go_simp)⟩) hS ?_
      try simp only [Act.put, List.setIfInBounds_toArray, List.set_cons_zero, List.set_cons_succ]
      generalize World.drew _ = W0 at hS B1 ⊢
      refine wpAnyH_ready (rs := [7]) (by kernel_rfl) (by simp) ?_
      refine AllReadyH.cons (o := { dst := some 29, op := Op.call { callee := Callee.value (Operand.func 55), args := #[Operand.tmp 26, Operand.tmp 27, Operand.tmp 28], argTypes := #[42, 3, 9] }, type := 3, pos := "soft.go:68", after := #[{ on := 4, ground := Ground.data }, { on := 5, ground := Ground.data }, { on := 6, ground := Ground.data }], guard := none }) rfl (fun K hK => ?_) AllReadyH.nil
      rw [if_pos (by kernel_rfl)]
      go_simp
      refine (unhide C2 W0 (unhide B1)).mono ?_
      rintro e wq ⟨rfl, e9⟩
      rw [e9]
      clear e9 wq
      go_wp2_with fail
      refine hK.out _ _ (hS) (fun hS1 => ?_)
      clear hK K
      try simp only [Act.put, List.setIfInBounds_toArray, List.set_cons_zero, List.set_cons_succ]
      refine wpAnyH_take (i := 12) (oi := { dst := some 34, op := Op.indexAddr 25 (Operand.tmp 33) (Operand.tmp 29), type := 0, pos := "soft.go:68", after := #[{ on := 11, ground := Ground.data }, { on := 7, ground := Ground.data }], guard := none }) (v := .pointer (some ⟨bc, n * 5, none⟩)) rfl (by kernel_rfl) (by kernel_rfl) (by kernel_rfl) (fun _ _ _ h => h) (Or.inl ⟨by kernel_rfl, fun W h => Op1.ix_ino (.tmp 33) (.tmp 29) (by kernel_rfl) (by kernel_rfl) (by kernel_rfl) (hn) W⟩) hS1 ?_
      try simp only [Act.put, List.setIfInBounds_toArray, List.set_cons_zero, List.set_cons_succ]
      refine wpAnyH_take (i := 13) (oi := { dst := some 35, op := Op.fieldAddr 24 (Operand.tmp 34) 3, type := 0, pos := "soft.go:68", after := #[{ on := 12, ground := Ground.data }], guard := none }) (v := .pointer (some ⟨bc, n * 5 + 3, none⟩)) rfl (by kernel_rfl) (by kernel_rfl) (by kernel_rfl) (fun _ _ _ h => h) (Or.inl ⟨by kernel_rfl, fun W h => (by first | kernel_rfl | go_simp)⟩) hS1 ?_
      try simp only [Act.put, List.setIfInBounds_toArray, List.set_cons_zero, List.set_cons_succ]
      refine wpAnyH_take (i := 14) (oi := { dst := some 36, op := Op.indexAddr 22 (Operand.tmp 35) (Operand.tmp 30), type := 0, pos := "soft.go:68", after := #[{ on := 13, ground := Ground.data }, { on := 8, ground := Ground.data }], guard := none }) (v := .pointer (some ⟨bc, n * 5 + 3 + q, none⟩)) rfl (by kernel_rfl) (by kernel_rfl) (by kernel_rfl) (fun _ _ _ h => h) (Or.inl ⟨by kernel_rfl, fun W h => Op1.ix_part (.tmp 35) (.tmp 30) (by kernel_rfl) (by kernel_rfl) (by kernel_rfl) (hq) W⟩) hS1 ?_
      try simp only [Act.put, List.setIfInBounds_toArray, List.set_cons_zero, List.set_cons_succ]
      refine wpAnyH_take (i := 15) (oi := { dst := some 37, op := Op.load 3 (Operand.tmp 36), type := 3, pos := "soft.go:68", after := #[{ on := 14, ground := Ground.data }], guard := none }) (v := .int .i64 (-1)) rfl (by kernel_rfl) (by kernel_rfl) (by kernel_rfl) (fun _ _ _ h => h) (Or.inl ⟨by kernel_rfl, fun W h => Op1.ld_int (.tmp 36) (by kernel_rfl) (by kernel_rfl) W (by have := unhide PRT W h.2; rw [Nat.zero_add] at this; exact this)⟩) hS1 ?_
      try simp only [Act.put, List.setIfInBounds_toArray, List.set_cons_zero, List.set_cons_succ]
      refine wpAnyH_take (i := 16) (oi := { dst := some 12, op := Op.assign (Operand.tmp 37), type := 3, pos := "soft.go:68", after := #[{ on := 15, ground := Ground.data }, { on := 7, ground := Ground.chain }, { on := 0, ground := Ground.phase }, { on := 1, ground := Ground.phase }, { on := 2, ground := Ground.phase }, { on := 3, ground := Ground.phase }, { on := 4, ground := Ground.phase }, { on := 5, ground := Ground.phase }, { on := 6, ground := Ground.phase }, { on := 7, ground := Ground.phase }, { on := 8, ground := Ground.phase }, { on := 9, ground := Ground.phase }, { on := 10, ground := Ground.phase }, { on := 11, ground := Ground.phase }, { on := 12, ground := Ground.phase }, { on := 13, ground := Ground.phase }, { on := 14, ground := Ground.phase }, { on := 15, ground := Ground.phase }], guard := none }) (v := .int .i64 (-1)) rfl (by kernel_rfl) (by kernel_rfl) (by kernel_rfl) (fun _ _ _ h => h) (Or.inl ⟨by kernel_rfl, fun W h => (by first | kernel_rfl | go_simp)⟩) hS1 ?_
      try simp only [Act.put, List.setIfInBounds_toArray, List.set_cons_zero, List.set_cons_succ]
      refine wpAnyH_done (by kernel_rfl) ?_ _
      clear hS hS1
      go_wp2_with fail
      go_ret3
      exact ⟨rfl, unhide B1⟩
    · have hb : 0 ≤ m.part n q ∧ m.part n q < 9 := by simpa [Img.isD] using z
      obtain ⟨x, hxx⟩ := Int.eq_ofNat_of_zero_le hb.1
      have hx : x < 9 := by omega
      rw [show m.part n q = (x : Int) from hxx] at PRT ⊢
      have u1 : decide ((x : Int) < 0) = false := by simp
      rw [if_neg (by omega), Int.toNat_natCast, u1]
      have xz : (x : Int) < 9 := by omega
      clear z hb hxx
      go_enter Tryz.func22, Tryz.ntmps22
      go_wp2_with fail
      refine (unhide C1).mono ?_
      rintro e w1 ⟨rfl, b1⟩
      have B1 := hide b1.drew
      clear b1
      go_wp2_with fail
      refine wp_region_held_drew (S := PS2 bf bc m) (by kernel_rfl) (⟨((unhide HFL).below (unhide B1)).ptr, ((unhide HFL).below (unhide B1)).hasNow⟩) (fun hS => ?_)
      refine wpAnyH_take (i := 0) (oi := { dst := some 22, op := Op.move (Operand.tmp 0), type := 42, pos := "soft.go:68", after := #[], guard := none }) (v := .pointer (some ⟨bf, 0, none⟩)) rfl (by kernel_rfl) (by kernel_rfl) (by kernel_rfl) (fun _ _ _ h => h) (Or.inl ⟨by kernel_rfl, fun W h => (by first | kernel_rfl | go_simp)⟩) hS ?_
      try simp only [Act.put, List.setIfInBounds_toArray, List.set_cons_zero, List.set_cons_succ]
      refine wpAnyH_take (i := 1) (oi := { dst := some 23, op := Op.nilCheck (Operand.tmp 22), type := 0, pos := "soft.go:68", after := #[{ on := 0, ground := Ground.data }], guard := none }) (v := .pointer (some ⟨bf, 0, none⟩)) rfl (by kernel_rfl) (by kernel_rfl) (by kernel_rfl) (fun _ _ _ h => h) (Or.inl ⟨by kernel_rfl, fun W h => (by first | kernel_rfl | go_simp)⟩) hS ?_
      try simp only [Act.put, List.setIfInBounds_toArray, List.set_cons_zero, List.set_cons_succ]
      refine wpAnyH_take (i := 2) (oi := { dst := some 24, op := Op.fieldAddr 55 (Operand.tmp 23) 0, type := 0, pos := "soft.go:68", after := #[{ on := 1, ground := Ground.data }], guard := none }) (v := .pointer (some ⟨bf, 0, none⟩)) rfl (by kernel_rfl) (by kernel_rfl) (by kernel_rfl) (fun _ _ _ h => h) (Or.inl ⟨by kernel_rfl, fun W h => (by first | kernel_rfl | go_simp)⟩) hS ?_
      try simp only [Act.put, List.setIfInBounds_toArray, List.set_cons_zero, List.set_cons_succ]
      refine wpAnyH_take (i := 3) (oi := { dst := some 25, op := Op.load 53 (Operand.tmp 24), type := 53, pos := "soft.go:68", after := #[{ on := 2, ground := Ground.data }], guard := none }) (v := .pointer (some ⟨bc, 0, none⟩)) rfl (by kernel_rfl) (by kernel_rfl) (by kernel_rfl) (fun _ _ _ h => h) (Or.inl ⟨by kernel_rfl, fun W h => Op1.ld_ptr (.tmp 24) (by kernel_rfl) (by kernel_rfl) W (h.1)⟩) hS ?_
      try simp only [Act.put, List.setIfInBounds_toArray, List.set_cons_zero, List.set_cons_succ]
      refine wpAnyH_take (i := 4) (oi := { dst := some 26, op := Op.move (Operand.tmp 0), type := 42, pos := "soft.go:68", after := #[], guard := none }) (v := .pointer (some ⟨bf, 0, none⟩)) rfl (by kernel_rfl) (by kernel_rfl) (by kernel_rfl) (fun _ _ _ h => h) (Or.inl ⟨by kernel_rfl, fun W h => (by first | kernel_rfl | go_simp)⟩) hS ?_
      try simp only [Act.put, List.setIfInBounds_toArray, List.set_cons_zero, List.set_cons_succ]
      refine wpAnyH_take (i := 5) (oi := { dst := some 27, op := Op.move (Operand.tmp 1), type := 3, pos := "soft.go:68", after := #[], guard := none }) (v := .int .i64 d) rfl (by kernel_rfl) (by kernel_rfl) (by kernel_rfl) (fun _ _ _ h => h) (Or.inl ⟨by kernel_rfl, fun W h => (by first | kernel_rfl | go_simp)⟩) hS ?_
      try simp only [Act.put, List.setIfInBounds_toArray, List.set_cons_zero, List.set_cons_succ]
      refine wpAnyH_take (i := 6) (oi := { dst := some 28, op := Op.move (Operand.tmp 2), type := 9, pos := "soft.go:68", after := #[], guard := none }) (v := .string s) rfl (by kernel_rfl) (by kernel_rfl) (by kernel_rfl) (fun _ _ _ h => h) (Or.inl ⟨by kernel_rfl, fun W h => (by first | kernel_rfl | go_simp)⟩) hS ?_
      try simp only [Act.put, List.setIfInBounds_toArray, List.set_cons_zero, List.set_cons_succ]
      refine wpAnyH_take (i := 8) (oi := { dst := some 30, op := Op.move (Operand.tmp 3), type := 3, pos := "soft.go:68", after := #[], guard := none }) (v := .int .i64 (q : Int)) rfl (by kernel_rfl) (by kernel_rfl) (by kernel_rfl) (fun _ _ _ h => h) (Or.inl ⟨by kernel_rfl, fun W h => (by first | kernel_rfl | go_simp)⟩) hS ?_
      try simp only [Act.put, List.setIfInBounds_toArray, List.set_cons_zero, List.set_cons_succ]
      refine wpAnyH_take (i := 9) (oi := { dst := some 31, op := Op.nilCheck (Operand.tmp 25), type := 0, pos := "soft.go:68", after := #[{ on := 3, ground := Ground.data }], guard := none }) (v := .pointer (some ⟨bc, 0, none⟩)) rfl (by kernel_rfl) (by kernel_rfl) (by kernel_rfl) (fun _ _ _ h => h) (Or.inl ⟨by kernel_rfl, fun W h => (by first | kernel_rfl | go_simp)⟩) hS ?_
      try simp only [Act.put, List.setIfInBounds_toArray, List.set_cons_zero, List.set_cons_succ]
      refine wpAnyH_take (i := 10) (oi := { dst := some 32, op := Op.fieldAddr 57 (Operand.tmp 31) 0, type := 0, pos := "soft.go:68", after := #[{ on := 9, ground := Ground.data }], guard := none }) (v := .pointer (some ⟨bc, 0, none⟩)) rfl (by kernel_rfl) (by kernel_rfl) (by kernel_rfl) (fun _ _ _ h => h) (Or.inl ⟨by kernel_rfl, fun W h => (by first | kernel_rfl | go_simp)⟩) hS ?_
      try simp only [Act.put, List.setIfInBounds_toArray, List.set_cons_zero, List.set_cons_succ]
      refine wpAnyH_take (i := 11) (oi := { dst := some 33, op := Op.fieldAddr 34 (Operand.tmp 32) 0, type := 0, pos := "soft.go:68", after := #[{ on := 10, ground := Ground.data }], guard := none }) (v := .pointer (some ⟨bc, 0, none⟩)) rfl (by kernel_rfl) (by kernel_rfl) (by kernel_rfl) (fun _ _ _ h => h) (Or.inl ⟨by kernel_rfl, fun W h => (by first | kernel_rfl | go_simp)⟩) hS ?_
      try simp only [Act.put, List.setIfInBounds_toArray, List.set_cons_zero, List.set_cons_succ]
      generalize World.drew _ = W0 at hS B1 ⊢
      refine wpAnyH_ready (rs := [7]) (by kernel_rfl) (by simp) ?_
      refine AllReadyH.cons (o := { dst := some 29, op := Op.call { callee := Callee.value (Operand.func 55), args := #[Operand.tmp 26, Operand.tmp 27, Operand.tmp 28], argTypes := #[42, 3, 9] }, type := 3, pos := "soft.go:68", after := #[{ on := 4, ground := Ground.data }, { on := 5, ground := Ground.data }, { on := 6, ground := Ground.data }], guard := none }) rfl (fun K hK => ?_) AllReadyH.nil
      rw [if_pos (by kernel_rfl)]
      go_simp
      refine (unhide C2 W0 (unhide B1)).mono ?_
      rintro e wq ⟨rfl, e9⟩
      rw [e9]
      clear e9 wq
      go_wp2_with fail
      refine hK.out _ _ (hS) (fun hS1 => ?_)
      clear hK K
      try simp only [Act.put, List.setIfInBounds_toArray, List.set_cons_zero, List.set_cons_succ]
      refine wpAnyH_take (i := 12) (oi := { dst := some 34, op := Op.indexAddr 25 (Operand.tmp 33) (Operand.tmp 29), type := 0, pos := "soft.go:68", after := #[{ on := 11, ground := Ground.data }, { on := 7, ground := Ground.data }], guard := none }) (v := .pointer (some ⟨bc, n * 5, none⟩)) rfl (by kernel_rfl) (by kernel_rfl) (by kernel_rfl) (fun _ _ _ h => h) (Or.inl ⟨by kernel_rfl, fun W h => Op1.ix_ino (.tmp 33) (.tmp 29) (by kernel_rfl) (by kernel_rfl) (by kernel_rfl) (hn) W⟩) hS1 ?_
      try simp only [Act.put, List.setIfInBounds_toArray, List.set_cons_zero, List.set_cons_succ]
      refine wpAnyH_take (i := 13) (oi := { dst := some 35, op := Op.fieldAddr 24 (Operand.tmp 34) 3, type := 0, pos := "soft.go:68", after := #[{ on := 12, ground := Ground.data }], guard := none }) (v := .pointer (some ⟨bc, n * 5 + 3, none⟩)) rfl (by kernel_rfl) (by kernel_rfl) (by kernel_rfl) (fun _ _ _ h => h) (Or.inl ⟨by kernel_rfl, fun W h => (by first | kernel_rfl | go_simp)⟩) hS1 ?_
      try simp only [Act.put, List.setIfInBounds_toArray, List.set_cons_zero, List.set_cons_succ]
      refine wpAnyH_take (i := 14) (oi := { dst := some 36, op := Op.indexAddr 22 (Operand.tmp 35) (Operand.tmp 30), type := 0, pos := "soft.go:68", after := #[{ on := 13, ground := Ground.data }, { on := 8, ground := Ground.data }], guard := none }) (v := .pointer (some ⟨bc, n * 5 + 3 + q, none⟩)) rfl (by kernel_rfl) (by kernel_rfl) (by kernel_rfl) (fun _ _ _ h => h) (Or.inl ⟨by kernel_rfl, fun W h => Op1.ix_part (.tmp 35) (.tmp 30) (by kernel_rfl) (by kernel_rfl) (by kernel_rfl) (hq) W⟩) hS1 ?_
      try simp only [Act.put, List.setIfInBounds_toArray, List.set_cons_zero, List.set_cons_succ]
      refine wpAnyH_take (i := 15) (oi := { dst := some 37, op := Op.load 3 (Operand.tmp 36), type := 3, pos := "soft.go:68", after := #[{ on := 14, ground := Ground.data }], guard := none }) (v := .int .i64 (x : Int)) rfl (by kernel_rfl) (by kernel_rfl) (by kernel_rfl) (fun _ _ _ h => h) (Or.inl ⟨by kernel_rfl, fun W h => Op1.ld_int (.tmp 36) (by kernel_rfl) (by kernel_rfl) W (by have := unhide PRT W h.2; rw [Nat.zero_add] at this; exact this)⟩) hS1 ?_
      try simp only [Act.put, List.setIfInBounds_toArray, List.set_cons_zero, List.set_cons_succ]
      refine wpAnyH_take (i := 16) (oi := { dst := some 12, op := Op.assign (Operand.tmp 37), type := 3, pos := "soft.go:68", after := #[{ on := 15, ground := Ground.data }, { on := 7, ground := Ground.chain }, { on := 0, ground := Ground.phase }, { on := 1, ground := Ground.phase }, { on := 2, ground := Ground.phase }, { on := 3, ground := Ground.phase }, { on := 4, ground := Ground.phase }, { on := 5, ground := Ground.phase }, { on := 6, ground := Ground.phase }, { on := 7, ground := Ground.phase }, { on := 8, ground := Ground.phase }, { on := 9, ground := Ground.phase }, { on := 10, ground := Ground.phase }, { on := 11, ground := Ground.phase }, { on := 12, ground := Ground.phase }, { on := 13, ground := Ground.phase }, { on := 14, ground := Ground.phase }, { on := 15, ground := Ground.phase }], guard := none }) (v := .int .i64 (x : Int)) rfl (by kernel_rfl) (by kernel_rfl) (by kernel_rfl) (fun _ _ _ h => h) (Or.inl ⟨by kernel_rfl, fun W h => (by first | kernel_rfl | go_simp)⟩) hS1 ?_
      try simp only [Act.put, List.setIfInBounds_toArray, List.set_cons_zero, List.set_cons_succ]
      refine wpAnyH_done (by kernel_rfl) ?_ _
      clear hS hS1
      have p2 := ((unhide HFL).below (unhide B1)).ptr
      have l2 := ((unhide HFL).below (unhide B1)).flt
      have k2 := ((unhide HFL).below (unhide B1)).clt
      have c2 : W0.cell? ⟨bc, 76 + x * 2 + 1, none⟩ = some (.string (m.text x)) := by
        have := unhide TXT W0 ((unhide HFL).below (unhide B1)).hasNow x hx
        rw [Nat.zero_add] at this; exact this
      go_wp2_with fail
      go_ret3
      exact ⟨rfl, unhide B1⟩
  · have eB : Img.sreadB m d s p = false := by unfold Img.sreadB; rw [if_pos hc]
    have eT : Img.sreadT m d s p = ⟨#[]⟩ := by unfold Img.sreadT; rw [if_pos hc]
    rw [eB, eT]
    generalize Img.sreadC m d s p = ck at C1 hc ⊢
    have u1 : (ck != 0) = true := by simpa using hc
    simp only [Idl.cut, stpA, Idl.none0] at C1
    clear h E1 eB eT
    go_enter Tryz.func22, Tryz.ntmps22
    go_wp2_with fail
    refine (unhide C1).mono ?_
    rintro e w1 ⟨rfl, b1⟩
    have B1 := hide b1
    clear b1
    go_wp2_with fail
    try (go_quiet (fail); go_wp2_with fail)
    go_ret3
    exact ⟨rfl, by first | exact unhide B1 | exact (unhide B1).drew | exact belowN (unhide B1)⟩
end
end Go.Proofs.YtmlhalhjfcfagabGreat
namespace Go.Proofs.YtmlhalhjfcfagabGreat
open Go.RowKit
open Idl (Stp chk stpA)
theorem fld0 (ds : Array Value) (w : World) : (Instr.field 34 (.agg ds) 1).run Tryz.prog w = .ok (.agg (ds.extract 40 (40 + 36))) w := by kernel_rfl
theorem ixd0 (ds : Array Value) (j : Nat) (hj : j < 3) (w : World) : (Instr.index 29 (.agg ds) (.int .i64 (j : Int))).run Tryz.prog w = .ok (.agg (ds.extract (j * 12) (j * 12 + 12))) w :=
  match j, hj with
  | 0, _ => by kernel_rfl
  | 1, _ => by kernel_rfl
  | 2, _ => by kernel_rfl
theorem ixs0 (ds : Array Value) (j : Nat) (hj : j < 4) (w : World) : (Instr.index 28 (.agg ds) (.int .i64 (j : Int))).run Tryz.prog w = .ok (.agg (ds.extract (j * 3) (j * 3 + 3))) w :=
  match j, hj with
  | 0, _ => by kernel_rfl
  | 1, _ => by kernel_rfl
  | 2, _ => by kernel_rfl
  | 3, _ => by kernel_rfl
namespace Op1
theorem fld_dir {o : Oper} {ρ : Operand → Value} (x : Operand) (ho : o.op = .field 34 x 1) {ds : Array Value} (hx : ρ x = .agg ds) (w : World) : (execOp ρ o).run Tryz.prog w = .ok (.value (.agg (ds.extract 40 (40 + 36)))) w := by
  have q := fld0 ds w
  unfold execOp
  rw [ho]
  simp only [hx, Sem.run_bind, q, Result.andThen_ok, Sem.run_pure]
theorem iv_dir {o : Oper} {ρ : Operand → Value} (x y : Operand) (ho : o.op = .index 29 x y) {ds : Array Value} {j : Nat} (hx : ρ x = .agg ds) (hy : ρ y = .int .i64 (j : Int)) (hj : j < 3) (w : World) : (execOp ρ o).run Tryz.prog w = .ok (.value (.agg (ds.extract (j * 12) (j * 12 + 12)))) w := by
  have q := ixd0 ds j hj w
  unfold execOp
  rw [ho]
  simp only [hx, hy, Sem.run_bind, q, Result.andThen_ok, Sem.run_pure]
theorem iv_slot {o : Oper} {ρ : Operand → Value} (x y : Operand) (ho : o.op = .index 28 x y) {ds : Array Value} {j : Nat} (hx : ρ x = .agg ds) (hy : ρ y = .int .i64 (j : Int)) (hj : j < 4) (w : World) : (execOp ρ o).run Tryz.prog w = .ok (.value (.agg (ds.extract (j * 3) (j * 3 + 3)))) w := by
  have q := ixs0 ds j hj w
  unfold execOp
  rw [ho]
  simp only [hx, hy, Sem.run_bind, q, Result.andThen_ok, Sem.run_pure]
theorem geq0 {o : Oper} {ρ : Operand → Value} (x : Operand) (ho : o.op = .binOp .geq 3 x (.const (.int .i64 0)) 3) {v : Int} (hx : ρ x = .int .i64 v) (hy : ρ (.const (.int .i64 0)) = .int .i64 0) (w : World) : (execOp ρ o).run Tryz.prog w = .ok (.value (.bool (decide (0 ≤ v)))) w := by
  unfold execOp
  rw [ho]
  go_simp
theorem ld_ent {o : Oper} {ρ : Operand → Value} (x : Operand) (ho : o.op = .load 27 x) {g o0 : Nat} (hx : ρ x = .pointer (some ⟨g, o0, none⟩)) {s : ByteArray} {a b : Int} (w : World) (c0 : w.cell? ⟨g, o0, none⟩ = some (.string s)) (c1 : w.cell? ⟨g, o0 + 1, none⟩ = some (.int .i64 a)) (c2 : w.cell? ⟨g, o0 + 2, none⟩ = some (.int .i64 b)) : (execOp ρ o).run Tryz.prog w = .ok (.value (.agg #[.string s, .int .i64 a, .int .i64 b])) w := by
  unfold execOp
  rw [ho]
  go_simp
theorem eq_ent {o : Oper} {ρ : Operand → Value} (x y : Operand) (ho : o.op = .binOp .eql 27 x y 27) {na : ByteArray} {ia sa : Int} {nb : ByteArray} {ib sb : Int} (hx : ρ x = .agg #[.string na, .int .i64 ia, .int .i64 sa]) (hy : ρ y = .agg #[.string nb, .int .i64 ib, .int .i64 sb]) (w : World) : (execOp ρ o).run Tryz.prog w = .ok (.value (.bool (na.toList == nb.toList && ia == ib && sa == sb))) w :=
  run_exec_eql 27 27 x y ho _ _ hx hy _ (by kernel_rfl) (fun w => eqEnt na ia sa nb ib sb w) w
end Op1
theorem ent_cells {ds : Array Value} {k : Img} (h : IsImg ds k) {d s : Nat} (hd : d < 3) (hs : s < 4) : ((ds.extract 40 (40 + 36)).extract (d * 12) (d * 12 + 12)).extract (s * 3) (s * 3 + 3) = #[.string (k.name d s), .int .i64 (k.ino d s), .int .i64 (k.est d s)] := by
  have hz := h.size
  have h0 := h.name d s hd hs
  have h1 := h.ino d s hd hs
  have h2 := h.est d s hd hs
  refine Array.ext_getElem? fun i => ?_
  rw [Array.getElem?_extract, Array.getElem?_extract, Array.getElem?_extract]
  simp only [Array.size_extract, hz]
  by_cases hi : i < 3
  · rw [if_pos (by omega), if_pos (by omega), if_pos (by omega)]
    have : i = 0 ∨ i = 1 ∨ i = 2 := by omega
    rcases this with rfl | rfl | rfl
    · rw [show 40 + (d * 12 + (s * 3 + 0)) = 40 + d * 12 + s * 3 by omega, h0]; rfl
    · rw [show 40 + (d * 12 + (s * 3 + 1)) = 40 + d * 12 + s * 3 + 1 by omega, h1]; rfl
    · rw [show 40 + (d * 12 + (s * 3 + 2)) = 40 + d * 12 + s * 3 + 2 by omega, h2]; rfl
  · rw [if_neg (by omega)]
    simp; omega
def Img.ssure (m k : Img) (d : Int) (s : ByteArray) : Bool := decide (0 ≤ m.findAt d s.toList) && Img.sameEnt m k d.toNat (m.findAt d s.toList).toNat
section
variable {w : World} {bf bc : Nat} {cs ds : Array Value} {m k : Img} {last : Int}
set_option maxHeartbeats 2000000 in
set_option maxRecDepth 100000 in
theorem sSure_any (h : Fl w bf bc cs ds m k last) (d : Int) (s : ByteArray) :
    Calls Tryz.prog 26 #[.pointer (some ⟨bf, 0, none⟩), .int .i64 d, .string s] w fun e w' => e = .returned (.bool (Img.ssure m k d s)) ∧ Below w.heap.size w w' := by
  have C1 := hide (At.find_any bc m d s w h.hasNow)
  have HFL := hide h
  have p0 := h.ptr
  have l0 := h.flt
  have l1 := h.clt
  have BD := hide ((Below.refl w.heap.size w).drew)
  have SD := hide (show PS2 bf bc m w.drew from ⟨(h.below (unhide BD)).ptr, (h.below (unhide BD)).hasNow⟩)
  by_cases hf : m.findAt d s.toList < 0
  · have e1 : Img.ssure m k d s = false := by unfold Img.ssure; rw [show decide (0 ≤ m.findAt d s.toList) = false by simp; omega]; rfl
    rw [e1]
    have u1 : decide (0 ≤ m.findAt d s.toList) = false := by simp; omega
    have U1 := hide u1
    generalize m.findAt d s.toList = v at C1 U1
    clear hf h e1 u1
    go_enter Tryz.func26, Tryz.ntmps26
    go_wp2_with fail
    refine (unhide C1).mono ?_
    rintro e wq ⟨rfl, e9⟩
    rw [e9]
    clear e9 wq p0 l0 l1
    go_wp2_with fail
    refine wp_region_held_drew (S := PS2 bf bc m) (by kernel_rfl) (unhide SD) (fun hS => ?_)
    refine wpAnyH_take (i := 0) (oi := { dst := some 17, op := Op.move (Operand.tmp 7), type := 3, pos := "soft.go:99", after := #[], guard := none }) (v := .int .i64 v) rfl (by kernel_rfl) (by kernel_rfl) (by kernel_rfl) (fun _ _ _ h => h) (Or.inl ⟨by kernel_rfl, fun W h => (by first | kernel_rfl | go_simp)⟩) hS ?_
    try simp only [Act.put, List.setIfInBounds_toArray, List.set_cons_zero, List.set_cons_succ]
    refine wpAnyH_take (i := 1) (oi := { dst := some 18, op := Op.binOp BinOp.geq 3 (Operand.tmp 17) (Operand.const (Value.int IntKind.i64 0)) 3, type := 4, pos := "soft.go:99", after := #[{ on := 0, ground := Ground.data }], guard := none }) (v := .bool false) rfl (by kernel_rfl) (by kernel_rfl) (by kernel_rfl) (fun _ _ _ h => h) (Or.inl ⟨by kernel_rfl, fun W h => (by rw [← unhide U1]; exact Op1.geq0 (.tmp 17) (by kernel_rfl) (by kernel_rfl) (by kernel_rfl) W)⟩) hS ?_
    try simp only [Act.put, List.setIfInBounds_toArray, List.set_cons_zero, List.set_cons_succ]
    refine wpAnyH_take (i := 2) (oi := { dst := some 19, op := Op.move (Operand.tmp 18), type := 4, pos := "soft.go:99", after := #[{ on := 1, ground := Ground.data }], guard := none }) (v := .bool false) rfl (by kernel_rfl) (by kernel_rfl) (by kernel_rfl) (fun _ _ _ h => h) (Or.inl ⟨by kernel_rfl, fun W h => (by first | kernel_rfl | go_simp)⟩) hS ?_
    try simp only [Act.put, List.setIfInBounds_toArray, List.set_cons_zero, List.set_cons_succ]
    refine wpAnyH_take (i := 3) (oi := { dst := some 20, op := Op.move (Operand.tmp 0), type := 42, pos := "soft.go:99", after := #[{ on := 2, ground := Ground.guard }], guard := some (2, true) }) (v := undef) rfl (by kernel_rfl) (by kernel_rfl) (by kernel_rfl) (fun _ _ _ h => h) (Or.inr ⟨by kernel_rfl, rfl⟩) hS ?_
    try simp only [Act.put, List.setIfInBounds_toArray, List.set_cons_zero, List.set_cons_succ]
    refine wpAnyH_take (i := 4) (oi := { dst := some 21, op := Op.nilCheck (Operand.tmp 20), type := 0, pos := "soft.go:99", after := #[{ on := 3, ground := Ground.data }, { on := 2, ground := Ground.guard }], guard := some (2, true) }) (v := undef) rfl (by kernel_rfl) (by kernel_rfl) (by kernel_rfl) (fun _ _ _ h => h) (Or.inr ⟨by kernel_rfl, rfl⟩) hS ?_
    try simp only [Act.put, List.setIfInBounds_toArray, List.set_cons_zero, List.set_cons_succ]
    refine wpAnyH_take (i := 5) (oi := { dst := some 22, op := Op.fieldAddr 55 (Operand.tmp 21) 0, type := 0, pos := "soft.go:99", after := #[{ on := 4, ground := Ground.data }, { on := 2, ground := Ground.guard }], guard := some (2, true) }) (v := undef) rfl (by kernel_rfl) (by kernel_rfl) (by kernel_rfl) (fun _ _ _ h => h) (Or.inr ⟨by kernel_rfl, rfl⟩) hS ?_
    try simp only [Act.put, List.setIfInBounds_toArray, List.set_cons_zero, List.set_cons_succ]
    refine wpAnyH_take (i := 6) (oi := { dst := some 23, op := Op.load 53 (Operand.tmp 22), type := 53, pos := "soft.go:99", after := #[{ on := 5, ground := Ground.data }, { on := 2, ground := Ground.guard }], guard := some (2, true) }) (v := undef) rfl (by kernel_rfl) (by kernel_rfl) (by kernel_rfl) (fun _ _ _ h => h) (Or.inr ⟨by kernel_rfl, rfl⟩) hS ?_
    try simp only [Act.put, List.setIfInBounds_toArray, List.set_cons_zero, List.set_cons_succ]
    refine wpAnyH_take (i := 7) (oi := { dst := some 24, op := Op.move (Operand.tmp 1), type := 3, pos := "soft.go:99", after := #[{ on := 2, ground := Ground.guard }], guard := some (2, true) }) (v := undef) rfl (by kernel_rfl) (by kernel_rfl) (by kernel_rfl) (fun _ _ _ h => h) (Or.inr ⟨by kernel_rfl, rfl⟩) hS ?_
    try simp only [Act.put, List.setIfInBounds_toArray, List.set_cons_zero, List.set_cons_succ]
    refine wpAnyH_take (i := 8) (oi := { dst := some 25, op := Op.move (Operand.tmp 7), type := 3, pos := "soft.go:99", after := #[{ on := 2, ground := Ground.guard }], guard := some (2, true) }) (v := undef) rfl (by kernel_rfl) (by kernel_rfl) (by kernel_rfl) (fun _ _ _ h => h) (Or.inr ⟨by kernel_rfl, rfl⟩) hS ?_
    try simp only [Act.put, List.setIfInBounds_toArray, List.set_cons_zero, List.set_cons_succ]
    refine wpAnyH_take (i := 9) (oi := { dst := some 26, op := Op.nilCheck (Operand.tmp 23), type := 0, pos := "soft.go:99", after := #[{ on := 6, ground := Ground.data }, { on := 2, ground := Ground.guard }], guard := some (2, true) }) (v := undef) rfl (by kernel_rfl) (by kernel_rfl) (by kernel_rfl) (fun _ _ _ h => h) (Or.inr ⟨by kernel_rfl, rfl⟩) hS ?_
    try simp only [Act.put, List.setIfInBounds_toArray, List.set_cons_zero, List.set_cons_succ]
    refine wpAnyH_take (i := 10) (oi := { dst := some 27, op := Op.fieldAddr 57 (Operand.tmp 26) 0, type := 0, pos := "soft.go:99", after := #[{ on := 9, ground := Ground.data }, { on := 2, ground := Ground.guard }], guard := some (2, true) }) (v := undef) rfl (by kernel_rfl) (by kernel_rfl) (by kernel_rfl) (fun _ _ _ h => h) (Or.inr ⟨by kernel_rfl, rfl⟩) hS ?_
    try simp only [Act.put, List.setIfInBounds_toArray, List.set_cons_zero, List.set_cons_succ]
    refine wpAnyH_take (i := 11) (oi := { dst := some 28, op := Op.fieldAddr 34 (Operand.tmp 27) 1, type := 0, pos := "soft.go:99", after := #[{ on := 10, ground := Ground.data }, { on := 2, ground := Ground.guard }], guard := some (2, true) }) (v := undef) rfl (by kernel_rfl) (by kernel_rfl) (by kernel_rfl) (fun _ _ _ h => h) (Or.inr ⟨by kernel_rfl, rfl⟩) hS ?_
    try simp only [Act.put, List.setIfInBounds_toArray, List.set_cons_zero, List.set_cons_succ]
    refine wpAnyH_take (i := 12) (oi := { dst := some 29, op := Op.indexAddr 29 (Operand.tmp 28) (Operand.tmp 24), type := 0, pos := "soft.go:99", after := #[{ on := 11, ground := Ground.data }, { on := 7, ground := Ground.data }, { on := 2, ground := Ground.guard }], guard := some (2, true) }) (v := undef) rfl (by kernel_rfl) (by kernel_rfl) (by kernel_rfl) (fun _ _ _ h => h) (Or.inr ⟨by kernel_rfl, rfl⟩) hS ?_
    try simp only [Act.put, List.setIfInBounds_toArray, List.set_cons_zero, List.set_cons_succ]
    refine wpAnyH_take (i := 13) (oi := { dst := some 30, op := Op.indexAddr 28 (Operand.tmp 29) (Operand.tmp 25), type := 0, pos := "soft.go:99", after := #[{ on := 12, ground := Ground.data }, { on := 8, ground := Ground.data }, { on := 2, ground := Ground.guard }], guard := some (2, true) }) (v := undef) rfl (by kernel_rfl) (by kernel_rfl) (by kernel_rfl) (fun _ _ _ h => h) (Or.inr ⟨by kernel_rfl, rfl⟩) hS ?_
    try simp only [Act.put, List.setIfInBounds_toArray, List.set_cons_zero, List.set_cons_succ]
    refine wpAnyH_take (i := 14) (oi := { dst := some 31, op := Op.load 27 (Operand.tmp 30), type := 27, pos := "soft.go:99", after := #[{ on := 13, ground := Ground.data }, { on := 2, ground := Ground.guard }], guard := some (2, true) }) (v := undef) rfl (by kernel_rfl) (by kernel_rfl) (by kernel_rfl) (fun _ _ _ h => h) (Or.inr ⟨by kernel_rfl, rfl⟩) hS ?_
    try simp only [Act.put, List.setIfInBounds_toArray, List.set_cons_zero, List.set_cons_succ]
    refine wpAnyH_take (i := 15) (oi := { dst := some 32, op := Op.move (Operand.tmp 0), type := 42, pos := "soft.go:99", after := #[{ on := 2, ground := Ground.guard }], guard := some (2, true) }) (v := undef) rfl (by kernel_rfl) (by kernel_rfl) (by kernel_rfl) (fun _ _ _ h => h) (Or.inr ⟨by kernel_rfl, rfl⟩) hS ?_
    try simp only [Act.put, List.setIfInBounds_toArray, List.set_cons_zero, List.set_cons_succ]
    refine wpAnyH_take (i := 16) (oi := { dst := some 33, op := Op.nilCheck (Operand.tmp 32), type := 0, pos := "soft.go:99", after := #[{ on := 15, ground := Ground.data }, { on := 2, ground := Ground.guard }], guard := some (2, true) }) (v := undef) rfl (by kernel_rfl) (by kernel_rfl) (by kernel_rfl) (fun _ _ _ h => h) (Or.inr ⟨by kernel_rfl, rfl⟩) hS ?_
    try simp only [Act.put, List.setIfInBounds_toArray, List.set_cons_zero, List.set_cons_succ]
    refine wpAnyH_take (i := 17) (oi := { dst := some 34, op := Op.fieldAddr 55 (Operand.tmp 33) 0, type := 0, pos := "soft.go:99", after := #[{ on := 16, ground := Ground.data }, { on := 2, ground := Ground.guard }], guard := some (2, true) }) (v := undef) rfl (by kernel_rfl) (by kernel_rfl) (by kernel_rfl) (fun _ _ _ h => h) (Or.inr ⟨by kernel_rfl, rfl⟩) hS ?_
    try simp only [Act.put, List.setIfInBounds_toArray, List.set_cons_zero, List.set_cons_succ]
    refine wpAnyH_take (i := 18) (oi := { dst := some 35, op := Op.load 53 (Operand.tmp 34), type := 53, pos := "soft.go:99", after := #[{ on := 17, ground := Ground.data }, { on := 2, ground := Ground.guard }], guard := some (2, true) }) (v := undef) rfl (by kernel_rfl) (by kernel_rfl) (by kernel_rfl) (fun _ _ _ h => h) (Or.inr ⟨by kernel_rfl, rfl⟩) hS ?_
    try simp only [Act.put, List.setIfInBounds_toArray, List.set_cons_zero, List.set_cons_succ]
    refine wpAnyH_take (i := 19) (oi := { dst := some 36, op := Op.call { callee := Callee.value (Operand.func 18), args := #[Operand.tmp 35], argTypes := #[53] }, type := 34, pos := "soft.go:99", after := #[{ on := 18, ground := Ground.data }, { on := 2, ground := Ground.chain }, { on := 2, ground := Ground.guard }], guard := some (2, true) }) (v := undef) rfl (by kernel_rfl) (by kernel_rfl) (by kernel_rfl) (fun _ _ _ h => h) (Or.inr ⟨by kernel_rfl, rfl⟩) hS ?_
    try simp only [Act.put, List.setIfInBounds_toArray, List.set_cons_zero, List.set_cons_succ]
    refine wpAnyH_take (i := 20) (oi := { dst := some 37, op := Op.field 34 (Operand.tmp 36) 1, type := 29, pos := "soft.go:99", after := #[{ on := 19, ground := Ground.data }, { on := 2, ground := Ground.guard }], guard := some (2, true) }) (v := undef) rfl (by kernel_rfl) (by kernel_rfl) (by kernel_rfl) (fun _ _ _ h => h) (Or.inr ⟨by kernel_rfl, rfl⟩) hS ?_
    try simp only [Act.put, List.setIfInBounds_toArray, List.set_cons_zero, List.set_cons_succ]
    refine wpAnyH_take (i := 21) (oi := { dst := some 38, op := Op.move (Operand.tmp 1), type := 3, pos := "soft.go:99", after := #[{ on := 2, ground := Ground.guard }], guard := some (2, true) }) (v := undef) rfl (by kernel_rfl) (by kernel_rfl) (by kernel_rfl) (fun _ _ _ h => h) (Or.inr ⟨by kernel_rfl, rfl⟩) hS ?_
    try simp only [Act.put, List.setIfInBounds_toArray, List.set_cons_zero, List.set_cons_succ]
    refine wpAnyH_take (i := 22) (oi := { dst := some 39, op := Op.index 29 (Operand.tmp 37) (Operand.tmp 38), type := 28, pos := "soft.go:99", after := #[{ on := 20, ground := Ground.data }, { on := 21, ground := Ground.data }, { on := 2, ground := Ground.guard }], guard := some (2, true) }) (v := undef) rfl (by kernel_rfl) (by kernel_rfl) (by kernel_rfl) (fun _ _ _ h => h) (Or.inr ⟨by kernel_rfl, rfl⟩) hS ?_
    try simp only [Act.put, List.setIfInBounds_toArray, List.set_cons_zero, List.set_cons_succ]
    refine wpAnyH_take (i := 23) (oi := { dst := some 40, op := Op.move (Operand.tmp 7), type := 3, pos := "soft.go:99", after := #[{ on := 2, ground := Ground.guard }], guard := some (2, true) }) (v := undef) rfl (by kernel_rfl) (by kernel_rfl) (by kernel_rfl) (fun _ _ _ h => h) (Or.inr ⟨by kernel_rfl, rfl⟩) hS ?_
    try simp only [Act.put, List.setIfInBounds_toArray, List.set_cons_zero, List.set_cons_succ]
    refine wpAnyH_take (i := 24) (oi := { dst := some 41, op := Op.index 28 (Operand.tmp 39) (Operand.tmp 40), type := 27, pos := "soft.go:99", after := #[{ on := 22, ground := Ground.data }, { on := 23, ground := Ground.data }, { on := 2, ground := Ground.guard }], guard := some (2, true) }) (v := undef) rfl (by kernel_rfl) (by kernel_rfl) (by kernel_rfl) (fun _ _ _ h => h) (Or.inr ⟨by kernel_rfl, rfl⟩) hS ?_
    try simp only [Act.put, List.setIfInBounds_toArray, List.set_cons_zero, List.set_cons_succ]
    refine wpAnyH_take (i := 25) (oi := { dst := some 42, op := Op.binOp BinOp.eql 27 (Operand.tmp 31) (Operand.tmp 41) 27, type := 4, pos := "soft.go:99", after := #[{ on := 14, ground := Ground.data }, { on := 24, ground := Ground.data }, { on := 2, ground := Ground.guard }], guard := some (2, true) }) (v := undef) rfl (by kernel_rfl) (by kernel_rfl) (by kernel_rfl) (fun _ _ _ h => h) (Or.inr ⟨by kernel_rfl, rfl⟩) hS ?_
    try simp only [Act.put, List.setIfInBounds_toArray, List.set_cons_zero, List.set_cons_succ]
    refine wpAnyH_take (i := 26) (oi := { dst := some 43, op := Op.pick (Operand.tmp 19) (Operand.tmp 42) (Operand.const (Value.bool false)), type := 4, pos := "soft.go:99", after := #[{ on := 2, ground := Ground.data }, { on := 25, ground := Ground.data }], guard := none }) (v := .bool false) rfl (by kernel_rfl) (by kernel_rfl) (by kernel_rfl) (fun _ _ _ h => h) (Or.inl ⟨by kernel_rfl, fun W h => (by first | kernel_rfl | go_simp)⟩) hS ?_
    try simp only [Act.put, List.setIfInBounds_toArray, List.set_cons_zero, List.set_cons_succ]
    refine wpAnyH_take (i := 27) (oi := { dst := some 6, op := Op.assign (Operand.tmp 43), type := 4, pos := "soft.go:99", after := #[{ on := 26, ground := Ground.data }, { on := 19, ground := Ground.chain }, { on := 0, ground := Ground.phase }, { on := 1, ground := Ground.phase }, { on := 2, ground := Ground.phase }, { on := 3, ground := Ground.phase }, { on := 4, ground := Ground.phase }, { on := 5, ground := Ground.phase }, { on := 6, ground := Ground.phase }, { on := 7, ground := Ground.phase }, { on := 8, ground := Ground.phase }, { on := 9, ground := Ground.phase }, { on := 10, ground := Ground.phase }, { on := 11, ground := Ground.phase }, { on := 12, ground := Ground.phase }, { on := 13, ground := Ground.phase }, { on := 14, ground := Ground.phase }, { on := 15, ground := Ground.phase }, { on := 16, ground := Ground.phase }, { on := 17, ground := Ground.phase }, { on := 18, ground := Ground.phase }, { on := 19, ground := Ground.phase }, { on := 20, ground := Ground.phase }, { on := 21, ground := Ground.phase }, { on := 22, ground := Ground.phase }, { on := 23, ground := Ground.phase }, { on := 24, ground := Ground.phase }, { on := 25, ground := Ground.phase }, { on := 26, ground := Ground.phase }], guard := none }) (v := .bool false) rfl (by kernel_rfl) (by kernel_rfl) (by kernel_rfl) (fun _ _ _ h => h) (Or.inl ⟨by kernel_rfl, fun W h => (by first | kernel_rfl | go_simp)⟩) hS ?_
    try simp only [Act.put, List.setIfInBounds_toArray, List.set_cons_zero, List.set_cons_succ]
    refine wpAnyH_done (by kernel_rfl) ?_ _
    clear hS
    go_wp2_with fail
    go_ret
    exact ⟨rfl, unhide BD⟩
  · obtain ⟨⟨d0, d3⟩, _, j, hj, e1, _, _⟩ := Img.findAt_some (Int.not_lt.1 hf)
    obtain ⟨dd, rfl⟩ := Int.eq_ofNat_of_zero_le d0
    have hd : dd < 3 := by omega
    have e2 : Img.ssure m k (dd : Int) s = ((m.name dd j).toList == (k.name dd j).toList && m.ino dd j == k.ino dd j && m.est dd j == k.est dd j) := by unfold Img.ssure; rw [e1, Int.toNat_natCast, Int.toNat_natCast, show decide (0 ≤ (j : Int)) = true by simp]; rfl
    rw [e2]
    rw [e1] at C1
    have HK := hide (ent_cells h.disk hd hj)
    have C2 := hide fun W (bW : Below w.heap.size w W) => disk_any bc cs ds m k h.now h.disk W (h.below bW).row
    have U1 := hide (show decide (0 ≤ (j : Int)) = true by simp)
    clear hf h e1 e2 d0 d3
    go_enter Tryz.func26, Tryz.ntmps26
    go_wp2_with fail
    refine (unhide C1).mono ?_
    rintro e wq ⟨rfl, e9⟩
    rw [e9]
    clear e9 wq p0 l0 l1
    go_wp2_with fail
    refine wp_region_held_drew (S := PS2 bf bc m) (by kernel_rfl) (unhide SD) (fun hS => ?_)
    refine wpAnyH_take (i := 0) (oi := { dst := some 17, op := Op.move (Operand.tmp 7), type := 3, pos := "soft.go:99", after := #[], guard := none }) (v := .int .i64 (j : Int)) rfl (by kernel_rfl) (by kernel_rfl) (by kernel_rfl) (fun _ _ _ h => h) (Or.inl ⟨by kernel_rfl, fun W h => (by first | kernel_rfl | go_simp)⟩) hS ?_
    try simp only [Act.put, List.setIfInBounds_toArray, List.set_cons_zero, List.set_cons_succ]
    refine wpAnyH_take (i := 1) (oi := { dst := some 18, op := Op.binOp BinOp.geq 3 (Operand.tmp 17) (Operand.const (Value.int IntKind.i64 0)) 3, type := 4, pos := "soft.go:99", after := #[{ on := 0, ground := Ground.data }], guard := none }) (v := .bool true) rfl (by kernel_rfl) (by kernel_rfl) (by kernel_rfl) (fun _ _ _ h => h) (Or.inl ⟨by kernel_rfl, fun W h => (by rw [← unhide U1]; exact Op1.geq0 (.tmp 17) (by kernel_rfl) (by kernel_rfl) (by kernel_rfl) W)⟩) hS ?_
    try simp only [Act.put, List.setIfInBounds_toArray, List.set_cons_zero, List.set_cons_succ]
    refine wpAnyH_take (i := 2) (oi := { dst := some 19, op := Op.move (Operand.tmp 18), type := 4, pos := "soft.go:99", after := #[{ on := 1, ground := Ground.data }], guard := none }) (v := .bool true) rfl (by kernel_rfl) (by kernel_rfl) (by kernel_rfl) (fun _ _ _ h => h) (Or.inl ⟨by kernel_rfl, fun W h => (by first | kernel_rfl | go_simp)⟩) hS ?_
    try simp only [Act.put, List.setIfInBounds_toArray, List.set_cons_zero, List.set_cons_succ]
    refine wpAnyH_take (i := 3) (oi := { dst := some 20, op := Op.move (Operand.tmp 0), type := 42, pos := "soft.go:99", after := #[{ on := 2, ground := Ground.guard }], guard := some (2, true) }) (v := .pointer (some ⟨bf, 0, none⟩)) rfl (by kernel_rfl) (by kernel_rfl) (by kernel_rfl) (fun _ _ _ h => h) (Or.inl ⟨by kernel_rfl, fun W h => (by first | kernel_rfl | go_simp)⟩) hS ?_
    try simp only [Act.put, List.setIfInBounds_toArray, List.set_cons_zero, List.set_cons_succ]
    refine wpAnyH_take (i := 4) (oi := { dst := some 21, op := Op.nilCheck (Operand.tmp 20), type := 0, pos := "soft.go:99", after := #[{ on := 3, ground := Ground.data }, { on := 2, ground := Ground.guard }], guard := some (2, true) }) (v := .pointer (some ⟨bf, 0, none⟩)) rfl (by kernel_rfl) (by kernel_rfl) (by kernel_rfl) (fun _ _ _ h => h) (Or.inl ⟨by kernel_rfl, fun W h => (by first | kernel_rfl | go_simp)⟩) hS ?_
    try simp only [Act.put, List.setIfInBounds_toArray, List.set_cons_zero, List.set_cons_succ]
    refine wpAnyH_take (i := 5) (oi := { dst := some 22, op := Op.fieldAddr 55 (Operand.tmp 21) 0, type := 0, pos := "soft.go:99", after := #[{ on := 4, ground := Ground.data }, { on := 2, ground := Ground.guard }], guard := some (2, true) }) (v := .pointer (some ⟨bf, 0, none⟩)) rfl (by kernel_rfl) (by kernel_rfl) (by kernel_rfl) (fun _ _ _ h => h) (Or.inl ⟨by kernel_rfl, fun W h => (by first | kernel_rfl | go_simp)⟩) hS ?_
    try simp only [Act.put, List.setIfInBounds_toArray, List.set_cons_zero, List.set_cons_succ]
    refine wpAnyH_take (i := 6) (oi := { dst := some 23, op := Op.load 53 (Operand.tmp 22), type := 53, pos := "soft.go:99", after := #[{ on := 5, ground := Ground.data }, { on := 2, ground := Ground.guard }], guard := some (2, true) }) (v := .pointer (some ⟨bc, 0, none⟩)) rfl (by kernel_rfl) (by kernel_rfl) (by kernel_rfl) (fun _ _ _ h => h) (Or.inl ⟨by kernel_rfl, fun W h => Op1.ld_ptr (.tmp 22) (by kernel_rfl) (by kernel_rfl) W (h.1)⟩) hS ?_
    try simp only [Act.put, List.setIfInBounds_toArray, List.set_cons_zero, List.set_cons_succ]
    refine wpAnyH_take (i := 7) (oi := { dst := some 24, op := Op.move (Operand.tmp 1), type := 3, pos := "soft.go:99", after := #[{ on := 2, ground := Ground.guard }], guard := some (2, true) }) (v := .int .i64 (dd : Int)) rfl (by kernel_rfl) (by kernel_rfl) (by kernel_rfl) (fun _ _ _ h => h) (Or.inl ⟨by kernel_rfl, fun W h => (by first | kernel_rfl | go_simp)⟩) hS ?_
    try simp only [Act.put, List.setIfInBounds_toArray, List.set_cons_zero, List.set_cons_succ]
    refine wpAnyH_take (i := 8) (oi := { dst := some 25, op := Op.move (Operand.tmp 7), type := 3, pos := "soft.go:99", after := #[{ on := 2, ground := Ground.guard }], guard := some (2, true) }) (v := .int .i64 (j : Int)) rfl (by kernel_rfl) (by kernel_rfl) (by kernel_rfl) (fun _ _ _ h => h) (Or.inl ⟨by kernel_rfl, fun W h => (by first | kernel_rfl | go_simp)⟩) hS ?_
    try simp only [Act.put, List.setIfInBounds_toArray, List.set_cons_zero, List.set_cons_succ]
    refine wpAnyH_take (i := 9) (oi := { dst := some 26, op := Op.nilCheck (Operand.tmp 23), type := 0, pos := "soft.go:99", after := #[{ on := 6, ground := Ground.data }, { on := 2, ground := Ground.guard }], guard := some (2, true) }) (v := .pointer (some ⟨bc, 0, none⟩)) rfl (by kernel_rfl) (by kernel_rfl) (by kernel_rfl) (fun _ _ _ h => h) (Or.inl ⟨by kernel_rfl, fun W h => (by first | kernel_rfl | go_simp)⟩) hS ?_
    try simp only [Act.put, List.setIfInBounds_toArray, List.set_cons_zero, List.set_cons_succ]
    refine wpAnyH_take (i := 10) (oi := { dst := some 27, op := Op.fieldAddr 57 (Operand.tmp 26) 0, type := 0, pos := "soft.go:99", after := #[{ on := 9, ground := Ground.data }, { on := 2, ground := Ground.guard }], guard := some (2, true) }) (v := .pointer (some ⟨bc, 0, none⟩)) rfl (by kernel_rfl) (by kernel_rfl) (by kernel_rfl) (fun _ _ _ h => h) (Or.inl ⟨by kernel_rfl, fun W h => (by first | kernel_rfl | go_simp)⟩) hS ?_
    try simp only [Act.put, List.setIfInBounds_toArray, List.set_cons_zero, List.set_cons_succ]
    refine wpAnyH_take (i := 11) (oi := { dst := some 28, op := Op.fieldAddr 34 (Operand.tmp 27) 1, type := 0, pos := "soft.go:99", after := #[{ on := 10, ground := Ground.data }, { on := 2, ground := Ground.guard }], guard := some (2, true) }) (v := .pointer (some ⟨bc, 40, none⟩)) rfl (by kernel_rfl) (by kernel_rfl) (by kernel_rfl) (fun _ _ _ h => h) (Or.inl ⟨by kernel_rfl, fun W h => (by first | kernel_rfl | go_simp)⟩) hS ?_
    try simp only [Act.put, List.setIfInBounds_toArray, List.set_cons_zero, List.set_cons_succ]
    refine wpAnyH_take (i := 12) (oi := { dst := some 29, op := Op.indexAddr 29 (Operand.tmp 28) (Operand.tmp 24), type := 0, pos := "soft.go:99", after := #[{ on := 11, ground := Ground.data }, { on := 7, ground := Ground.data }, { on := 2, ground := Ground.guard }], guard := some (2, true) }) (v := .pointer (some ⟨bc, 40 + dd * 12, none⟩)) rfl (by kernel_rfl) (by kernel_rfl) (by kernel_rfl) (fun _ _ _ h => h) (Or.inl ⟨by kernel_rfl, fun W h => Op1.ix_dir (.tmp 28) (.tmp 24) (by kernel_rfl) (by kernel_rfl) (by kernel_rfl) (hd) W⟩) hS ?_
    try simp only [Act.put, List.setIfInBounds_toArray, List.set_cons_zero, List.set_cons_succ]
    refine wpAnyH_take (i := 13) (oi := { dst := some 30, op := Op.indexAddr 28 (Operand.tmp 29) (Operand.tmp 25), type := 0, pos := "soft.go:99", after := #[{ on := 12, ground := Ground.data }, { on := 8, ground := Ground.data }, { on := 2, ground := Ground.guard }], guard := some (2, true) }) (v := .pointer (some ⟨bc, 40 + dd * 12 + j * 3, none⟩)) rfl (by kernel_rfl) (by kernel_rfl) (by kernel_rfl) (fun _ _ _ h => h) (Or.inl ⟨by kernel_rfl, fun W h => Op1.ix_slot (.tmp 29) (.tmp 25) (by kernel_rfl) (by kernel_rfl) (by kernel_rfl) (hj) W⟩) hS ?_
    try simp only [Act.put, List.setIfInBounds_toArray, List.set_cons_zero, List.set_cons_succ]
    refine wpAnyH_take (i := 14) (oi := { dst := some 31, op := Op.load 27 (Operand.tmp 30), type := 27, pos := "soft.go:99", after := #[{ on := 13, ground := Ground.data }, { on := 2, ground := Ground.guard }], guard := some (2, true) }) (v := .agg #[.string (m.name dd j), .int .i64 (m.ino dd j), .int .i64 (m.est dd j)]) rfl (by kernel_rfl) (by kernel_rfl) (by kernel_rfl) (fun _ _ _ h => h) (Or.inl ⟨by kernel_rfl, fun W h => Op1.ld_ent (.tmp 30) (by kernel_rfl) (by kernel_rfl) W (by have := h.2.name dd j hd hj; simp only [Nat.zero_add] at this; exact this) (by have := h.2.ino dd j hd hj; simp only [Nat.zero_add] at this; exact this) (by have := h.2.est dd j hd hj; simp only [Nat.zero_add] at this; exact this)⟩) hS ?_
    try simp only [Act.put, List.setIfInBounds_toArray, List.set_cons_zero, List.set_cons_succ]
    refine wpAnyH_take (i := 15) (oi := { dst := some 32, op := Op.move (Operand.tmp 0), type := 42, pos := "soft.go:99", after := #[{ on := 2, ground := Ground.guard }], guard := some (2, true) }) (v := .pointer (some ⟨bf, 0, none⟩)) rfl (by kernel_rfl) (by kernel_rfl) (by kernel_rfl) (fun _ _ _ h => h) (Or.inl ⟨by kernel_rfl, fun W h => (by first | kernel_rfl | go_simp)⟩) hS ?_
    try simp only [Act.put, List.setIfInBounds_toArray, List.set_cons_zero, List.set_cons_succ]
    refine wpAnyH_take (i := 16) (oi := { dst := some 33, op := Op.nilCheck (Operand.tmp 32), type := 0, pos := "soft.go:99", after := #[{ on := 15, ground := Ground.data }, { on := 2, ground := Ground.guard }], guard := some (2, true) }) (v := .pointer (some ⟨bf, 0, none⟩)) rfl (by kernel_rfl) (by kernel_rfl) (by kernel_rfl) (fun _ _ _ h => h) (Or.inl ⟨by kernel_rfl, fun W h => (by first | kernel_rfl | go_simp)⟩) hS ?_
    try simp only [Act.put, List.setIfInBounds_toArray, List.set_cons_zero, List.set_cons_succ]
    refine wpAnyH_take (i := 17) (oi := { dst := some 34, op := Op.fieldAddr 55 (Operand.tmp 33) 0, type := 0, pos := "soft.go:99", after := #[{ on := 16, ground := Ground.data }, { on := 2, ground := Ground.guard }], guard := some (2, true) }) (v := .pointer (some ⟨bf, 0, none⟩)) rfl (by kernel_rfl) (by kernel_rfl) (by kernel_rfl) (fun _ _ _ h => h) (Or.inl ⟨by kernel_rfl, fun W h => (by first | kernel_rfl | go_simp)⟩) hS ?_
    try simp only [Act.put, List.setIfInBounds_toArray, List.set_cons_zero, List.set_cons_succ]
    refine wpAnyH_take (i := 18) (oi := { dst := some 35, op := Op.load 53 (Operand.tmp 34), type := 53, pos := "soft.go:99", after := #[{ on := 17, ground := Ground.data }, { on := 2, ground := Ground.guard }], guard := some (2, true) }) (v := .pointer (some ⟨bc, 0, none⟩)) rfl (by kernel_rfl) (by kernel_rfl) (by kernel_rfl) (fun _ _ _ h => h) (Or.inl ⟨by kernel_rfl, fun W h => Op1.ld_ptr (.tmp 34) (by kernel_rfl) (by kernel_rfl) W (h.1)⟩) hS ?_
    try simp only [Act.put, List.setIfInBounds_toArray, List.set_cons_zero, List.set_cons_succ]
    refine wpAnyH_take (i := 21) (oi := { dst := some 38, op := Op.move (Operand.tmp 1), type := 3, pos := "soft.go:99", after := #[{ on := 2, ground := Ground.guard }], guard := some (2, true) }) (v := .int .i64 (dd : Int)) rfl (by kernel_rfl) (by kernel_rfl) (by kernel_rfl) (fun _ _ _ h => h) (Or.inl ⟨by kernel_rfl, fun W h => (by first | kernel_rfl | go_simp)⟩) hS ?_
    try simp only [Act.put, List.setIfInBounds_toArray, List.set_cons_zero, List.set_cons_succ]
    refine wpAnyH_take (i := 23) (oi := { dst := some 40, op := Op.move (Operand.tmp 7), type := 3, pos := "soft.go:99", after := #[{ on := 2, ground := Ground.guard }], guard := some (2, true) }) (v := .int .i64 (j : Int)) rfl (by kernel_rfl) (by kernel_rfl) (by kernel_rfl) (fun _ _ _ h => h) (Or.inl ⟨by kernel_rfl, fun W h => (by first | kernel_rfl | go_simp)⟩) hS ?_
    try simp only [Act.put, List.setIfInBounds_toArray, List.set_cons_zero, List.set_cons_succ]
    generalize World.drew _ = W0 at hS BD ⊢
    refine wpAnyH_ready (rs := [19]) (by kernel_rfl) (by simp) ?_
    refine AllReadyH.cons (o := { dst := some 36, op := Op.call { callee := Callee.value (Operand.func 18), args := #[Operand.tmp 35], argTypes := #[53] }, type := 34, pos := "soft.go:99", after := #[{ on := 18, ground := Ground.data }, { on := 2, ground := Ground.chain }, { on := 2, ground := Ground.guard }], guard := some (2, true) }) rfl (fun K hK => ?_) AllReadyH.nil
    rw [if_pos (by kernel_rfl)]
    go_simp
    refine (unhide C2 W0 (unhide BD)).mono ?_
    rintro e w2 ⟨rfl, b2⟩
    have B2 := hide ((unhide BD).trans (b2.mono (unhide BD).size))
    clear b2
    go_wp2_with fail
    refine hK.out _ _ (⟨((unhide HFL).below (unhide B2)).ptr, ((unhide HFL).below (unhide B2)).hasNow⟩) (fun hS1 => ?_)
    clear hK K
    try simp only [Act.put, List.setIfInBounds_toArray, List.set_cons_zero, List.set_cons_succ]
    refine wpAnyH_take (i := 20) (oi := { dst := some 37, op := Op.field 34 (Operand.tmp 36) 1, type := 29, pos := "soft.go:99", after := #[{ on := 19, ground := Ground.data }, { on := 2, ground := Ground.guard }], guard := some (2, true) }) (v := .agg (ds.extract 40 (40 + 36))) rfl (by kernel_rfl) (by kernel_rfl) (by kernel_rfl) (fun _ _ _ h => h) (Or.inl ⟨by kernel_rfl, fun W h => Op1.fld_dir (.tmp 36) (by kernel_rfl) (by kernel_rfl) W⟩) hS1 ?_
    try simp only [Act.put, List.setIfInBounds_toArray, List.set_cons_zero, List.set_cons_succ]
    refine wpAnyH_take (i := 22) (oi := { dst := some 39, op := Op.index 29 (Operand.tmp 37) (Operand.tmp 38), type := 28, pos := "soft.go:99", after := #[{ on := 20, ground := Ground.data }, { on := 21, ground := Ground.data }, { on := 2, ground := Ground.guard }], guard := some (2, true) }) (v := .agg ((ds.extract 40 (40 + 36)).extract (dd * 12) (dd * 12 + 12))) rfl (by kernel_rfl) (by kernel_rfl) (by kernel_rfl) (fun _ _ _ h => h) (Or.inl ⟨by kernel_rfl, fun W h => Op1.iv_dir (.tmp 37) (.tmp 38) (by kernel_rfl) (by kernel_rfl) (by kernel_rfl) hd W⟩) hS1 ?_
    try simp only [Act.put, List.setIfInBounds_toArray, List.set_cons_zero, List.set_cons_succ]
    refine wpAnyH_take (i := 24) (oi := { dst := some 41, op := Op.index 28 (Operand.tmp 39) (Operand.tmp 40), type := 27, pos := "soft.go:99", after := #[{ on := 22, ground := Ground.data }, { on := 23, ground := Ground.data }, { on := 2, ground := Ground.guard }], guard := some (2, true) }) (v := .agg #[.string (k.name dd j), .int .i64 (k.ino dd j), .int .i64 (k.est dd j)]) rfl (by kernel_rfl) (by kernel_rfl) (by kernel_rfl) (fun _ _ _ h => h) (Or.inl ⟨by kernel_rfl, fun W h => (by rw [← unhide HK]; exact Op1.iv_slot (.tmp 39) (.tmp 40) (by kernel_rfl) (by kernel_rfl) (by kernel_rfl) hj W)⟩) hS1 ?_
    try simp only [Act.put, List.setIfInBounds_toArray, List.set_cons_zero, List.set_cons_succ]
    refine wpAnyH_take (i := 25) (oi := { dst := some 42, op := Op.binOp BinOp.eql 27 (Operand.tmp 31) (Operand.tmp 41) 27, type := 4, pos := "soft.go:99", after := #[{ on := 14, ground := Ground.data }, { on := 24, ground := Ground.data }, { on := 2, ground := Ground.guard }], guard := some (2, true) }) (v := .bool ((m.name dd j).toList == (k.name dd j).toList && m.ino dd j == k.ino dd j && m.est dd j == k.est dd j)) rfl (by kernel_rfl) (by kernel_rfl) (by kernel_rfl) (fun _ _ _ h => h) (Or.inl ⟨by kernel_rfl, fun W h => Op1.eq_ent (.tmp 31) (.tmp 41) (by kernel_rfl) (by kernel_rfl) (by kernel_rfl) W⟩) hS1 ?_
    try simp only [Act.put, List.setIfInBounds_toArray, List.set_cons_zero, List.set_cons_succ]
    refine wpAnyH_take (i := 26) (oi := { dst := some 43, op := Op.pick (Operand.tmp 19) (Operand.tmp 42) (Operand.const (Value.bool false)), type := 4, pos := "soft.go:99", after := #[{ on := 2, ground := Ground.data }, { on := 25, ground := Ground.data }], guard := none }) (v := .bool ((m.name dd j).toList == (k.name dd j).toList && m.ino dd j == k.ino dd j && m.est dd j == k.est dd j)) rfl (by kernel_rfl) (by kernel_rfl) (by kernel_rfl) (fun _ _ _ h => h) (Or.inl ⟨by kernel_rfl, fun W h => (by first | kernel_rfl | go_simp)⟩) hS1 ?_
    try simp only [Act.put, List.setIfInBounds_toArray, List.set_cons_zero, List.set_cons_succ]
    refine wpAnyH_take (i := 27) (oi := { dst := some 6, op := Op.assign (Operand.tmp 43), type := 4, pos := "soft.go:99", after := #[{ on := 26, ground := Ground.data }, { on := 19, ground := Ground.chain }, { on := 0, ground := Ground.phase }, { on := 1, ground := Ground.phase }, { on := 2, ground := Ground.phase }, { on := 3, ground := Ground.phase }, { on := 4, ground := Ground.phase }, { on := 5, ground := Ground.phase }, { on := 6, ground := Ground.phase }, { on := 7, ground := Ground.phase }, { on := 8, ground := Ground.phase }, { on := 9, ground := Ground.phase }, { on := 10, ground := Ground.phase }, { on := 11, ground := Ground.phase }, { on := 12, ground := Ground.phase }, { on := 13, ground := Ground.phase }, { on := 14, ground := Ground.phase }, { on := 15, ground := Ground.phase }, { on := 16, ground := Ground.phase }, { on := 17, ground := Ground.phase }, { on := 18, ground := Ground.phase }, { on := 19, ground := Ground.phase }, { on := 20, ground := Ground.phase }, { on := 21, ground := Ground.phase }, { on := 22, ground := Ground.phase }, { on := 23, ground := Ground.phase }, { on := 24, ground := Ground.phase }, { on := 25, ground := Ground.phase }, { on := 26, ground := Ground.phase }], guard := none }) (v := .bool ((m.name dd j).toList == (k.name dd j).toList && m.ino dd j == k.ino dd j && m.est dd j == k.est dd j)) rfl (by kernel_rfl) (by kernel_rfl) (by kernel_rfl) (fun _ _ _ h => h) (Or.inl ⟨by kernel_rfl, fun W h => (by first | kernel_rfl | go_simp)⟩) hS1 ?_
    try simp only [Act.put, List.setIfInBounds_toArray, List.set_cons_zero, List.set_cons_succ]
    refine wpAnyH_done (by kernel_rfl) ?_ _
    clear hS hS1
    go_wp2_with fail
    go_ret
    exact ⟨rfl, unhide B2⟩
end
end Go.Proofs.YtmlhalhjfcfagabGreat
