/-
  The walks of image.Check and image.Exact.
-/
import Derived.Test.YtlbgkpibaahglacDoorWf
namespace Go.Proofs.YtlbgkpibaahglacDoor
open Go.RowKit
def slotsAt (m : Img) (d : Nat) : Int := Img.firstNZ (fun s => m.checkSlot d s) 4
theorem check_slots {m : Img} {d s : Nat} (hd : d < 3) (hs : s < 4) (h1 : ∀ j, j < d → slotsAt m j = 0) (h2 : ∀ j, j < s → m.checkSlot d j = 0) (h : m.checkSlot d s ≠ 0) : m.check = m.checkSlot d s := by
  have e1 : slotsAt m d = m.checkSlot d s := Img.firstNZ_at (f := fun s => m.checkSlot d s) h h2 hs
  have e2 : Img.firstNZ (slotsAt m) 3 = slotsAt m d := Img.firstNZ_at (by rw [e1]; exact h) h1 hd
  have e3 : Img.firstNZ (fun d => Img.firstNZ (fun s => m.checkSlot d s) 4) 3 = m.checkSlot d s := e2.trans e1
  unfold Img.check
  rw [e3, if_pos h]
theorem check_inodes {m : Img} {n : Nat} (hn : n < 8) (h1 : ∀ j, j < 3 → slotsAt m j = 0) (h2 : ∀ j, j < n → m.checkInode j = 0) (h : m.checkInode n ≠ 0) : m.check = m.checkInode n := by
  have e3 : Img.firstNZ (fun d => Img.firstNZ (fun s => m.checkSlot d s) 4) 3 = 0 := Img.firstNZ_zero (f := slotsAt m) h1
  have e4 : Img.firstNZ (fun n => m.checkInode n) 8 = m.checkInode n := Img.firstNZ_at (f := fun n => m.checkInode n) h h2 hn
  unfold Img.check
  rw [e3, if_neg (by simp), e4, if_pos h]
theorem check_end {m : Img} (h1 : ∀ j, j < 3 → slotsAt m j = 0) (h2 : ∀ j, j < 8 → m.checkInode j = 0) : m.check = if m.stampTwice || m.dataTwice then 11 else 0 := by
  have e3 : Img.firstNZ (fun d => Img.firstNZ (fun s => m.checkSlot d s) 4) 3 = 0 := Img.firstNZ_zero (f := slotsAt m) h1
  have e4 : Img.firstNZ (fun n => m.checkInode n) 8 = 0 := Img.firstNZ_zero (f := fun n => m.checkInode n) h2
  unfold Img.check
  rw [e3, if_neg (by simp), e4, if_neg (by simp)]
end Go.Proofs.YtlbgkpibaahglacDoor
