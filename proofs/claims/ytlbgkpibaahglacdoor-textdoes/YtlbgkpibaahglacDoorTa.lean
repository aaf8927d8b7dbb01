/-
  The walks of safe.isInode, isData, leads, Union, Block.
-/
import Derived.Test.YtlbgkpibaahglacDoorWm
import Derived.Test.YtlbgkpibaahglacDoorSi
namespace Go.Proofs.YtlbgkpibaahglacDoor
open Go.RowKit
/-- the kind of a block, as it is told -/
def kindS (b : Int) : ByteArray := if Img.inB b = false then ⟨#[]⟩ else if b < 2 then ⟨#[105, 110, 111, 100, 101, 115]⟩ else if b < 5 then ⟨#[100, 105, 114]⟩ else ⟨#[100, 97, 116, 97]⟩
def kindN (b : Int) : Int := if Img.inB b = false then 0 else if b < 2 then b * 4 else if b < 5 then b - 2 else b - 5
theorem kind_out {b : Int} (h : Img.inB b = false) : kindS b = ⟨#[]⟩ ∧ kindN b = 0 := ⟨if_pos h, if_pos h⟩
theorem kind_ino {k : Nat} (h : k < 2) : kindS (k : Int) = ⟨#[105, 110, 111, 100, 101, 115]⟩ ∧ kindN (k : Int) = k * 4 := by
  have e : Img.inB (k : Int) = true := by simp [Img.inB]; omega
  unfold kindS kindN
  rw [e, if_neg (by simp), if_pos (by omega), if_neg (by simp), if_pos (by omega)]; exact ⟨rfl, rfl⟩
theorem kind_dir {d : Nat} (h : d < 3) : kindS ((d + 2 : Nat) : Int) = ⟨#[100, 105, 114]⟩ ∧ kindN ((d + 2 : Nat) : Int) = (d : Nat) := by
  have e : Img.inB ((d + 2 : Nat) : Int) = true := by simp [Img.inB]; omega
  unfold kindS kindN
  rw [e, if_neg (by simp), if_neg (by omega), if_pos (by omega), if_neg (by simp), if_neg (by omega), if_pos (by omega)]; exact ⟨rfl, by omega⟩
theorem kind_data {x : Nat} (h : x < 9) : kindS ((x + 5 : Nat) : Int) = ⟨#[100, 97, 116, 97]⟩ ∧ kindN ((x + 5 : Nat) : Int) = (x : Nat) := by
  have e : Img.inB ((x + 5 : Nat) : Int) = true := by simp [Img.inB]; omega
  unfold kindS kindN
  rw [e, if_neg (by simp), if_neg (by omega), if_neg (by omega), if_neg (by simp), if_neg (by omega), if_neg (by omega)]; exact ⟨rfl, by omega⟩
end Go.Proofs.YtlbgkpibaahglacDoor
