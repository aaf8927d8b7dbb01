/-
  The walks of safe.isInode, isData, leads, Union, Block.
-/
import Derived.Test.YtmbpckmpnnmnmabGreatQWm
import Derived.Test.YtmbpckmpnnmnmabGreatYu
namespace Go.Proofs.YtmbpckmpnnmnmabGreat
open Go.RowKit
set_option maxHeartbeats 400000 in
theorem sIsData_any (x : Int) (w : World) :
    Calls Tryz.prog 139 #[.int .i64 x] w fun e w' => e = .returned (.bool (Img.isD x)) ∧ w' = w := by
  go_enter Tryz.func139, Tryz.ntmps139
  go_wp2
  all_goals
    go_ret
    refine ⟨ret_bool ?_, rfl⟩
    simp [Img.isD]
    try omega
set_option maxHeartbeats 400000 in
theorem sIsInode_any (x : Int) (w : World) :
    Calls Tryz.prog 117 #[.int .i64 x] w fun e w' => e = .returned (.bool (Img.isI x)) ∧ w' = w := by
  go_enter Tryz.func117, Tryz.ntmps117
  go_wp2
  all_goals
    go_ret
    refine ⟨ret_bool ?_, rfl⟩
    simp [Img.isI]
    try omega
/-- the kind of a block, as it is told -/
def kindS (b : Int) : ByteArray := if Img.inB b = false then ⟨#[]⟩ else if b < 2 then ⟨#[105, 110, 111, 100, 101, 115]⟩ else if b < 5 then ⟨#[100, 105, 114]⟩ else ⟨#[100, 97, 116, 97]⟩
def kindN (b : Int) : Int := if Img.inB b = false then 0 else if b < 2 then b * 4 else if b < 5 then b - 2 else b - 5
theorem kind_out {b : Int} (h : Img.inB b = false) : kindS b = ⟨#[]⟩ ∧ kindN b = 0 := ⟨if_pos h, if_pos h⟩
theorem kind_ino {k : Nat} (h : k < 2) : kindS (k : Int) = ⟨#[105, 110, 111, 100, 101, 115]⟩ ∧ kindN (k : Int) = k * 4 := by
  have e : Img.inB (k : Int) = true := by simp [Img.inB]; omega
  unfold kindS kindN
  rw [e, if_neg (by simp), if_pos (by omega), if_neg (by simp), if_pos (by omega)]; exact ⟨rfl, rfl⟩
theorem kind_dir {d : Nat} (h : d < 3) : kindS ((d + 2 : Nat) : Int) = ⟨#[100, 105, 114]⟩ ∧ kindN ((d + 2 : Nat) : Int) = (d : Nat) := by
  have e : Img.inB ((d + 2 : Nat) : Int) = true := by simp [Img.inB]; omega
  unfold kindS kindN
  rw [e, if_neg (by simp), if_neg (by omega), if_pos (by omega), if_neg (by simp), if_neg (by omega), if_pos (by omega)]; exact ⟨rfl, by omega⟩
theorem kind_data {x : Nat} (h : x < 9) : kindS ((x + 5 : Nat) : Int) = ⟨#[100, 97, 116, 97]⟩ ∧ kindN ((x + 5 : Nat) : Int) = (x : Nat) := by
  have e : Img.inB ((x + 5 : Nat) : Int) = true := by simp [Img.inB]; omega
  unfold kindS kindN
  rw [e, if_neg (by simp), if_neg (by omega), if_neg (by omega), if_neg (by simp), if_neg (by omega), if_neg (by omega)]; exact ⟨rfl, by omega⟩
set_option maxHeartbeats 400000 in
theorem block_any (b : Int) (w : World) :
    Calls Tryz.prog 81 #[.int .i64 b] w fun e w' => e = .returned (.tuple #[.string (kindS b), .int .i64 (kindN b)]) ∧ w' = w := by
  rcases Img.blocks b with h | ⟨k, hk, rfl⟩ | ⟨d, hd, rfl⟩ | ⟨x, hx, rfl⟩
  · obtain ⟨e1, e2⟩ := kind_out h
    rw [e1, e2]
    clear e1 e2
    have hb : b < 0 ∨ 14 ≤ b := by
      simp [Img.inB] at h
      omega
    clear h
    by_cases h0 : b < 0
    · clear hb
      go_enter Tryz.func81, Tryz.ntmps81
      go_wp2
      go_ret2
      exact ⟨rfl, rfl⟩
    · have h1 : 14 ≤ b := by omega
      clear hb
      go_enter Tryz.func81, Tryz.ntmps81
      go_wp2
      go_ret2
      exact ⟨rfl, rfl⟩
  · obtain ⟨e1, e2⟩ := kind_ino hk
    rw [e1, e2]
    clear e1 e2
    go_enter Tryz.func81, Tryz.ntmps81
    go_wp2
    go_ret2
    exact ⟨rfl, rfl⟩
  · obtain ⟨e1, e2⟩ := kind_dir hd
    rw [e1, e2]
    clear e1 e2
    go_enter Tryz.func81, Tryz.ntmps81
    go_wp2
    go_ret2
    exact ⟨by go_num, rfl⟩
  · obtain ⟨e1, e2⟩ := kind_data hx
    rw [e1, e2]
    clear e1 e2
    go_enter Tryz.func81, Tryz.ntmps81
    go_wp2
    go_ret2
    exact ⟨by go_num, rfl⟩
end Go.Proofs.YtmbpckmpnnmnmabGreat
