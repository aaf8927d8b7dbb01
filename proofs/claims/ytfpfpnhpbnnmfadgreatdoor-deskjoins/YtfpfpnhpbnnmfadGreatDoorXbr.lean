/-
  Names that are listed. (Written by genek.py.)
-/
import Derived.Test.YtfpfpnhpbnnmfadGreatDoorXbc
namespace Go.Proofs.YtfpfpnhpbnnmfadGreatDoor
open Go.RowKit
open Idl (Stp chk stpA)
namespace Sft
/-- a name that is listed -/
theorem snames_at {m : Img} (hm : m.check = 0) {d : Nat} (hd : d < 3) {nm : ByteArray} (h : nm ∈ Img.snames m (d : Int)) : ∃ s, s < 4 ∧ m.named d s = true ∧ m.name d s = nm := by
  unfold Img.snames at h
  rw [if_pos (by omega), Int.toNat_natCast] at h
  exact Img.rawN_mem.1 ((sortN_mem (Img.rawN_nodup hm hd (Nat.le_refl 4)) nm).1 h)
theorem snames_len (m : Img) (hm : m.check = 0) {d : Nat} (hd : d < 3) : (Img.snames m (d : Int)).length ≤ 4 := by
  unfold Img.snames
  rw [if_pos (by omega), Int.toNat_natCast, sortN_len (Img.rawN_nodup hm hd (Nat.le_refl 4))]
  exact Img.rawN_len m d 4
theorem snames_find {m : Img} (hm : m.check = 0) {d : Nat} (hd : d < 3) {nm : ByteArray} (h : nm ∈ Img.snames m (d : Int)) : (∃ s : Nat, m.findAt (d : Int) nm.toList = (s : Int)) ∧ Img.isNmB nm.toList = true := by
  obtain ⟨s, hs, hn, rfl⟩ := snames_at hm hd h
  have ok := (Img.slot_ok hn).1 ((Img.well_iff.1 hm).slot d s hd hs)
  refine ⟨⟨s, ?_⟩, ok.nm⟩
  exact Img.find_at hm (d := (d : Int)) (by omega) hs (Img.nm_ne ok.nm) (by rw [Int.toNat_natCast])
end Sft
end Go.Proofs.YtfpfpnhpbnnmfadGreatDoor
