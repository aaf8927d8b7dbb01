/-
  Plain laws of images. No Go in here.
-/
import Derived.Test.YtlbgkpibaahglacDoorImg
namespace Go.Proofs.YtlbgkpibaahglacDoor
namespace Img
variable {m : Img}
structure Well (m : Img) : Prop where
  slot : ∀ d s, d < 3 → s < 4 → m.checkSlot d s = 0
  inode : ∀ n, n < 8 → m.checkInode n = 0
  stamps : m.stampTwice = false
  datas : m.dataTwice = false
theorem well_iff : m.check = 0 ↔ Well m := by
  constructor
  · intro h
    unfold check at h
    by_cases h1 : firstNZ (fun d => firstNZ (fun s => m.checkSlot d s) 4) 3 = 0
    · rw [if_neg (by rw [h1]; simp)] at h
      by_cases h2 : firstNZ (fun n => m.checkInode n) 8 = 0
      · rw [if_neg (by rw [h2]; simp)] at h
        have h3 : (m.stampTwice || m.dataTwice) = false := by
          cases h3 : (m.stampTwice || m.dataTwice)
          · rfl
          · rw [h3] at h; simp at h
        rw [Bool.or_eq_false_iff] at h3
        exact ⟨fun d s hd hs => firstNZ_eq_zero (firstNZ_eq_zero h1 d hd) s hs, fun n hn => firstNZ_eq_zero h2 n hn, h3.1, h3.2⟩
      · rw [if_pos h2] at h; exact absurd h h2
    · rw [if_pos h1] at h; exact absurd h h1
  · intro h
    have h1 : firstNZ (fun d => firstNZ (fun s => m.checkSlot d s) 4) 3 = 0 := firstNZ_zero fun d hd => firstNZ_zero fun s hs => h.slot d s hd hs
    have h2 : firstNZ (fun n => m.checkInode n) 8 = 0 := firstNZ_zero fun n hn => h.inode n hn
    unfold check
    rw [h1, h2, h.stamps, h.datas]; rfl
/-- what a slot that may be mended says -/
structure SlotOk (m : Img) (d s : Nat) : Prop where
  nm : isNmB (m.name d s).toList = true
  first : (s : Int) ≤ m.find d (m.name d s).toList
  lo : 0 ≤ m.ino d s
  hi : m.ino d s < 8
  live : m.live (m.ino d s).toNat = true
  stamp : m.stamp (m.ino d s).toNat = m.est d s
theorem slot_ok {d s : Nat} (hn : m.named d s = true) : m.checkSlot d s = 0 ↔ SlotOk m d s := by
  unfold checkSlot
  rw [if_neg (by rw [hn]; simp)]
  constructor
  · intro h
    by_cases h1 : isNmB (m.name d s).toList = false
    · rw [if_pos h1] at h; simp at h
    rw [if_neg h1] at h
    by_cases h2 : m.find d (m.name d s).toList < s
    · rw [if_pos h2] at h; simp at h
    rw [if_neg h2] at h
    by_cases h3 : isI (m.ino d s) = false
    · rw [if_pos h3] at h; simp at h
    rw [if_neg h3] at h
    by_cases h4 : m.live (m.ino d s).toNat = false ∨ m.stamp (m.ino d s).toNat ≠ m.est d s
    · rw [if_pos h4] at h; simp at h
    have h3' : isI (m.ino d s) = true := by simpa using h3
    have hb : 0 ≤ m.ino d s ∧ m.ino d s < 8 := by simpa [isI] using h3'
    refine ⟨by simpa using h1, by omega, hb.1, hb.2, ?_, ?_⟩
    · cases e : m.live (m.ino d s).toNat
      · exact absurd (.inl e) h4
      · rfl
    · by_cases e : m.stamp (m.ino d s).toNat = m.est d s
      · exact e
      · exact absurd (.inr e) h4
  · intro h
    have h3 : isI (m.ino d s) = true := by simp [isI, h.lo, h.hi]
    rw [if_neg (by rw [h.nm]; simp), if_neg (by have := h.first; omega), if_neg (by rw [h3]; simp), if_neg]
    rintro (e | e)
    · rw [h.live] at e; cases e
    · exact e h.stamp
theorem find_le {d s : Nat} (hs : s < 4) : m.find d (m.name d s).toList ≤ s := by
  unfold find
  rcases firstI_cases (fun s' => (m.name d s').toList == (m.name d s).toList) 4 with ⟨_, h2⟩ | ⟨k, hk, h1, h2, h3⟩
  · have := h2 s hs; simp at this
  · rw [h1]
    by_cases e : s < k
    · have := h3 s e; simp at this
    · omega
theorem find_self {d s : Nat} (h : m.check = 0) (hd : d < 3) (hs : s < 4) (hn : m.named d s = true) : m.find d (m.name d s).toList = s := by
  have h1 := ((slot_ok hn).1 ((well_iff.1 h).slot d s hd hs)).first
  have h2 := find_le (m := m) (d := d) hs
  omega
end Img
end Go.Proofs.YtlbgkpibaahglacDoor
