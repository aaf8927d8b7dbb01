/-
  An image in memory, from some place of a block on; the walk of eiderdownref.Held.
-/
import Derived.Test.YtlbgkpibaahgladDoorQTr
namespace Go.Proofs.YtlbgkpibaahgladDoor
open Go.RowKit
structure HasAt (w : World) (b o : Nat) (m : Img) : Prop where
  lt : b < w.heap.size
  live : ∀ n : Nat, n < 8 → w.cell? ⟨b, o + n * 5, none⟩ = some (.bool (m.live n))
  stamp : ∀ n : Nat, n < 8 → w.cell? ⟨b, o + n * 5 + 1, none⟩ = some (.int .i64 (m.stamp n))
  links : ∀ n : Nat, n < 8 → w.cell? ⟨b, o + n * 5 + 2, none⟩ = some (.int .i64 (m.links n))
  part : ∀ n p : Nat, n < 8 → p < 2 → w.cell? ⟨b, o + n * 5 + 3 + p, none⟩ = some (.int .i64 (m.part n p))
  name : ∀ d s : Nat, d < 3 → s < 4 → w.cell? ⟨b, o + 40 + d * 12 + s * 3, none⟩ = some (.string (m.name d s))
  ino : ∀ d s : Nat, d < 3 → s < 4 → w.cell? ⟨b, o + 40 + d * 12 + s * 3 + 1, none⟩ = some (.int .i64 (m.ino d s))
  est : ∀ d s : Nat, d < 3 → s < 4 → w.cell? ⟨b, o + 40 + d * 12 + s * 3 + 2, none⟩ = some (.int .i64 (m.est d s))
  of : ∀ x : Nat, x < 9 → w.cell? ⟨b, o + 76 + x * 2, none⟩ = some (.int .i64 (m.of x))
  text : ∀ x : Nat, x < 9 → w.cell? ⟨b, o + 76 + x * 2 + 1, none⟩ = some (.string (m.text x))
  small : ∀ d s : Nat, (m.name d s).size ≤ maxLen
  short : ∀ x : Nat, (m.text x).size ≤ maxLen
theorem HasAt.below {w w' : World} {b o : Nat} {m : Img} {B : Nat} (h : HasAt w b o m) (hb : Below B w w') (hB : b < B) : HasAt w' b o m := by
  have hc : ∀ o, w'.cell? ⟨b, o, none⟩ = w.cell? ⟨b, o, none⟩ := fun o => hb.cell (p := ⟨b, o, none⟩) hB
  have hs := hb.size
  have hl := h.lt
  exact ⟨by omega, fun n h1 => by rw [hc]; exact h.live n h1, fun n h1 => by rw [hc]; exact h.stamp n h1, fun n h1 => by rw [hc]; exact h.links n h1,
    fun n p h1 h2 => by rw [hc]; exact h.part n p h1 h2, fun d s h1 h2 => by rw [hc]; exact h.name d s h1 h2, fun d s h1 h2 => by rw [hc]; exact h.ino d s h1 h2,
    fun d s h1 h2 => by rw [hc]; exact h.est d s h1 h2, fun x h1 => by rw [hc]; exact h.of x h1, fun x h1 => by rw [hc]; exact h.text x h1, h.small, h.short⟩
theorem HasImg.at {w : World} {b : Nat} {m : Img} (h : HasImg w b m) : HasAt w b 0 m :=
  ⟨h.lt, fun n h1 => by rw [Nat.zero_add]; exact h.live n h1, fun n h1 => by rw [Nat.zero_add]; exact h.stamp n h1, fun n h1 => by rw [Nat.zero_add]; exact h.links n h1,
    fun n p h1 h2 => by rw [Nat.zero_add]; exact h.part n p h1 h2, fun d s h1 h2 => by rw [Nat.zero_add]; exact h.name d s h1 h2, fun d s h1 h2 => by rw [Nat.zero_add]; exact h.ino d s h1 h2,
    fun d s h1 h2 => by rw [Nat.zero_add]; exact h.est d s h1 h2, fun x h1 => by rw [Nat.zero_add]; exact h.of x h1, fun x h1 => by rw [Nat.zero_add]; exact h.text x h1, h.small, h.short⟩
/-- a part of a live inode is x -/
def Img.held (m : Img) (x : Int) : Bool := Img.anyB (fun n => m.live n && m.hasPart n x) 8
theorem Img.held_isD {m : Img} {x : Nat} (h : x < 9) : m.held x = m.holds x := by
  unfold Img.held Img.holds
  rw [show Img.isD (x : Int) = true by simp [Img.isD]; omega]; rfl
end Go.Proofs.YtlbgkpibaahgladDoor
