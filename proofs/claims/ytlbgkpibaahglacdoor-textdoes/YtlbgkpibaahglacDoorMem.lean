/-
  An image in memory: the cells of a block hold it.
-/
import Derived.Test.YtlbgkpibaahglacDoorRows
import Derived.Test.YtlbgkpibaahglacDoorImg
import Derived.WalkKit
import Derived.WalkSpells
import Derived.WalkLawsBesides
namespace Go.Proofs.YtlbgkpibaahglacDoor
open Go.RowKit
structure HasImg (w : World) (b : Nat) (m : Img) : Prop where
  lt : b < w.heap.size
  live : ∀ n : Nat, n < 8 → w.cell? ⟨b, n * 5, none⟩ = some (.bool (m.live n))
  stamp : ∀ n : Nat, n < 8 → w.cell? ⟨b, n * 5 + 1, none⟩ = some (.int .i64 (m.stamp n))
  links : ∀ n : Nat, n < 8 → w.cell? ⟨b, n * 5 + 2, none⟩ = some (.int .i64 (m.links n))
  part : ∀ n p : Nat, n < 8 → p < 2 → w.cell? ⟨b, n * 5 + 3 + p, none⟩ = some (.int .i64 (m.part n p))
  name : ∀ d s : Nat, d < 3 → s < 4 → w.cell? ⟨b, 40 + d * 12 + s * 3, none⟩ = some (.string (m.name d s))
  ino : ∀ d s : Nat, d < 3 → s < 4 → w.cell? ⟨b, 40 + d * 12 + s * 3 + 1, none⟩ = some (.int .i64 (m.ino d s))
  est : ∀ d s : Nat, d < 3 → s < 4 → w.cell? ⟨b, 40 + d * 12 + s * 3 + 2, none⟩ = some (.int .i64 (m.est d s))
  of : ∀ x : Nat, x < 9 → w.cell? ⟨b, 76 + x * 2, none⟩ = some (.int .i64 (m.of x))
  text : ∀ x : Nat, x < 9 → w.cell? ⟨b, 76 + x * 2 + 1, none⟩ = some (.string (m.text x))
  small : ∀ d s : Nat, (m.name d s).size ≤ maxLen
  short : ∀ x : Nat, (m.text x).size ≤ maxLen
theorem HasImg.below {w w' : World} {b : Nat} {m : Img} {B : Nat} (h : HasImg w b m) (hb : Below B w w') (hB : b < B) : HasImg w' b m := by
  have hc : ∀ o, w'.cell? ⟨b, o, none⟩ = w.cell? ⟨b, o, none⟩ := fun o => hb.cell (p := ⟨b, o, none⟩) hB
  have hs := hb.size
  have hl := h.lt
  exact ⟨by omega, fun n h1 => by rw [hc]; exact h.live n h1, fun n h1 => by rw [hc]; exact h.stamp n h1, fun n h1 => by rw [hc]; exact h.links n h1,
    fun n p h1 h2 => by rw [hc]; exact h.part n p h1 h2, fun d s h1 h2 => by rw [hc]; exact h.name d s h1 h2, fun d s h1 h2 => by rw [hc]; exact h.ino d s h1 h2,
    fun d s h1 h2 => by rw [hc]; exact h.est d s h1 h2, fun x h1 => by rw [hc]; exact h.of x h1, fun x h1 => by rw [hc]; exact h.text x h1, h.small, h.short⟩
theorem bcell {W w1 : World} (hb : Below W.heap.size W w1) : (∀ b o, b < W.heap.size → w1.cell? ⟨b, o, none⟩ = W.cell? ⟨b, o, none⟩) ∧ (∀ b o, b < W.heap.size → w1.frozen? ⟨b, o, none⟩ = W.frozen? ⟨b, o, none⟩) :=
  ⟨fun b o h => hb.cell (p := ⟨b, o, none⟩) h, fun b o h => hb.frozen (p := ⟨b, o, none⟩) h⟩
theorem hide {p : Prop} (h : p) : Hid p := h
theorem unhide {p : Prop} (h : Hid p) : p := h
theorem ret_int {k : IntKind} {a b : Int} (h : a = b) : Ending.returned (.int k a) = .returned (.int k b) := by rw [h]
theorem ret_bool {a b : Bool} (h : a = b) : Ending.returned (.bool a) = .returned (.bool b) := by rw [h]
end Go.Proofs.YtlbgkpibaahglacDoor
