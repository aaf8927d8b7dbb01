/-
  The walk of eiderdownlaw.imageBegun.
-/
import Derived.Test.YtmbpckmpnnmnmabGreatQWl
namespace Go.Proofs.YtmbpckmpnnmnmabGreat
open Go.RowKit
theorem has_of_row {w : World} {g : Nat} {cs : Array Value} {m : Img} (hg : w.heap[g]? = some (.cells cs 34)) (h : IsImg cs m) : HasImg w g m := by
  have hlt : g < w.heap.size := (Array.getElem?_eq_some_iff.1 hg).1
  have hc : ∀ i, w.cell? ⟨g, i, none⟩ = cs[i]? := fun i => cell_of_row _ _ _ _ _ _ hg
  exact ⟨hlt, fun n h1 => by rw [hc]; exact h.live n h1, fun n h1 => by rw [hc]; exact h.stamp n h1, fun n h1 => by rw [hc]; exact h.links n h1,
    fun n p h1 h2 => by rw [hc]; exact h.part n p h1 h2, fun d s h1 h2 => by rw [hc]; exact h.name d s h1 h2, fun d s h1 h2 => by rw [hc]; exact h.ino d s h1 h2,
    fun d s h1 h2 => by rw [hc]; exact h.est d s h1 h2, fun x h1 => by rw [hc]; exact h.of x h1, fun x h1 => by rw [hc]; exact h.text x h1, h.small, h.short⟩
end Go.Proofs.YtmbpckmpnnmnmabGreat
