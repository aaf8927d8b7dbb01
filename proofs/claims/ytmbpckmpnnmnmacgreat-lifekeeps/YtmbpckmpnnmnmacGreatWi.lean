/-
  An image as a value; the walk of eiderdownref.Great.
-/
import Derived.Test.YtmbpckmpnnmnmacGreatWh
import Derived.Deep.WholeRow
namespace Go.Proofs.YtmbpckmpnnmnmacGreat
open Go.RowKit
structure IsImg (cs : Array Value) (m : Img) : Prop where
  size : cs.size = 94
  live : ∀ n : Nat, n < 8 → cs[n * 5]? = some (.bool (m.live n))
  stamp : ∀ n : Nat, n < 8 → cs[n * 5 + 1]? = some (.int .i64 (m.stamp n))
  links : ∀ n : Nat, n < 8 → cs[n * 5 + 2]? = some (.int .i64 (m.links n))
  part : ∀ n p : Nat, n < 8 → p < 2 → cs[n * 5 + 3 + p]? = some (.int .i64 (m.part n p))
  name : ∀ d s : Nat, d < 3 → s < 4 → cs[40 + d * 12 + s * 3]? = some (.string (m.name d s))
  ino : ∀ d s : Nat, d < 3 → s < 4 → cs[40 + d * 12 + s * 3 + 1]? = some (.int .i64 (m.ino d s))
  est : ∀ d s : Nat, d < 3 → s < 4 → cs[40 + d * 12 + s * 3 + 2]? = some (.int .i64 (m.est d s))
  of : ∀ x : Nat, x < 9 → cs[76 + x * 2]? = some (.int .i64 (m.of x))
  text : ∀ x : Nat, x < 9 → cs[76 + x * 2 + 1]? = some (.string (m.text x))
  small : ∀ d s : Nat, (m.name d s).size ≤ maxLen
  short : ∀ x : Nat, (m.text x).size ≤ maxLen
theorem IsImg.has {cs : Array Value} {m : Img} (h : IsImg cs m) (w : World) (t : TypeId) : HasImg (w.alloc (.cells cs t)) w.heap.size m := by
  have hc : ∀ i, (w.alloc (.cells cs t)).cell? ⟨w.heap.size, i, none⟩ = cs[i]? := fun i => World.cell?_alloc_new w cs t i
  exact ⟨by simp, fun n h1 => by rw [hc]; exact h.live n h1, fun n h1 => by rw [hc]; exact h.stamp n h1, fun n h1 => by rw [hc]; exact h.links n h1,
    fun n p h1 h2 => by rw [hc]; exact h.part n p h1 h2, fun d s h1 h2 => by rw [hc]; exact h.name d s h1 h2, fun d s h1 h2 => by rw [hc]; exact h.ino d s h1 h2,
    fun d s h1 h2 => by rw [hc]; exact h.est d s h1 h2, fun x h1 => by rw [hc]; exact h.of x h1, fun x h1 => by rw [hc]; exact h.text x h1, h.small, h.short⟩
def SomeBool (e : Ending) : Prop := ∃ v, e = .returned (.bool v)
end Go.Proofs.YtmbpckmpnnmnmacGreat
