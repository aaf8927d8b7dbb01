/-
  The walk of eiderdownlaw.fit.
-/
import Derived.Test.YtgipceeheohafaaUa
import Derived.RegionTactic
import Derived.BigRegion
import Derived.BigQuiet
import Derived.ChangeAlike
import Derived.Deep.DeepCutAuto
import Derived.Deep.Cut
import Derived.Deep.CutRange
namespace Go.Proofs.Ytgipceeheohafaa
open Go.RowKit
def inoC (m : Img) (n : Nat) : Array Value := #[.bool (m.live n), .int .i64 (m.stamp n), .int .i64 (m.links n), .int .i64 (m.part n 0), .int .i64 (m.part n 1)]
structure InoPair (w X : World) (g1 g2 : Nat) (m k : Img) (n : Nat) : Prop where
  below : Below w.heap.size w X
  b1 : X.heap[g1]? = some (.cells (inoC m n) 24)
  b2 : X.heap[g2]? = some (.cells (inoC k n) 24)
theorem InoPair.ab {w wr : World} (h : Below w.heap.size w wr) (m k : Img) (n : Nat) : InoPair w (((wr.alloc (.cells (inoC m n) 24)).alloc (.cells (inoC k n) 24)).drew) wr.heap.size (wr.heap.size + 1) m k n :=
  ⟨((h.alloc h.size _).alloc (by have := h.size; simp; omega) _).drew, heap_alloc2_old wr _ _, heap_alloc2_new wr _ _⟩
theorem InoPair.ba {w wr : World} (h : Below w.heap.size w wr) (m k : Img) (n : Nat) : InoPair w (((wr.alloc (.cells (inoC k n) 24)).alloc (.cells (inoC m n) 24)).drew) (wr.heap.size + 1) wr.heap.size m k n :=
  ⟨((h.alloc h.size _).alloc (by have := h.size; simp; omega) _).drew, heap_alloc2_new wr _ _, heap_alloc2_old wr _ _⟩
theorem InoPair.draw {w X : World} {g1 g2 : Nat} {m k : Img} {n : Nat} (h : InoPair w X g1 g2 m k n) (q : Nat) : InoPair w (X.drewN q) g1 g2 m k n := ⟨belowN h.below, h.b1, h.b2⟩
structure InoCells (X : World) (g : Nat) (m : Img) (n : Nat) : Prop where
  live : X.cell? ⟨g, 0, none⟩ = some (.bool (m.live n))
  stamp : X.cell? ⟨g, 1, none⟩ = some (.int .i64 (m.stamp n))
  part : ∀ p, p < 2 → X.cell? ⟨g, 3 + p, none⟩ = some (.int .i64 (m.part n p))
theorem inoCells {X : World} {g : Nat} {m : Img} {n : Nat} (h : X.heap[g]? = some (.cells (inoC m n) 24)) : InoCells X g m n := by
  refine ⟨by rw [cell_of_row _ _ _ _ _ _ h]; rfl, by rw [cell_of_row _ _ _ _ _ _ h]; rfl, fun p hp => ?_⟩
  rw [cell_of_row _ _ _ _ _ _ h]
  match p, hp with
  | 0, _ => rfl
  | 1, _ => rfl
structure EntPair (w X : World) (g1 g2 : Nat) (m k : Img) (d s : Nat) : Prop where
  below : Below w.heap.size w X
  b1 : X.heap[g1]? = some (.cells #[.string (m.name d s), .int .i64 (m.ino d s), .int .i64 (m.est d s)] 27)
  b2 : X.heap[g2]? = some (.cells #[.string (k.name d s), .int .i64 (k.ino d s), .int .i64 (k.est d s)] 27)
theorem EntPair.ab {w wr : World} (h : Below w.heap.size w wr) (m k : Img) (d s : Nat) : EntPair w (((wr.alloc (.cells #[.string (m.name d s), .int .i64 (m.ino d s), .int .i64 (m.est d s)] 27)).alloc (.cells #[.string (k.name d s), .int .i64 (k.ino d s), .int .i64 (k.est d s)] 27)).drew) wr.heap.size (wr.heap.size + 1) m k d s :=
  ⟨((h.alloc h.size _).alloc (by have := h.size; simp; omega) _).drew, heap_alloc2_old wr _ _, heap_alloc2_new wr _ _⟩
theorem EntPair.ba {w wr : World} (h : Below w.heap.size w wr) (m k : Img) (d s : Nat) : EntPair w (((wr.alloc (.cells #[.string (k.name d s), .int .i64 (k.ino d s), .int .i64 (k.est d s)] 27)).alloc (.cells #[.string (m.name d s), .int .i64 (m.ino d s), .int .i64 (m.est d s)] 27)).drew) (wr.heap.size + 1) wr.heap.size m k d s :=
  ⟨((h.alloc h.size _).alloc (by have := h.size; simp; omega) _).drew, heap_alloc2_new wr _ _, heap_alloc2_old wr _ _⟩
theorem EntPair.draw {w X : World} {g1 g2 : Nat} {m k : Img} {d s : Nat} (h : EntPair w X g1 g2 m k d s) (q : Nat) : EntPair w (X.drewN q) g1 g2 m k d s := ⟨belowN h.below, h.b1, h.b2⟩
theorem entCells {X : World} {g : Nat} {n : ByteArray} {i s : Int} (h : X.heap[g]? = some (.cells #[.string n, .int .i64 i, .int .i64 s] 27)) : X.cell? ⟨g, 0, none⟩ = some (.string n) ∧ X.cell? ⟨g, 1, none⟩ = some (.int .i64 i) ∧ X.cell? ⟨g, 2, none⟩ = some (.int .i64 s) :=
  ⟨by rw [cell_of_row _ _ _ _ _ _ h]; rfl, by rw [cell_of_row _ _ _ _ _ _ h]; rfl, by rw [cell_of_row _ _ _ _ _ _ h]; rfl⟩
/-- what fit asks of an inode, of a data, of a slot -/
def FitB (m k : Img) (n j : Nat) : Prop := j ≠ n → m.live n = true → k.live j = true → k.stamp j ≠ m.stamp n
def FitC (m k : Img) (n p j q : Nat) : Prop := m.live n = true → 0 ≤ m.part n p → k.live j = true → k.part j q = m.part n p → j = n ∧ q = p ∧ k.stamp j = m.stamp n
structure FitN (m k : Img) (n : Nat) : Prop where
  other : m.live n = true → k.live n = true → m.stamp n ≠ k.stamp n → k.refs n = 0
  stamp : ∀ j, j < 8 → FitB m k n j
  data : ∀ p, p < 2 → ∀ j, j < 8 → ∀ q, q < 2 → FitC m k n p j q
def FitX (m k : Img) (x : Nat) : Prop := k.held x = true → m.of x = k.of x
structure FitS (m k : Img) (d s : Nat) : Prop where
  slot : m.named d s = true → k.named d s = true → Img.sameEnt m k d s = true
  name : ∀ t, t < 4 → t ≠ s → m.named d s = true → (k.name d t).toList ≠ (m.name d s).toList
theorem fit_of {m k : Img} (h1 : ∀ n, n < 8 → FitN m k n) (h2 : ∀ x, x < 9 → FitX m k x) (h3 : ∀ d, d < 3 → ∀ s, s < 4 → FitS m k d s) : Img.Fit m k := by
  refine ⟨fun n hn => (h1 n hn).other, fun n j hn hj he => (h1 n hn).stamp j hj he, fun n p j q hn hp hj hq => (h1 n hn).data p hp j hj q hq, fun x n p hx hn hp hl he => h2 x hx ?_, fun d s hd hs => (h3 d hd s hs).slot, fun d s t hd hs ht => (h3 d hd s hs).name t ht⟩
  unfold Img.held
  refine Img.anyB_true hn ?_
  rw [hl]
  unfold Img.hasPart
  match p, hp with
  | 0, _ => simp [he]
  | 1, _ => simp [he]
/-- what fit answers -/
def FitIs (m k : Img) (e : Ending) : Prop := ∃ v, e = .returned (.bool v) ∧ (v = true → Img.Fit m k)
theorem fitNo (m k : Img) : FitIs m k (.returned (.bool false)) := ⟨false, rfl, fun h => by cases h⟩
theorem all_succ {p : Nat → Prop} {n : Nat} (h : ∀ j, j < n → p j) (hn : p n) : ∀ j, j < n + 1 → p j := fun j hj => by
  by_cases e : j = n
  · subst e; exact hn
  · exact h j (by omega)
def FitT (m k : Img) (d s t : Nat) : Prop := t ≠ s → m.named d s = true → (k.name d t).toList ≠ (m.name d s).toList
theorem fitS {m k : Img} {d s : Nat} (h : false = (m.named d s && k.named d s && !Img.sameEnt m k d s)) : m.named d s = true → k.named d s = true → Img.sameEnt m k d s = true := fun z1 z2 => by
  rw [z1, z2] at h
  cases e : Img.sameEnt m k d s
  · rw [e] at h; simp at h
  · rfl
theorem fitA {m k : Img} {n : Nat} (h : false = (m.live n && k.live n && !(m.stamp n == k.stamp n) && decide (0 < k.refs n))) : m.live n = true → k.live n = true → m.stamp n ≠ k.stamp n → k.refs n = 0 := fun z1 z2 z3 => by
  rw [z1, z2, show (m.stamp n == k.stamp n) = false by simpa using z3] at h
  by_cases e : 0 < k.refs (n : Int)
  · simp [e] at h
  · omega
end Go.Proofs.Ytgipceeheohafaa
