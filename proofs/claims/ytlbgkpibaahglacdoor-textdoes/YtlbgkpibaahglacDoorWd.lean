/-
  The walks of image.checkSlot (joined), stampTwice, dataTwice.
-/
import Derived.Test.YtlbgkpibaahglacDoorWc
namespace Go.Proofs.YtlbgkpibaahglacDoor
open Go.RowKit
theorem drewNN (w : World) (a b : Nat) : (w.drewN a).drewN b = w.drewN (a + b) := by simp [World.drewN, Nat.add_assoc]
def tw (m : Img) (n k : Nat) : Bool := m.live n && m.live k && m.stamp n == m.stamp k
theorem forall_succ {p : Nat → Prop} {k : Nat} (h : ∀ j, j < k → p j) (hk : p k) : ∀ j, j < k + 1 → p j := fun j hj => by
  by_cases e : j = k
  · subst e; exact hk
  · exact h j (by omega)
/-- a part that was met -/
def dup (m : Img) (t : Nat) : Bool := Img.isD (m.pa t) && Img.anyB (fun u => m.pa u == m.pa t) t
/-- 'held' behind t parts -/
structure Held (w : World) (m : Img) (t : Nat) (wr : World) : Prop where
  below : Below w.heap.size w wr
  size : w.heap.size < wr.heap.size
  cell : ∀ x : Nat, x < 9 → wr.cell? ⟨w.heap.size, x, none⟩ = some (.bool (Img.anyB (fun u => m.pa u == (x : Int)) t))
  frozen : ∀ x : Nat, wr.frozen? ⟨w.heap.size, x, none⟩ = false
theorem Held.skip {w : World} {m : Img} {t : Nat} {wr : World} (h : Held w m t wr) (hd : Img.isD (m.pa t) = false) : Held w m (t + 1) wr :=
  ⟨h.below, h.size, fun x hx => by
    have e : (m.pa t == (x : Int)) = false := by
      cases e : m.pa t == (x : Int)
      · rfl
      · have e2 : m.pa t = x := by simpa using e
        rw [e2] at hd; simp [Img.isD] at hd; omega
    rw [h.cell x hx]; unfold Img.anyB; rw [e, Bool.or_false]; cases t <;> rfl, h.frozen⟩
theorem Held.put {w : World} {m : Img} {t : Nat} {wr : World} (h : Held w m t wr) {k : Nat} (hk : k < 9) (hp : m.pa t = k) : Held w m (t + 1) (wr.setCell ⟨w.heap.size, k, none⟩ (.bool true)) := by
  refine ⟨h.below.setCell (Nat.le_refl _) _, by simpa using h.size, fun x hx => ?_, fun x => by simpa using h.frozen x⟩
  have en : ∀ x : Nat, Img.anyB (fun u => m.pa u == (x : Int)) (t + 1) = (Img.anyB (fun u => m.pa u == (x : Int)) t || (m.pa t == (x : Int))) := fun _ => rfl
  by_cases e : k = x
  · subst e
    rw [World.cell?_setCell_same _ _ _ (h.cell k hk), en, hp]; simp
  · rw [World.cell?_setCell_other _ _ _ _ (fun x => e (by injection x)), h.cell x hx, en, hp]
    have : ((k : Int) == (x : Int)) = false := by simp; omega
    rw [this, Bool.or_false]
theorem pa_live {m : Img} {n p : Nat} (hp : p < 2) (h : m.live n = true) : m.pa (2 * n + p) = m.part n p := by
  unfold Img.pa
  rw [show (2 * n + p) / 2 = n by omega, show (2 * n + p) % 2 = p by omega, h]; rfl
theorem pa_dead {m : Img} {n p : Nat} (hp : p < 2) (h : m.live n = false) : m.pa (2 * n + p) = -1 := by
  unfold Img.pa
  rw [show (2 * n + p) / 2 = n by omega, h]; rfl
theorem Held.dead {w : World} {m : Img} {n : Nat} {wr : World} (h : Held w m (2 * n) wr) (hl : m.live n = false) : Held w m (2 * (n + 1)) wr := by
  have h1 := h.skip (by have := pa_dead (p := 0) (by omega) hl; rw [Nat.add_zero] at this; rw [this]; rfl)
  exact h1.skip (by rw [pa_dead (p := 1) (by omega) hl]; rfl)
theorem dup_dead {m : Img} {n p : Nat} (hp : p < 2) (h : m.live n = false) : dup m (2 * n + p) = false := by unfold dup; rw [pa_dead hp h]; rfl
theorem dups_dead {m : Img} {n : Nat} (h : m.live n = false) (ha : ∀ j, j < 2 * n → dup m j = false) : ∀ j, j < 2 * (n + 1) → dup m j = false := fun j hj => by
  by_cases e : j < 2 * n
  · exact ha j e
  · have := dup_dead (m := m) (n := n) (p := j - 2 * n) (by omega) h
    rwa [show 2 * n + (j - 2 * n) = j by omega] at this
theorem idx2 (f : Nat → Int) (p : Nat) (hp : p < 2) (w : World) : (Instr.index 22 (.agg #[.int .i64 (f 0), .int .i64 (f 1)]) (.int .i64 (p : Int))).run Tryd.prog w = .ok (.int .i64 (f p)) w :=
  match p, hp with
  | 0, _ => by kernel_rfl
  | 1, _ => by kernel_rfl
theorem held0 (w : World) (m : Img) : Held w m 0 (w.alloc (.cells #[.bool false, .bool false, .bool false, .bool false, .bool false, .bool false, .bool false, .bool false, .bool false] 0)) := by
  refine ⟨(Below.refl _ _).alloc (Nat.le_refl _) _, by simp, fun x hx => ?_, fun x => by simp⟩
  match x, hx with
  | 0, _ => simp [Img.anyB]
  | 1, _ => simp [Img.anyB]
  | 2, _ => simp [Img.anyB]
  | 3, _ => simp [Img.anyB]
  | 4, _ => simp [Img.anyB]
  | 5, _ => simp [Img.anyB]
  | 6, _ => simp [Img.anyB]
  | 7, _ => simp [Img.anyB]
  | 8, _ => simp [Img.anyB]
end Go.Proofs.YtlbgkpibaahglacDoor
