/-
  The walk of eiderdownref.InodeAs.
-/
import Derived.Test.YtlbgkpibaahgladDoorQTn
namespace Go.Proofs.YtlbgkpibaahgladDoor
open Go.RowKit
structure PRow (m k : Img) (n p : Nat) (c : Array Value) : Prop where
  size : c.size = 5
  c0 : c[0]? = some (.bool true)
  c1 : c[1]? = some (.int .i64 (m.stamp n))
  c2 : c[2]? = some (.int .i64 (Img.uni m k n : Nat))
  part : ∀ q, q < 2 → c[3 + q]? = some (.int .i64 (if q < p then Img.partAs m k n q else m.part n q))
theorem PRow.put {m k : Img} {n p : Nat} {c : Array Value} (h : PRow m k n p c) (hp : p < 2) : PRow m k n (p + 1) (c.setIfInBounds (3 + p) (.int .i64 (Img.partAs m k n p))) := by
  have hs := h.size
  refine ⟨by simp [hs], ?_, ?_, ?_, fun q hq => ?_⟩
  · rw [Array.getElem?_setIfInBounds, if_neg (by omega)]; exact h.c0
  · rw [Array.getElem?_setIfInBounds, if_neg (by omega)]; exact h.c1
  · rw [Array.getElem?_setIfInBounds, if_neg (by omega)]; exact h.c2
  · rw [Array.getElem?_setIfInBounds]
    by_cases e : p = q
    · subst e; rw [if_pos rfl, if_pos (by omega), if_pos (by omega)]
    · rw [if_neg (by omega), h.part q hq]
      by_cases e2 : q < p
      · rw [if_pos e2, if_pos (by omega)]
      · rw [if_neg e2, if_neg (by omega)]
theorem PRow.keep {m k : Img} {n p : Nat} {c : Array Value} (h : PRow m k n p c) (e : Img.partAs m k n p = m.part n p) : PRow m k n (p + 1) c := by
  refine ⟨h.size, h.c0, h.c1, h.c2, fun q hq => ?_⟩
  rw [h.part q hq]
  by_cases e1 : q = p
  · subst e1; rw [if_neg (by omega), if_pos (by omega), e]
  · by_cases e2 : q < p
    · rw [if_pos e2, if_pos (by omega)]
    · rw [if_neg e2, if_neg (by omega)]
theorem PRow.start (m k : Img) (n : Nat) : PRow m k n 0 #[.bool true, .int .i64 (m.stamp n), .int .i64 (Img.uni m k n : Nat), .int .i64 (m.part n 0), .int .i64 (m.part n 1)] := by
  refine ⟨rfl, rfl, rfl, rfl, fun q hq => ?_⟩
  match q, hq with
  | 0, _ => rfl
  | 1, _ => rfl
theorem PRow.done {m k : Img} {n : Nat} {c : Array Value} (h : PRow m k n 2 c) : c = #[.bool true, .int .i64 (m.stamp n), .int .i64 (Img.uni m k n : Nat), .int .i64 (Img.partAs m k n 0), .int .i64 (Img.partAs m k n 1)] := by
  refine Array.ext_getElem? fun j => ?_
  by_cases hj : j < 5
  · match j, hj with
    | 0, _ => exact h.c0
    | 1, _ => exact h.c1
    | 2, _ => exact h.c2
    | 3, _ => exact (h.part 0 (by omega)).trans rfl
    | 4, _ => exact (h.part 1 (by omega)).trans rfl
  · rw [Array.getElem?_eq_none (by rw [h.size]; omega), Array.getElem?_eq_none (by simp; omega)]
end Go.Proofs.YtlbgkpibaahgladDoor
