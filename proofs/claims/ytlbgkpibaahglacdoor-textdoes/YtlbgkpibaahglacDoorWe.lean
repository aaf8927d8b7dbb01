/-
  The walk of image.checkInode.
-/
import Derived.Test.YtlbgkpibaahglacDoorWd
import Derived.Deep.RegionWith
namespace Go.Proofs.YtlbgkpibaahglacDoor
open Go.RowKit
theorem eqParts (a b c e : Int) (w : World) : (Op.equalIn 9999 22 (.agg #[.int .i64 a, .int .i64 b]) (.agg #[.int .i64 c, .int .i64 e])).run Tryd.prog w = .ok (a == c && b == e) w := by
  have u3 := Tryd.underlying3
  have a3 := Tryd.isAgg3
  have z3 := Tryd.sizeOf3
  rw [show (9999 : Nat) = 9998 + 1 from rfl, Op.equalIn]
  simp only [Sem.run_bind, run_underlying Tryd.underlying22, Result.andThen_ok]
  simp only [Std.Legacy.Range.forIn_eq_forIn_range', Std.Legacy.Range.size, Nat.sub_zero, Nat.add_sub_cancel, Nat.div_one, List.range'_succ, List.range'_zero, List.forIn_cons, List.forIn_nil]
  go_simp
  by_cases h1 : a = c <;> by_cases h2 : b = e <;> simp [h1, h2]
theorem free_cases (m : Img) (n : Nat) (c : Int) (h : c = if m.free n then 0 else 12) :
    ((m.stamp n == 0) = false ∧ Hid (c = 12)) ∨ ((m.stamp n == 0) = true ∧ (m.links n == 0) = false ∧ Hid (c = 12)) ∨ ((m.stamp n == 0) = true ∧ (m.links n == 0) = true ∧ (m.part n 0 == -1) = false ∧ Hid (c = 12)) ∨
    ((m.stamp n == 0) = true ∧ (m.links n == 0) = true ∧ (m.part n 0 == -1) = true ∧ (m.part n 1 == -1) = false ∧ Hid (c = 12)) ∨
    ((m.stamp n == 0) = true ∧ (m.links n == 0) = true ∧ (m.part n 0 == -1) = true ∧ (m.part n 1 == -1) = true ∧ Hid (c = 0)) := by
  unfold Hid
  by_cases h1 : m.stamp n = 0
  · by_cases h2 : m.links n = 0
    · by_cases h3 : m.part n 0 = -1
      · by_cases h4 : m.part n 1 = -1
        · rw [if_pos ⟨h1, h2, h3, h4⟩] at h
          simp [h1, h2, h3, h4, h]
        · rw [if_neg (fun x => h4 x.2.2.2)] at h
          simp [h1, h2, h3, h4, h]
      · rw [if_neg (fun x => h3 x.2.2.1)] at h
        simp [h1, h2, h3, h]
    · rw [if_neg (fun x => h2 x.2.1)] at h
      simp [h1, h2, h]
  · rw [if_neg (fun x => h1 x.1)] at h
    simp [h1, h]
end Go.Proofs.YtlbgkpibaahglacDoor
