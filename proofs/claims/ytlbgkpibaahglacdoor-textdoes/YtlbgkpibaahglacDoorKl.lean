/-
  An image that came in: its numbers are of 64 bits.
-/
import Derived.Test.YtlbgkpibaahglacDoorOp
import Derived.Test.YtlbgkpibaahglacDoorKg
namespace Go.Proofs.YtlbgkpibaahglacDoor
open Go.ChangeShapes Go.WideShapes Go.ChangeAt Go.RowKit
/-- numbers of 64 bits -/
structure Nums (m : Img) : Prop where
  stamp : ∀ n, n < 8 → I64 (m.stamp n)
  links : ∀ n, n < 8 → I64 (m.links n)
  part : ∀ n p, n < 8 → p < 2 → I64 (m.part n p)
  ino : ∀ d s, d < 3 → s < 4 → I64 (m.ino d s)
  est : ∀ d s, d < 3 → s < 4 → I64 (m.est d s)
  of : ∀ x, x < 9 → I64 (m.of x)
set_option maxRecDepth 100000 in
theorem ok_range {W : World} {r : Reach} {base : Nat} {v : Value} (h : Cell.okWide Tryd.prog W r base 3 v) : I64 (intOf v) := by
  simp only [Cell.okWide, Cell.ok, Tryd.underlying3] at h
  cases v <;> simp_all [I64, intOf]
  have h2 := h.2
  unfold IntKind.has at h2
  have e1 : IntKind.i64.min = -9223372036854775808 := rfl
  have e2 : IntKind.i64.max = 9223372036854775807 := rfl
  omega
set_option maxRecDepth 100000 in
theorem nums_of_ok {W : World} {r : Reach} {base : Nat} {cs : Array Value} (h : Value.okWide Tryd.prog W r base 34 (.agg cs)) : Nums (imgOf cs) := by
  simp only [Value.okWide, img_under] at h
  obtain ⟨cs', e, hs, ts, ht, _, hc⟩ := h
  injection e with e
  subst e
  rw [img_cells] at hs
  rw [img_types] at ht
  obtain rfl := (Option.some.inj ht).symm
  have key : ∀ i, i < 94 → Cell.okWide Tryd.prog W r base (tyAt i) (cs.getD i undef) := fun i hi => by
    have hg : cs[i]? = some (cs.getD i undef) := by
      have : i < cs.size := by rw [hs]; exact hi
      simp [Array.getD, this]
    obtain ⟨u, hu, hk⟩ := hc i _ hg
    rw [List.length_map, List.length_range, Nat.mod_eq_of_lt hi, List.getElem?_map, List.getElem?_range hi] at hu
    have : u = tyAt i := by simpa using hu.symm
    rw [← this]; exact hk
  have kI : ∀ i, i < 40 → i % 5 ≠ 0 → I64 (intOf (cs.getD i undef)) := fun i h1 h2 => by
    have k := key i (by omega)
    unfold tyAt at k
    rw [if_pos h1, if_neg h2] at k
    exact ok_range k
  have kE : ∀ i, 40 ≤ i → i < 76 → (i - 40) % 3 ≠ 0 → I64 (intOf (cs.getD i undef)) := fun i h0 h1 h2 => by
    have k := key i (by omega)
    unfold tyAt at k
    rw [if_neg (by omega), if_pos h1, if_neg h2] at k
    exact ok_range k
  have kX : ∀ i, 76 ≤ i → i < 94 → (i - 76) % 2 = 0 → I64 (intOf (cs.getD i undef)) := fun i h0 h1 h2 => by
    have k := key i (by omega)
    unfold tyAt at k
    rw [if_neg (by omega), if_neg (by omega), if_pos h2] at k
    exact ok_range k
  exact ⟨fun n hn => kI (n * 5 + 1) (by omega) (by omega), fun n hn => kI (n * 5 + 2) (by omega) (by omega), fun n p hn hp => kI (n * 5 + 3 + p) (by omega) (by omega), fun d s hd hs => kE (40 + d * 12 + s * 3 + 1) (by omega) (by omega) (by omega), fun d s hd hs => kE (40 + d * 12 + s * 3 + 2) (by omega) (by omega) (by omega), fun x hx => kX (76 + x * 2) (by omega) (by omega) (by omega)⟩
end Go.Proofs.YtlbgkpibaahglacDoor
