/-
  An image that came in: its cells are of their kinds.
-/
import Derived.Test.YtlbgkpibaahglacDoorWl
import Derived.ProofKit
import Derived.OpenShut
import Derived.ShutString
import Derived.ChangeOld
import Derived.Below
namespace Go.Proofs.YtlbgkpibaahglacDoor
open Go.ChangeShapes Go.WideShapes Go.ChangeAt Go.RowKit
theorem Tryd.own : ownKnob Tryd.prog.godebug = none := by kernel_rfl
theorem Tryd.laidOut : laidOutB Tryd.prog = true := by kernel_rfl
def tyAt (i : Nat) : TypeId :=
  if i < 40 then (if i % 5 = 0 then 4 else 3) else if i < 76 then (if (i - 40) % 3 = 0 then 9 else 3) else (if (i - 76) % 2 = 0 then 3 else 9)
set_option maxRecDepth 100000 in
theorem img_types : Tryd.prog.cellTypes Tryd.prog.depth 34 = some ((List.range 94).map tyAt) := by kernel_rfl
set_option maxRecDepth 100000 in
theorem img_cells : Tryd.prog.cellsOf 34 = 94 := by kernel_rfl
set_option maxRecDepth 100000 in
theorem ok_bool {W : World} {r : Reach} {base : Nat} {v : Value} (h : Cell.okWide Tryd.prog W r base 4 v) : isB v = true := by
  simp only [Cell.okWide, Cell.ok, Tryd.underlying4] at h
  cases v <;> simp_all [isB]
set_option maxRecDepth 100000 in
theorem ok_int {W : World} {r : Reach} {base : Nat} {v : Value} (h : Cell.okWide Tryd.prog W r base 3 v) : isN v = true := by
  simp only [Cell.okWide, Cell.ok, Tryd.underlying3] at h
  cases v <;> simp_all [isN]
set_option maxRecDepth 100000 in
theorem ok_string {W : World} {r : Reach} {base : Nat} {v : Value} (h : Cell.okWide Tryd.prog W r base 9 v) : isS v = true ∧ (sOf v).size ≤ maxLen := by
  simp only [Cell.okWide, Cell.ok, Tryd.underlying9] at h
  cases v <;> simp_all [isS, sOf]
  have : IntKind.i64.max = 9223372036854775807 := by decide
  unfold maxLen
  omega
set_option maxRecDepth 100000 in
theorem kinds_of_ok {W : World} {r : Reach} {base : Nat} {v : Value} (h : Value.okWide Tryd.prog W r base 34 v) : ∃ cs, v = .agg cs ∧ Kinds cs := by
  simp only [Value.okWide, img_under] at h
  obtain ⟨cs, rfl, hs, ts, ht, _, hc⟩ := h
  rw [img_cells] at hs
  rw [img_types] at ht
  obtain rfl := (Option.some.inj ht).symm
  refine ⟨cs, rfl, ?_⟩
  have key : ∀ i, i < 94 → Cell.okWide Tryd.prog W r base (tyAt i) (cs.getD i undef) := fun i hi => by
    have hg : cs[i]? = some (cs.getD i undef) := by
      have : i < cs.size := by rw [hs]; exact hi
      simp [Array.getD, this]
    obtain ⟨u, hu, hk⟩ := hc i _ hg
    rw [List.length_map, List.length_range, Nat.mod_eq_of_lt hi, List.getElem?_map, List.getElem?_range hi] at hu
    have : u = tyAt i := by simpa using hu.symm
    rw [← this]; exact hk
  have kind : ∀ i, i < 94 → kindOk i (cs.getD i undef) = true ∧ (sOf (cs.getD i undef)).size ≤ maxLen := fun i hi => by
    have k := key i hi
    unfold tyAt at k
    unfold kindOk
    by_cases h1 : i < 40
    · rw [if_pos h1] at k ⊢
      by_cases h2 : i % 5 = 0
      · rw [if_pos h2] at k ⊢
        have := ok_bool k
        exact ⟨this, by rw [of_isB this]; exact Nat.zero_le _⟩
      · rw [if_neg h2] at k ⊢
        have := ok_int k
        exact ⟨this, by rw [of_isN this]; exact Nat.zero_le _⟩
    · rw [if_neg h1] at k ⊢
      by_cases h3 : i < 76
      · rw [if_pos h3] at k ⊢
        by_cases h2 : (i - 40) % 3 = 0
        · rw [if_pos h2] at k ⊢
          exact ok_string k
        · rw [if_neg h2] at k ⊢
          have := ok_int k
          exact ⟨this, by rw [of_isN this]; exact Nat.zero_le _⟩
      · rw [if_neg h3] at k ⊢
        by_cases h2 : (i - 76) % 2 = 0
        · rw [if_pos h2] at k ⊢
          have := ok_int k
          exact ⟨this, by rw [of_isN this]; exact Nat.zero_le _⟩
        · rw [if_neg h2] at k ⊢
          exact ok_string k
  refine ⟨hs, fun i hi => (kind i hi).1, fun i => ?_⟩
  by_cases hi : i < 94
  · exact (kind i hi).2
  · have : cs.getD i undef = undef := by simp [Array.getD, hs, hi]
    rw [this]; exact Nat.zero_le _
end Go.Proofs.YtlbgkpibaahglacDoor
