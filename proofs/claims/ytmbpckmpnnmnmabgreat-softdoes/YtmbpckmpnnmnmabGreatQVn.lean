/-
  The walk of ideal.World.List.
-/
import Derived.Test.YtmbpckmpnnmnmabGreatQVb
import Derived.Maps.AppendAt
namespace Go.Proofs.YtmbpckmpnnmnmabGreat
open Go.RowKit
namespace Idl
theorem str_info : ∃ i, Tryz.prog.info? 9 = some i ∧ i.zero = some (.string ⟨#[]⟩) ∧ i.size = 1 ∧ i.bytes = 16 := by
  have h : (Tryz.prog.info? 9).map (fun i => (i.zero, i.size, i.bytes)) = some (some (.string ⟨#[]⟩), 1, 16) := by kernel_rfl
  cases hq : Tryz.prog.info? 9 with
  | none => rw [hq] at h; cases h
  | some i =>
    rw [hq] at h
    simp only [Option.map_some, Option.some.injEq, Prod.mk.injEq] at h
    exact ⟨i, rfl, h.1, h.2.1, h.2.2⟩
theorem one_new (W : World) (x : Value) (t : TypeId) (k : Nat) (hk : k = W.heap.size) : ∀ j u, [x][j]? = some u → (W.alloc (.cells #[x] t)).cell? ((⟨k, 0, none⟩ : Addr).add j) = some u := fun j u hj => by
  cases j with
  | zero =>
    rw [Addr.add_lit, World.cell?_alloc_at _ _ _ _ hk]
    simpa using hj
  | succ j => simp at hj
theorem one_str (s : ByteArray) : ∀ u ∈ [Value.string s], u.oneCell' = true := fun u hu => by
  rcases List.mem_cons.1 hu with rfl | hu
  · rfl
  · cases hu
def strs (l : List ByteArray) : List Value := l.map .string
section
variable {own : Nat → Prop} {sv : Nat → Value} {loc : Nat → Nat} {w : World} {b : Nat} {S : St}
end
end Idl
end Go.Proofs.YtmbpckmpnnmnmabGreat
