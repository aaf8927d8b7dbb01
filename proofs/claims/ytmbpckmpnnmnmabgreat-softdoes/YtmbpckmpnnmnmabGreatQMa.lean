/-
  A world without a disk, in memory: its root, its three rows of entries, its files.
-/
import Derived.Test.YtmbpckmpnnmnmabGreatQIb
import Derived.Test.YtmbpckmpnnmnmabGreatQWb
import Derived.Laws.AppendOwn
namespace Go.Proofs.YtmbpckmpnnmnmabGreat
open Go.RowKit
namespace Idl
/-- what is outside of 'own' is as it was -/
structure Chg (own : Nat → Prop) (w w' : World) : Prop where
  os : w'.os = w.os
  tape : w'.tape = w.tape
  output : w'.output = w.output
  size : w.heap.size ≤ w'.heap.size
  block : ∀ k, k < w.heap.size → ¬ own k → w'.heap[k]? = w.heap[k]?
theorem Chg.of_below {own : Nat → Prop} {w w' : World} (h : Below w.heap.size w w') : Chg own w w' := ⟨h.os, h.tape, h.output, h.size, fun k hk _ => h.block k hk⟩
theorem Chg.trans {own own' : Nat → Prop} {a b c : World} (h : Chg own a b) (k : Chg own' b c) (ho : ∀ i, own' i → own i ∨ a.heap.size ≤ i) : Chg own a c :=
  ⟨k.os.trans h.os, k.tape.trans h.tape, k.output.trans h.output, Nat.le_trans h.size k.size, fun i hi hn => (k.block i (Nat.lt_of_lt_of_le hi h.size) (fun ho' => by rcases ho i ho' with h1 | h1; exact hn h1; omega)).trans (h.block i hi hn)⟩
theorem Chg.below {own : Nat → Prop} {B : Nat} {w w' : World} (h : Chg own w w') (hB : B ≤ w.heap.size) (ho : ∀ k, own k → B ≤ k) : Below B w w' :=
  ⟨h.os, h.tape, h.output, h.size, fun k hk => h.block k (by omega) (fun hk' => by have := ho k hk'; omega)⟩
theorem ownsRow_of_block {w w' : World} {base : Nat} {e : TypeId} {size : Nat} {v : Value} {n : Nat} {xs : List Value} (h : w.ownsRow base e size v n xs) (hk : ∀ k, v.ownBlock = some k → w'.heap[k]? = w.heap[k]?) : w'.ownsRow base e size v n xs := by
  refine ⟨h.1, ?_⟩
  rcases h.2 with hn | ⟨g, cap, cur, rfl, hb, hg, rest⟩
  · exact .inl hn
  · exact .inr ⟨g, cap, cur, rfl, hb, by rw [hk g rfl]; exact hg, rest⟩
section
variable {own : Nat → Prop} {sv : Nat → Value} {loc : Nat → Nat} {w : World} {b : Nat} {S : St}
end
end Idl
end Go.Proofs.YtmbpckmpnnmnmabGreat
