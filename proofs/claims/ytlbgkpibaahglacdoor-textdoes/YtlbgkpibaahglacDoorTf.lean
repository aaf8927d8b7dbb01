/-
  The walk of safe.Write.
-/
import Derived.Test.YtlbgkpibaahglacDoorTe
import Derived.Laws.ResultCell
namespace Go.Proofs.YtlbgkpibaahglacDoor
open Go.RowKit
/-- an image that fills a block -/
def Row (w : World) (b : Nat) (m : Img) : Prop := ∃ cs, w.heap[b]? = some (.cells cs 34) ∧ IsImg cs m
theorem Row.has {w : World} {b : Nat} {m : Img} (h : Row w b m) : HasImg w b m := by
  obtain ⟨cs, h1, h2⟩ := h
  exact has_of_row h1 h2
theorem Row.below {w w' : World} {b : Nat} {m : Img} {B : Nat} (h : Row w b m) (hb : Below B w w') (hB : b < B) : Row w' b m := by
  obtain ⟨cs, h1, h2⟩ := h
  exact ⟨cs, by rw [hb.block _ hB]; exact h1, h2⟩
/-- what Write answers -/
def Written (x : Img) (ok : Bool) (e : Ending) : Prop := ∃ cs, e = .returned (.tuple #[.agg cs, .bool ok]) ∧ IsImg cs x
/-- m, and the answer's block, behind some stores -/
structure Out (w wr : World) (x : Img) : Prop where
  two : ∃ c1, Two w wr (w.heap.size + 1) zeroCells c1 ∧ IsImg c1 x
theorem results_row_tmp {P : Program} {fn : Func} {p u : Tmp} {ty : TypeId} (h : fn.results = #[.cell p ty, .tmp u]) (tmps : Array Value) (w : World) (g : Nat) (t : TypeId) (cs : Array Value) (fr : Nat × Nat) (d : TypeDesc) (v : Value)
    (hp : tmps.getD p undef = .pointer (some ⟨g, 0, none⟩)) (hv : tmps.getD u undef = v) (hg : w.heap[g]? = some (.cells cs t fr))
    (hu : P.underlying ty = some d) (hd : (match d with | .struct _ | .array _ _ => true | _ => false) = true) (hi : (P.info? ty).map (·.size) = some cs.size) :
    (results fn tmps).run P w = .ok (.tuple #[.agg cs, v]) w := by
  rw [results_cell_tmp h, hp, hv]
  simp [asAddr, run_loadVar_row w g t ty cs fr d hg hu hd hi]
theorem Img.wInos_step {now disk : Img} {q kk : Nat} (h : q ≤ kk) : Img.wInos now disk q (kk + 1 - q) = (Img.wInos now disk q (kk - q)).putIno kk (Img.inodeAs now disk kk) := by
  rw [show kk + 1 - q = (kk - q) + 1 by omega, Img.wInos, show q + (kk - q) = kk by omega]
theorem Img.wDir_step {now disk : Img} {d s : Nat} : Img.wDir now disk d (s + 1) = (Img.wDir now disk d s).putEnt d s (Img.entryAs now (Img.wDir now disk d s) d s) := rfl
theorem entryAs_small {now m : Img} (h1 : ∀ d s, (now.name d s).size ≤ maxLen) (h2 : ∀ d s, (m.name d s).size ≤ maxLen) (d s : Nat) : (Img.entryAs now m d s).name.size ≤ maxLen := by
  rcases Img.entryAs_cases now m d s with e | ⟨_, _, e⟩ | ⟨_, _, e⟩ <;> rw [e]
  · exact h2 d s
  · exact h1 d s
  · exact Nat.zero_le _
end Go.Proofs.YtlbgkpibaahglacDoor
