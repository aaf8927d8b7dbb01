/-
  A part put into the reference's row of files; what the reference's world is behind a step.
-/
import Derived.Test.YtmhbphmdfnlmkaaJh
namespace Go.Proofs.Ytmhbphmdfnlmkaa
open Go.RowKit
namespace Idl
def IHeld (b : Nat) (vt vf : Value) (w w' : World) (S' : St) (m : Nat) : Prop :=
  ∃ l' vt' vf', IRep w' b S' l' vt' vf' ∧ Chg (iown b vt vf) w w' ∧ (∀ k, iown b vt' vf' k → iown b vt vf k ∨ w.heap.size ≤ k) ∧ l'.length ≤ m
theorem cellsF_at (S : St) (m i j : Nat) (hi : i < m) (hj : j < 4) : (cellsF S m)[i * 4 + j]? = (filC S i)[j]? := by
  have := flat_at (filC_len S) (List.range m) i (by simpa using hi) j hj
  rw [List.getElem_range] at this
  exact this
theorem cellsF_len (S : St) (m : Nat) : (cellsF S m).length = m * 4 := by
  unfold cellsF
  rw [flat_len (filC_len S), List.length_range]
theorem cellsF_put (S : St) (m n p : Nat) (hn : n < m) (hp : p < 2) (c : Bool) (t : ByteArray) :
    cellsF (S.put n p c t) m = ((cellsF S m).set (n * 4 + p) (.bool c)).set (n * 4 + 2 + p) (.string t) := by
  apply List.ext_getElem?
  intro q
  by_cases hq : q < m * 4
  · obtain ⟨i, j, hj, rfl⟩ : ∃ i j, j < 4 ∧ q = i * 4 + j := ⟨q / 4, q % 4, Nat.mod_lt _ (by omega), by omega⟩
    have hi : i < m := by omega
    rw [List.getElem?_set, List.getElem?_set, List.length_set, cellsF_len, cellsF_at _ _ _ _ hi hj, cellsF_at _ _ _ _ hi hj]
    have hp' : p = 0 ∨ p = 1 := by omega
    have hj' : j = 0 ∨ j = 1 ∨ j = 2 ∨ j = 3 := by omega
    by_cases e : i = n
    · subst e
      rcases hp' with rfl | rfl <;> rcases hj' with rfl | rfl | rfl | rfl <;> simp [filC, St.put] <;> omega
    · rcases hp' with rfl | rfl <;> rcases hj' with rfl | rfl | rfl | rfl <;> (rw [if_neg (by omega), if_neg (by omega)]; simp [filC, St.put, e])
  · rw [List.getElem?_eq_none (by rw [cellsF_len]; omega), List.getElem?_eq_none (by rw [List.length_set, List.length_set, cellsF_len]; omega)]
section
variable {w : World} {b : Nat} {S : St} {l : List Tg} {vt vf : Value}
theorem IRep.put {g cap : Nat} (h : IRep w b S l vt (.slice (some ⟨g, 0, none⟩) S.next cap)) {n p : Nat} (hn : n < S.next) (hp : p < 2) (c : Bool) (t : ByteArray) (hI : Inv (S.put n p c t)) :
    IHeld b vt (.slice (some ⟨g, 0, none⟩) S.next cap) w ((w.setCell ⟨g, n * 4 + p, none⟩ (.bool c)).setCell ⟨g, n * 4 + 2 + p, none⟩ (.string t)) (S.put n p c t) l.length := by
  have hoth : ∀ k, k ≠ g → ((w.setCell ⟨g, n * 4 + p, none⟩ (.bool c)).setCell ⟨g, n * 4 + 2 + p, none⟩ (.string t)).heap[k]? = w.heap[k]? := fun k hk => by
    rw [Below.heap_setCell _ _ _ _ hk, Below.heap_setCell _ _ _ _ hk]
  have hsz : ((w.setCell ⟨g, n * 4 + p, none⟩ (.bool c)).setCell ⟨g, n * 4 + 2 + p, none⟩ (.string t)).heap.size = w.heap.size := by simp [World.setCell]
  have hgb : b ≠ g := fun e => h.offF (by rw [e]; rfl)
  have r1 := (h.rowF.stored (n * 4 + p) (.bool c))
  have r2 := (r1.1.stored (n * 4 + 2 + p) (.string t))
  refine ⟨l, vt, _, ⟨hI, h.tags.same (fun d s => lookS_put S n p c t d s), by rw [hoth b hgb]; exact h.root, ownsRow_of_block h.rowT (fun k hk => hoth k (fun e => h.apart k hk (by rw [e]; rfl))), ?_, h.offT, h.offF, h.apart⟩, ⟨rfl, rfl, rfl, by rw [hsz]; exact Nat.le_refl _, fun k _ hk => hoth k (fun e => hk (.inr (.inr (by rw [e]; rfl))))⟩, fun k hk => .inl hk, Nat.le_refl _⟩
  rw [show (S.put n p c t).next = S.next from rfl, cellsF_put S S.next n p hn hp c t]
  exact r2.1
end
end Idl
end Go.Proofs.Ytmhbphmdfnlmkaa
