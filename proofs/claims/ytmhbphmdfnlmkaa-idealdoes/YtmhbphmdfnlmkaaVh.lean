/-
  What a new file and a part put leave; the walk of ideal.World.Do at steps that make and unlink.
-/
import Derived.Test.YtmhbphmdfnlmkaaVg
namespace Go.Proofs.Ytmhbphmdfnlmkaa
open Go.RowKit
namespace Idl
section
variable {own : Nat → Prop} {sv : Nat → Value} {loc : Nat → Nat} {w : World} {b : Nat} {S : St}
def locF (loc : Nat → Nat) (S : St) (n : Nat) : Nat → Nat := fun i => if i = S.next then n else loc i
def Held (own : Nat → Prop) (w w' : World) (b : Nat) (S' : St) : Prop :=
  ∃ own' sv' loc', Rep own' sv' loc' w' b S' ∧ Chg own w w' ∧ ∀ k, own' k → own k ∨ w.heap.size ≤ k
theorem Held.of {own1 : Nat → Prop} {w1 w' : World} {S' : St} (hb : Below w.heap.size w w1) (ho : ∀ k, own1 k → own k ∨ w.heap.size ≤ k)
    (H : ∃ own' svn, Rep own' svn loc w' b S' ∧ Chg own1 w1 w' ∧ ∀ k, own' k → own1 k ∨ w1.heap.size ≤ k) : Held own w w' b S' := by
  obtain ⟨o, v, r, c, e⟩ := H
  have hs := hb.size
  refine ⟨o, v, loc, r, (Chg.of_below hb).trans c ho, fun k hk => ?_⟩
  rcases e k hk with h1 | h1
  · exact ho k h1
  · exact .inr (by omega)
theorem Rep.fresh (h : Rep own sv loc w b S) :
    Rep (fun k => own k ∨ k = w.heap.size) sv (locF loc S w.heap.size) (w.alloc (.cells #[.bool false, .string ⟨#[]⟩, .bool false, .string ⟨#[]⟩] 97)) b S.fresh := by
  have hold : ∀ k, own k → (w.alloc (.cells #[.bool false, .string ⟨#[]⟩, .bool false, .string ⟨#[]⟩] 97)).heap[k]? = w.heap[k]? := fun k hk => heap_alloc_old w _ (h.size k hk)
  have hne : ∀ k, own k → k ≠ w.heap.size := fun k hk => Nat.ne_of_lt (h.size k hk)
  have hloc : ∀ i, i < S.next → locF loc S w.heap.size i = loc i := fun i hi => by simp [locF, Nat.ne_of_lt hi]
  have hnx : locF loc S w.heap.size S.next = w.heap.size := by simp [locF]
  refine ⟨h.inv.fresh, ?_, ?_, .inl h.rown, ?_, ?_, h.apart, ?_, ?_, ?_⟩
  · intro k hk
    rcases hk with hk | hk
    · have := h.size k hk; simp; omega
    · simp; omega
  · rw [hold b h.rown]; exact h.root
  · intro d hd
    have e : cellsE (locF loc S w.heap.size) (S.fresh.dir d) = cellsE loc (S.dir d) := cellsE_congr (fun e he => hloc e.2 (h.inv.low d e he))
    rw [e]
    exact ownsRow_of_block (h.row d hd) (fun k hk => hold k (h.rowOwn d k hd hk).1)
  · intro d k hd hk
    exact ⟨.inl (h.rowOwn d k hd hk).1, (h.rowOwn d k hd hk).2⟩
  · intro i hi
    have hi' : i < S.next + 1 := hi
    by_cases e : i = S.next
    · subst e
      rw [hnx, heap_alloc_new]
      have : fileCells S.fresh S.next = #[.bool false, .string ⟨#[]⟩, .bool false, .string ⟨#[]⟩] := by simp [fileCells, St.fresh, none0]
      rw [this]
    · have hlt : i < S.next := by omega
      rw [hloc i hlt, hold _ (h.filOwn i hlt).1, h.fil i hlt]
      have : fileCells S.fresh i = fileCells S i := by simp [fileCells, St.fresh, e]
      rw [this]
  · intro i hi
    have hi' : i < S.next + 1 := hi
    by_cases e : i = S.next
    · subst e
      rw [hnx]
      exact ⟨.inr rfl, fun e => hne b h.rown e.symm, fun d hd hk => hne _ (h.rowOwn d _ hd hk).1 rfl⟩
    · have hlt : i < S.next := by omega
      rw [hloc i hlt]
      obtain ⟨f1, f2, f3⟩ := h.filOwn i hlt
      exact ⟨.inl f1, f2, f3⟩
  · intro i j hi hj
    have hi' : i < S.next + 1 := hi
    have hj' : j < S.next + 1 := hj
    by_cases e : i = S.next <;> by_cases e' : j = S.next
    · omega
    · have hlt : j < S.next := by omega
      rw [e, hnx, hloc j hlt]
      intro hh
      exact absurd hh.symm (hne _ (h.filOwn j hlt).1)
    · have hlt : i < S.next := by omega
      rw [e', hnx, hloc i hlt]
      intro hh
      exact absurd hh (hne _ (h.filOwn i hlt).1)
    · have h1 : i < S.next := by omega
      have h2 : j < S.next := by omega
      rw [hloc i h1, hloc j h2]
      exact h.inj i j h1 h2
theorem file_set {w : World} {f n : Nat} (hf : w.heap[f]? = some (.cells (fileCells S n) 97 (0, 0))) (p : Nat) (hp : p < 2) (c : Bool) (t : ByteArray) :
    ((w.setCell ⟨f, p * 2, none⟩ (.bool c)).setCell ⟨f, p * 2 + 1, none⟩ (.string t)).heap[f]? = some (.cells (fileCells (S.put n p c t) n) 97 (0, 0)) := by
  rw [setCell_eq_setRow w f (p * 2) _ _ _ _ hf]
  have h1 := setRow_heap w f _ ((fileCells S n).setIfInBounds (p * 2) (.bool c)) _ _ hf
  rw [setCell_eq_setRow _ f (p * 2 + 1) _ _ _ _ h1, setRow_heap _ f _ _ _ _ h1]
  match p, hp with
  | 0, _ => simp [fileCells, St.put]
  | 1, _ => simp [fileCells, St.put]
theorem Rep.put (h : Rep own sv loc w b S) (n p : Nat) (hn : n < S.next) (hp : p < 2) (c : Bool) (t : ByteArray) :
    Rep own sv loc ((w.setCell ⟨loc n, p * 2, none⟩ (.bool c)).setCell ⟨loc n, p * 2 + 1, none⟩ (.string t)) b (S.put n p c t) ∧
    Chg own w ((w.setCell ⟨loc n, p * 2, none⟩ (.bool c)).setCell ⟨loc n, p * 2 + 1, none⟩ (.string t)) := by
  have hoth : ∀ k, k ≠ loc n → ((w.setCell ⟨loc n, p * 2, none⟩ (.bool c)).setCell ⟨loc n, p * 2 + 1, none⟩ (.string t)).heap[k]? = w.heap[k]? := fun k hk => by
    rw [Below.heap_setCell _ _ _ _ hk, Below.heap_setCell _ _ _ _ hk]
  have hsz : ((w.setCell ⟨loc n, p * 2, none⟩ (.bool c)).setCell ⟨loc n, p * 2 + 1, none⟩ (.string t)).heap.size = w.heap.size := by simp [World.setCell]
  obtain ⟨f1, f2, f3⟩ := h.filOwn n hn
  refine ⟨⟨h.inv.put n p c t, fun k hk => by rw [hsz]; exact h.size k hk, by rw [hoth b (fun e => f2 e.symm)]; exact h.root, h.rown, fun d hd => ownsRow_of_block (h.row d hd) (fun k hk => hoth k (fun e => f3 d hd (by rw [← e]; exact hk))), h.rowOwn, h.apart, ?_, h.filOwn, h.inj⟩, ⟨rfl, rfl, rfl, by rw [hsz]; exact Nat.le_refl _, fun k _ hk => hoth k (fun e => hk (by rw [e]; exact f1))⟩⟩
  intro i hi
  by_cases e : i = n
  · subst e
    exact file_set (h.fil i hi) p hp c t
  · rw [hoth _ (fun e' => e (h.inj i n hi hn e')), h.fil i hi]
    have : fileCells (S.put n p c t) i = fileCells S i := by simp [fileCells, St.put, e]
    rw [this]
end
end Idl
end Go.Proofs.Ytmhbphmdfnlmkaa
