/-
  A world without a disk, in memory: its root, its three rows of entries, its files.
-/
import Derived.Test.YtmbpckmpnnmnmacGreatIb
import Derived.Test.YtmbpckmpnnmnmacGreatWb
import Derived.Laws.AppendOwn
namespace Go.Proofs.YtmbpckmpnnmnmacGreat
open Go.RowKit
namespace Idl
def cellsE (loc : Nat → Nat) (l : List Ent) : List Value := l.flatMap fun e => [.string e.1, .pointer (some ⟨loc e.2, 0, none⟩)]
theorem cellsE_len (loc : Nat → Nat) (l : List Ent) : (cellsE loc l).length = l.length * 2 := by
  induction l with
  | nil => rfl
  | cons e l ih => simp only [cellsE, List.flatMap_cons, List.length_append, List.length_cons, List.length_nil] at ih ⊢; rw [ih]; omega
theorem cellsE_app (loc : Nat → Nat) (l k : List Ent) : cellsE loc (l ++ k) = cellsE loc l ++ cellsE loc k := by simp [cellsE]
theorem cellsE_cons (loc : Nat → Nat) (e : Ent) (l : List Ent) : cellsE loc (e :: l) = .string e.1 :: .pointer (some ⟨loc e.2, 0, none⟩) :: cellsE loc l := rfl
theorem cellsE_at (loc : Nat → Nat) : ∀ (l : List Ent) (i : Nat) (hi : i < l.length), (cellsE loc l)[i * 2]? = some (.string l[i].1) ∧ (cellsE loc l)[i * 2 + 1]? = some (.pointer (some ⟨loc l[i].2, 0, none⟩))
  | e :: l, 0, _ => ⟨rfl, rfl⟩
  | e :: l, i + 1, hi => by
    have := cellsE_at loc l i (by simpa using hi)
    rw [cellsE_cons, show (i + 1) * 2 = i * 2 + 1 + 1 by omega]
    simpa using this
theorem cellsE_one (loc : Nat → Nat) (l : List Ent) : ∀ v ∈ cellsE loc l, v.oneCell' = true := by
  intro v hv
  simp only [cellsE, List.mem_flatMap] at hv
  obtain ⟨e, _, hv⟩ := hv
  rcases List.mem_cons.1 hv with rfl | hv
  · rfl
  · rcases List.mem_cons.1 hv with rfl | hv
    · rfl
    · cases hv
theorem cellsE_take (loc : Nat → Nat) (l : List Ent) (i : Nat) : cellsE loc (l.take i) = (cellsE loc l).take (i * 2) := by
  by_cases h : i ≤ l.length
  · have e : cellsE loc l = cellsE loc (l.take i) ++ cellsE loc (l.drop i) := by rw [← cellsE_app, List.take_append_drop]
    rw [e, List.take_left' (by rw [cellsE_len, List.length_take]; omega)]
  · rw [List.take_of_length_le (by omega), List.take_of_length_le (by rw [cellsE_len]; omega)]
theorem cellsE_drop (loc : Nat → Nat) (l : List Ent) (i : Nat) : cellsE loc (l.drop i) = (cellsE loc l).drop (i * 2) := by
  by_cases h : i ≤ l.length
  · have e : cellsE loc l = cellsE loc (l.take i) ++ cellsE loc (l.drop i) := by rw [← cellsE_app, List.take_append_drop]
    rw [e, List.drop_left' (by rw [cellsE_len, List.length_take]; omega)]
  · rw [List.drop_eq_nil_of_le (by omega), List.drop_eq_nil_of_le (by rw [cellsE_len]; omega)]; rfl
theorem cellsE_congr {loc loc' : Nat → Nat} {l : List Ent} (h : ∀ e ∈ l, loc e.2 = loc' e.2) : cellsE loc l = cellsE loc' l := by
  induction l with
  | nil => rfl
  | cons e l ih => rw [cellsE_cons, cellsE_cons, h e (by simp), ih (fun x hx => h x (by simp [hx]))]
def fileCells (S : St) (i : Nat) : Array Value := #[.bool (S.has i 0), .string (S.txt i 0), .bool (S.has i 1), .string (S.txt i 1)]
structure Rep (own : Nat → Prop) (sv : Nat → Value) (loc : Nat → Nat) (w : World) (b : Nat) (S : St) : Prop where
  inv : Inv S
  size : ∀ k, own k → k < w.heap.size
  root : w.heap[b]? = some (.cells #[sv 0, sv 1, sv 2] 0 (0, 0))
  rown : own b
  row : ∀ d, d < 3 → w.ownsRow 0 0 2 (sv d) (S.dir d).length (cellsE loc (S.dir d))
  rowOwn : ∀ d k, d < 3 → (sv d).ownBlock = some k → own k ∧ k ≠ b
  apart : ∀ d e k, d < 3 → e < 3 → d ≠ e → (sv d).ownBlock = some k → (sv e).ownBlock ≠ some k
  fil : ∀ i, i < S.next → w.heap[loc i]? = some (.cells (fileCells S i) 0 (0, 0))
  filOwn : ∀ i, i < S.next → own (loc i) ∧ loc i ≠ b ∧ ∀ d, d < 3 → (sv d).ownBlock ≠ some (loc i)
  inj : ∀ i j, i < S.next → j < S.next → loc i = loc j → i = j
def Few (S : St) (n : Nat) : Prop := ∀ d, (S.dir d).length ≤ n
/-- what is outside of 'own' is as it was -/
structure Chg (own : Nat → Prop) (w w' : World) : Prop where
  os : w'.os = w.os
  tape : w'.tape = w.tape
  output : w'.output = w.output
  size : w.heap.size ≤ w'.heap.size
  block : ∀ k, k < w.heap.size → ¬ own k → w'.heap[k]? = w.heap[k]?
theorem Chg.refl (own : Nat → Prop) (w : World) : Chg own w w := ⟨rfl, rfl, rfl, Nat.le_refl _, fun _ _ _ => rfl⟩
theorem Chg.of_below {own : Nat → Prop} {w w' : World} (h : Below w.heap.size w w') : Chg own w w' := ⟨h.os, h.tape, h.output, h.size, fun k hk _ => h.block k hk⟩
theorem Chg.trans {own own' : Nat → Prop} {a b c : World} (h : Chg own a b) (k : Chg own' b c) (ho : ∀ i, own' i → own i ∨ a.heap.size ≤ i) : Chg own a c :=
  ⟨k.os.trans h.os, k.tape.trans h.tape, k.output.trans h.output, Nat.le_trans h.size k.size, fun i hi hn => (k.block i (Nat.lt_of_lt_of_le hi h.size) (fun ho' => by rcases ho i ho' with h1 | h1; exact hn h1; omega)).trans (h.block i hi hn)⟩
theorem Chg.below {own : Nat → Prop} {B : Nat} {w w' : World} (h : Chg own w w') (hB : B ≤ w.heap.size) (ho : ∀ k, own k → B ≤ k) : Below B w w' :=
  ⟨h.os, h.tape, h.output, h.size, fun k hk => h.block k (by omega) (fun hk' => by have := ho k hk'; omega)⟩
theorem ownsRow_of_block {w w' : World} {base : Nat} {e : TypeId} {size : Nat} {v : Value} {n : Nat} {xs : List Value} (h : w.ownsRow base e size v n xs) (hk : ∀ k, v.ownBlock = some k → w'.heap[k]? = w.heap[k]?) : w'.ownsRow base e size v n xs := by
  refine ⟨h.1, ?_⟩
  rcases h.2 with hn | ⟨g, cap, cur, rfl, hb, hg, rest⟩
  · exact .inl hn
  · exact .inr ⟨g, cap, cur, rfl, hb, by rw [hk g rfl]; exact hg, rest⟩
section
variable {own : Nat → Prop} {sv : Nat → Value} {loc : Nat → Nat} {w : World} {b : Nat} {S : St}
/-- all that is owned is as it was: so is the world -/
theorem Rep.keep (h : Rep own sv loc w b S) {w' : World} (hs : w.heap.size ≤ w'.heap.size) (hk : ∀ k, own k → w'.heap[k]? = w.heap[k]?) : Rep own sv loc w' b S :=
  ⟨h.inv, fun k ho => Nat.lt_of_lt_of_le (h.size k ho) hs, by rw [hk b h.rown]; exact h.root, h.rown, fun d hd => ownsRow_of_block (h.row d hd) (fun k hk' => hk k (h.rowOwn d k hd hk').1),
    h.rowOwn, h.apart, fun i hi => by rw [hk _ (h.filOwn i hi).1]; exact h.fil i hi, h.filOwn, h.inj⟩
theorem Rep.below (h : Rep own sv loc w b S) {w' : World} (hb : Below w.heap.size w w') : Rep own sv loc w' b S :=
  h.keep hb.size (fun k ho => hb.block k (h.size k ho))
theorem Rep.other (h : Rep own sv loc w b S) {w' : World} {own2 : Nat → Prop} (hc : Chg own2 w w') (hd : ∀ k, own k → ¬ own2 k) : Rep own sv loc w' b S :=
  h.keep hc.size (fun k ho => hc.block k (h.size k ho) (hd k ho))
theorem Rep.blt (h : Rep own sv loc w b S) : b < w.heap.size := h.size b h.rown
theorem Rep.rootCell (h : Rep own sv loc w b S) (d : Nat) (hd : d < 3) : w.cell? ⟨b, d, none⟩ = some (sv d) := by
  rw [cell_of_row w b d _ _ _ h.root]
  match d, hd with
  | 0, _ => rfl
  | 1, _ => rfl
  | 2, _ => rfl
theorem Rep.rootFree (h : Rep own sv loc w b S) (d : Nat) : w.frozen? ⟨b, d, none⟩ = false := by simp [World.frozen?, h.root]
/-- the two forms of a row -/
theorem Rep.forms (h : Rep own sv loc w b S) (d : Nat) (hd : d < 3) :
    (S.dir d = [] ∧ sv d = .slice none 0 0) ∨ (∃ g cap, sv d = .slice (some ⟨g, 0, none⟩) (S.dir d).length cap ∧ own g ∧ g ≠ b ∧ g < w.heap.size ∧ (S.dir d).length ≤ cap ∧ cap ≤ maxLen ∧
      ∀ i (hi : i < (S.dir d).length), w.cell? ⟨g, i * 2, none⟩ = some (.string (S.dir d)[i].1) ∧ w.cell? ⟨g, i * 2 + 1, none⟩ = some (.pointer (some ⟨loc (S.dir d)[i].2, 0, none⟩))) := by
  rcases (h.row d hd).2 with ⟨h1, h2⟩ | ⟨g, cap, cur, h1, _, h3, h4, h5, h6, h7⟩
  · exact .inl ⟨List.eq_nil_of_length_eq_zero h2, h1⟩
  · have ho := h.rowOwn d g hd (by rw [h1]; rfl)
    refine .inr ⟨g, cap, h1, ho.1, ho.2, h.size g ho.1, h4, h5, fun i hi => ?_⟩
    have hc := cellsE_at loc (S.dir d) i hi
    have ht : ∀ j v, (cellsE loc (S.dir d))[j]? = some v → cur[j]? = some v := fun j v hj => by
      rw [← h7, List.getElem?_take] at hj
      split at hj
      · simpa using hj
      · cases hj
    rw [cell_of_row w g _ _ _ _ h3, cell_of_row w g _ _ _ _ h3]
    exact ⟨ht _ _ hc.1, ht _ _ hc.2⟩
end
end Idl
end Go.Proofs.YtmbpckmpnnmnmacGreat
