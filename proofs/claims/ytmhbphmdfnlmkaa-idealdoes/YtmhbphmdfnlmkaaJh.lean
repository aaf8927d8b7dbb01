/-
  The reference's world in memory, for those who write: its root, its row of tags, its row of files.
-/
import Derived.Test.YtmhbphmdfnlmkaaJf
import Derived.Test.YtmhbphmdfnlmkaaJe
namespace Go.Proofs.Ytmhbphmdfnlmkaa
open Go.RowKit
namespace Idl
/-! rows of elements of a width -/
section
variable {α : Type} {f : α → List Value} {c : Nat}
theorem flat_len (hf : ∀ a, (f a).length = c) : ∀ l : List α, (l.flatMap f).length = l.length * c
  | [] => by simp
  | a :: l => by rw [List.flatMap_cons, List.length_append, hf, flat_len hf l, List.length_cons, Nat.add_mul]; omega
theorem flat_at (hf : ∀ a, (f a).length = c) : ∀ (l : List α) (i : Nat) (hi : i < l.length) (j : Nat) (_ : j < c), (l.flatMap f)[i * c + j]? = (f l[i])[j]?
  | a :: l, 0, _, j, hj => by
    rw [List.flatMap_cons, Nat.zero_mul, Nat.zero_add, List.getElem?_append_left (by rw [hf]; exact hj)]
    rfl
  | a :: l, i + 1, hi, j, hj => by
    have := flat_at hf l i (by simpa using hi) j hj
    rw [List.flatMap_cons, List.getElem?_append_right (by rw [hf, Nat.add_mul]; omega), hf, show (i + 1) * c + j - c = i * c + j by rw [Nat.add_mul]; omega, this]
    rfl
theorem flat_take (hf : ∀ a, (f a).length = c) (l : List α) (i : Nat) (h : i ≤ l.length) : (l.take i).flatMap f = (l.flatMap f).take (i * c) := by
  have e : l.flatMap f = (l.take i).flatMap f ++ (l.drop i).flatMap f := by rw [← List.flatMap_append, List.take_append_drop]
  rw [e, List.take_left' (by rw [flat_len hf, List.length_take, Nat.min_eq_left h])]
theorem flat_drop (hf : ∀ a, (f a).length = c) (l : List α) (i : Nat) (h : i ≤ l.length) : (l.drop i).flatMap f = (l.flatMap f).drop (i * c) := by
  have e : l.flatMap f = (l.take i).flatMap f ++ (l.drop i).flatMap f := by rw [← List.flatMap_append, List.take_append_drop]
  rw [e, List.drop_left' (by rw [flat_len hf, List.length_take, Nat.min_eq_left h])]
end
def tagC (t : Tg) : List Value := [.int .i64 t.dir, .string t.name, .int .i64 (t.file : Nat)]
def filC (S : St) (i : Nat) : List Value := [.bool (S.has i 0), .bool (S.has i 1), .string (S.txt i 0), .string (S.txt i 1)]
theorem tagC_len (t : Tg) : (tagC t).length = 3 := rfl
theorem filC_len (S : St) (i : Nat) : (filC S i).length = 4 := rfl
def cellsT (l : List Tg) : List Value := l.flatMap tagC
def cellsF (S : St) (n : Nat) : List Value := (List.range n).flatMap (filC S)
theorem cellsT_one (l : List Tg) : ∀ u ∈ cellsT l, u.oneCell' = true := fun u hu => by
  obtain ⟨t, _, ht⟩ := List.mem_flatMap.1 hu
  simp only [tagC, List.mem_cons, List.not_mem_nil, or_false] at ht
  rcases ht with rfl | rfl | rfl <;> rfl
theorem cellsF_one (S : St) (n : Nat) : ∀ u ∈ cellsF S n, u.oneCell' = true := fun u hu => by
  obtain ⟨t, _, ht⟩ := List.mem_flatMap.1 hu
  simp only [filC, List.mem_cons, List.not_mem_nil, or_false] at ht
  rcases ht with rfl | rfl | rfl | rfl <;> rfl
theorem cellsT_add (l : List Tg) (t : Tg) : cellsT (l ++ [t]) = cellsT l ++ tagC t := by simp [cellsT]
theorem cellsT_cut (l : List Tg) (i : Nat) (h : i < l.length) : cellsT (l.take i ++ l.drop (i + 1)) = (cellsT l).take (i * 3) ++ (cellsT l).drop ((i + 1) * 3) := by
  unfold cellsT
  rw [List.flatMap_append, flat_take tagC_len l i (by omega), flat_drop tagC_len l (i + 1) (by omega)]
theorem filC_congr {S S' : St} {i : Nat} (h : ∀ p, p < 2 → S'.has i p = S.has i p ∧ S'.txt i p = S.txt i p) : filC S' i = filC S i := by
  unfold filC
  rw [(h 0 (by omega)).1, (h 1 (by omega)).1, (h 0 (by omega)).2, (h 1 (by omega)).2]
theorem cellsF_congr {S S' : St} {n : Nat} (h : ∀ i, i < n → filC S' i = filC S i) : cellsF S' n = cellsF S n := by
  unfold cellsF
  induction n with
  | zero => rfl
  | succ n ih => rw [List.range_succ, List.flatMap_append, List.flatMap_append, ih (fun i hi => h i (by omega))]; simp [h n (by omega)]
theorem cellsF_fresh (S : St) : cellsF S.fresh (S.next + 1) = cellsF S S.next ++ [.bool false, .bool false, .string ⟨#[]⟩, .string ⟨#[]⟩] := by
  have e : cellsF S.fresh (S.next + 1) = cellsF S.fresh S.next ++ filC S.fresh S.next := by unfold cellsF; rw [List.range_succ, List.flatMap_append]; simp
  rw [e, cellsF_congr (S := S) (fun i hi => filC_congr fun p _ => by simp [St.fresh, Nat.ne_of_lt hi])]
  congr 1
  simp [filC, St.fresh, none0]
/-- the reference's world -/
structure IRep (w : World) (b : Nat) (S : St) (l : List Tg) (vt vf : Value) : Prop where
  inv : Inv S
  tags : Tags S l
  root : w.heap[b]? = some (.cells #[vt, vf] 58 (0, 0))
  rowT : w.ownsRow 0 101 3 vt l.length (cellsT l)
  rowF : w.ownsRow 0 105 4 vf S.next (cellsF S S.next)
  offT : vt.ownBlock ≠ some b
  offF : vf.ownBlock ≠ some b
  apart : ∀ k, vt.ownBlock = some k → vf.ownBlock ≠ some k
def iown (b : Nat) (vt vf : Value) (k : Nat) : Prop := k = b ∨ vt.ownBlock = some k ∨ vf.ownBlock = some k
section
variable {w w' : World} {b : Nat} {S : St} {l : List Tg} {vt vf : Value}
theorem IRep.blt (h : IRep w b S l vt vf) : b < w.heap.size := (Array.getElem?_eq_some_iff.1 h.root).1
theorem IRep.lt (h : IRep w b S l vt vf) {k : Nat} (hk : iown b vt vf k) : k < w.heap.size := by
  rcases hk with rfl | hk | hk
  · exact h.blt
  · exact (h.rowT.lt k hk).2
  · exact (h.rowF.lt k hk).2
theorem IRep.keep (h : IRep w b S l vt vf) (hk : ∀ k, iown b vt vf k → w'.heap[k]? = w.heap[k]?) : IRep w' b S l vt vf :=
  ⟨h.inv, h.tags, by rw [hk b (.inl rfl)]; exact h.root, ownsRow_of_block h.rowT (fun k e => hk k (.inr (.inl e))), ownsRow_of_block h.rowF (fun k e => hk k (.inr (.inr e))), h.offT, h.offF, h.apart⟩
theorem IRep.below (h : IRep w b S l vt vf) (hb : Below w.heap.size w w') : IRep w' b S l vt vf := h.keep (fun k hk => hb.block k (h.lt hk))
theorem IRep.other (h : IRep w b S l vt vf) {own2 : Nat → Prop} (hc : Chg own2 w w') (hd : ∀ k, iown b vt vf k → ¬ own2 k) : IRep w' b S l vt vf := h.keep (fun k hk => hc.block k (h.lt hk) (hd k hk))
theorem row_cell {base : Nat} {e : TypeId} {size : Nat} {v : Value} {n : Nat} {xs : List Value} (h : w.ownsRow base e size v n xs) (hn : 0 < n) : ∃ g cap, v = .slice (some ⟨g, 0, none⟩) n cap ∧ g < w.heap.size ∧ ∀ j u, xs[j]? = some u → w.cell? ⟨g, j, none⟩ = some u := by
  rcases h.2 with ⟨_, e0⟩ | ⟨g, cap, cur, rfl, _, hg, _⟩
  · omega
  · refine ⟨g, cap, rfl, (Array.getElem?_eq_some_iff.1 hg).1, fun j u hj => ?_⟩
    have := h.cells (g := g) rfl j u hj
    rwa [Addr.add_lit, Nat.zero_add] at this
theorem IRep.rd (h : IRep w b S l vt vf) (h1 : l.length ≤ 1000000) (h2 : S.next ≤ 1000000) : ∃ ta fa tc fc, vt = .slice ta l.length tc ∧ vf = .slice fa S.next fc ∧ IRd w b S l ta fa tc fc := by
  obtain ⟨ta, tc, rfl, _⟩ := own_form h.rowT
  obtain ⟨fa, fc, rfl, _⟩ := own_form h.rowF
  refine ⟨ta, fa, tc, fc, rfl, rfl, h.blt, ?_, ?_, h1, h2, fun i hi => ?_, fun i hi => ?_⟩
  · rw [cell_of_row w b 0 _ _ _ h.root]; rfl
  · rw [cell_of_row w b 1 _ _ _ h.root]; rfl
  · obtain ⟨g, cap, e, hg, hc⟩ := row_cell h.rowT (by omega)
    simp only [Value.slice.injEq] at e
    have hat := flat_at tagC_len l i hi
    refine ⟨g, 0, e.1, hg, hc _ _ ?_, hc _ _ ?_, hc _ _ ?_⟩
    · rw [Nat.zero_add]; exact hat 0 (by omega)
    · rw [Nat.zero_add]; exact hat 1 (by omega)
    · rw [Nat.zero_add]; exact hat 2 (by omega)
  · obtain ⟨g, cap, e, hg, hc⟩ := row_cell h.rowF (by omega)
    simp only [Value.slice.injEq] at e
    have hat := fun j hj => flat_at (filC_len S) (List.range S.next) i (by simpa using hi) j hj
    rw [List.getElem_range] at hat
    refine ⟨g, 0, e.1, hg, fun p hp => hc _ _ ?_, fun p hp => hc _ _ ?_⟩
    · rw [Nat.zero_add]
      match p, hp with
      | 0, _ => exact hat 0 (by omega)
      | 1, _ => exact hat 1 (by omega)
    · rw [Nat.zero_add]
      match p, hp with
      | 0, _ => exact hat 2 (by omega)
      | 1, _ => exact hat 3 (by omega)
/-- another row of tags is laid into the root -/
theorem IRep.setT (h : IRep w b S l vt vf) {W : World} {row : Option Nat} {v : Value} {S' : St} {l' : List Tg} (hg : w.grownBy W row) (hr : row = none ∨ row = vt.ownBlock)
    (ho : W.ownsRow 0 101 3 v l'.length (cellsT l')) (ha : v.ownBlock = vt.ownBlock ∨ ∀ k, v.ownBlock = some k → w.heap.size ≤ k)
    (hI : Inv S') (hT : Tags S' l') (hn : S'.next = S.next) (hF : cellsF S' S.next = cellsF S S.next) :
    IRep (W.setCell ⟨b, 0, none⟩ v) b S' l' v vf ∧ Chg (iown b vt vf) w (W.setCell ⟨b, 0, none⟩ v) ∧ ∀ k, iown b v vf k → iown b vt vf k ∨ w.heap.size ≤ k := by
  have hbr : some b ≠ row := by
    rcases hr with rfl | rfl
    · intro e; cases e
    · exact fun e => h.offT e.symm
  have hb : W.heap[b]? = some (.cells #[vt, vf] 58 (0, 0)) := by rw [hg.block b h.blt hbr]; exact h.root
  have hoth : ∀ k, k ≠ b → (W.setCell ⟨b, 0, none⟩ v).heap[k]? = W.heap[k]? := fun k hk => Below.heap_setCell _ _ _ _ hk
  have hsz : (W.setCell ⟨b, 0, none⟩ v).heap.size = W.heap.size := by simp [World.setCell]
  have hvb : v.ownBlock ≠ some b := by
    rcases ha with e | e
    · rw [e]; exact h.offT
    · intro e2
      have := e b e2
      have := h.blt
      omega
  have hvf : ∀ k, vf.ownBlock = some k → W.heap[k]? = w.heap[k]? := fun k hk => hg.block k (h.rowF.lt k hk).2 (by
    rcases hr with rfl | rfl
    · intro e; cases e
    · exact fun e => h.apart k e.symm hk)
  refine ⟨⟨hI, hT, ?_, ownsRow_of_block ho (fun k hk => hoth k (fun e => hvb (by rw [← e]; exact hk))), ?_, hvb, h.offF, fun k hk hk2 => ?_⟩, ⟨?_, ?_, ?_, ?_, fun k hk hn2 => ?_⟩, fun k hk => ?_⟩
  · rw [setCell_eq_setRow W b 0 _ _ _ v hb, setRow_heap W b _ _ _ _ hb]
    rfl
  · rw [hn, hF]
    exact ownsRow_of_block h.rowF (fun k hk => by rw [hoth k (fun e => h.offF (by rw [← e]; exact hk)), hvf k hk])
  · rcases ha with e | e
    · exact h.apart k (by rw [← e]; exact hk) hk2
    · have := e k hk
      have := (h.rowF.lt k hk2).2
      omega
  · exact hg.os
  · exact hg.tape
  · exact hg.output
  · rw [hsz]; exact hg.size
  · rw [hoth k (fun e => hn2 (.inl e))]
    refine hg.block k hk ?_
    rcases hr with rfl | rfl
    · intro e; cases e
    · exact fun e => hn2 (.inr (.inl e.symm))
  · rcases hk with e | e | e
    · exact .inl (.inl e)
    · rcases ha with e2 | e2
      · exact .inl (.inr (.inl (by rw [← e2]; exact e)))
      · exact .inr (e2 k e)
    · exact .inl (.inr (.inr e))
/-- another row of files is -/
theorem IRep.setF (h : IRep w b S l vt vf) {W : World} {v : Value} {S' : St} (hg : w.grownBy W vf.ownBlock)
    (ho : W.ownsRow 0 105 4 v S'.next (cellsF S' S'.next)) (ha : v.ownBlock = vf.ownBlock ∨ ∀ k, v.ownBlock = some k → w.heap.size ≤ k)
    (hI : Inv S') (hT : Tags S' l) :
    IRep (W.setCell ⟨b, 1, none⟩ v) b S' l vt v ∧ Chg (iown b vt vf) w (W.setCell ⟨b, 1, none⟩ v) ∧ ∀ k, iown b vt v k → iown b vt vf k ∨ w.heap.size ≤ k := by
  have hb : W.heap[b]? = some (.cells #[vt, vf] 58 (0, 0)) := by rw [hg.block b h.blt (fun e => h.offF e.symm)]; exact h.root
  have hoth : ∀ k, k ≠ b → (W.setCell ⟨b, 1, none⟩ v).heap[k]? = W.heap[k]? := fun k hk => Below.heap_setCell _ _ _ _ hk
  have hsz : (W.setCell ⟨b, 1, none⟩ v).heap.size = W.heap.size := by simp [World.setCell]
  have hvb : v.ownBlock ≠ some b := by
    rcases ha with e | e
    · rw [e]; exact h.offF
    · intro e2
      have := e b e2
      have := h.blt
      omega
  have hvt : ∀ k, vt.ownBlock = some k → W.heap[k]? = w.heap[k]? := fun k hk => hg.block k (h.rowT.lt k hk).2 (fun e => h.apart k hk e.symm)
  refine ⟨⟨hI, hT, ?_, ?_, ownsRow_of_block ho (fun k hk => hoth k (fun e => hvb (by rw [← e]; exact hk))), h.offT, hvb, fun k hk hk2 => ?_⟩, ⟨hg.os, hg.tape, hg.output, by rw [hsz]; exact hg.size, fun k hk hn2 => ?_⟩, fun k hk => ?_⟩
  · rw [setCell_eq_setRow W b 1 _ _ _ v hb, setRow_heap W b _ _ _ _ hb]
    rfl
  · exact ownsRow_of_block h.rowT (fun k hk => by rw [hoth k (fun e => h.offT (by rw [← e]; exact hk)), hvt k hk])
  · rcases ha with e | e
    · exact h.apart k hk (by rw [← e]; exact hk2)
    · have := e k hk2
      have := (h.rowT.lt k hk).2
      omega
  · rw [hoth k (fun e => hn2 (.inl e))]
    exact hg.block k hk (fun e => hn2 (.inr (.inr e.symm)))
  · rcases hk with e | e | e
    · exact .inl (.inl e)
    · exact .inl (.inr (.inl e))
    · rcases ha with e2 | e2
      · exact .inl (.inr (.inr (by rw [← e2]; exact e)))
      · exact .inr (e2 k e)
end
end Idl
end Go.Proofs.Ytmhbphmdfnlmkaa
