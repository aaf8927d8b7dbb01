/-
  A part of a row, loaded and stored whole; a directory put back.
-/
import Derived.Test.YtlbgkpibaahglacDoorTg
import Derived.Laws.CopyRow
namespace Go.Proofs.YtlbgkpibaahglacDoor
open Go.RowKit
section
variable {P : Program}
theorem run_loadVar_part (w : World) (g o n : Nat) (t ty : TypeId) (cs : Array Value) (d : TypeDesc) (hg : w.heap[g]? = some (.cells cs t (0, 0)))
    (hu : P.underlying ty = some d) (hd : (match d with | .struct _ | .array _ _ => true | _ => false) = true) (hi : (P.info? ty).map (·.size) = some n) (hn : o + n ≤ cs.size) :
    (loadVar ty ⟨g, o, none⟩).run P w = .ok (.agg (cs.extract o (o + n))) w := by
  have hs : (cs.extract o (o + n)).size = n := by simp; omega
  have hl : (loadCells ⟨g, o, none⟩ (cs.extract o (o + n)).toList.length).run P w = .ok (cs.extract o (o + n)).toList.toArray w :=
    run_loadCells_list (P := P) w ⟨g, o, none⟩ (cs.extract o (o + n)).toList (fun j v hv => by
      have hadd : (⟨g, o, none⟩ : Addr).add j = ⟨g, o + j, none⟩ := by unfold Addr.add; split <;> simp_all
      rw [hadd, cell_of_row w g (o + j) cs t (0, 0) hg]
      have hv' : (cs.extract o (o + n))[j]? = some v := by rw [← Array.getElem?_toList]; exact hv
      rw [Array.getElem?_extract] at hv'
      split at hv'
      · exact hv'
      · cases hv')
  cases hq : P.info? ty with
  | none => simp [hq] at hi
  | some i =>
    have hsz : i.size = n := by simpa [hq] using hi
    have hagg : (isAgg ty).run P w = .ok true w := by
      unfold isAgg
      rw [Sem.run_bind, run_underlying hu w]
      cases d <;> simp_all
    rw [Array.length_toList, hs, Array.toArray_toList] at hl
    simp [loadVar, Sem.run_bind, hagg, sizeOf, typeInfo, hq, hsz, hl]
theorem wpList_load_part {ops : Array Oper} {rest : List Oper} {o : Oper} {a : Act} {w : World} {Q : Exit → Act → World → Prop} (hgd : o.guard = none) (ty : TypeId) (x : Operand) (ho : o.op = .load ty x)
    (g off n : Nat) (hx : a.eval x = .pointer (some ⟨g, off, none⟩)) (t : TypeId) (cs : Array Value) (d : TypeDesc) (hg : w.heap[g]? = some (.cells cs t (0, 0)))
    (hu : P.underlying ty = some d) (hd : (match d with | .struct _ | .array _ _ => true | _ => false) = true) (hi : (P.info? ty).map (·.size) = some n) (hn : off + n ≤ cs.size)
    (h : wpList P ops Q rest (a.put o.dst (.agg (cs.extract off (off + n)))) w) : wpList P ops Q (o :: rest) a w :=
  wpList_plain hgd fun _ hK => by
    unfold Oper.wp execOp
    simp only [ho, hx, Instr.loadAt, Instr.sureAddr, Sem.run_bind, Sem.run_pure, Result.andThen_ok, run_loadVar_part w g off n t ty cs d hg hu hd hi hn]
    exact hK _ _ h
def splice (cs : Array Value) (o : Nat) (vs : Array Value) : Array Value := (cs.toList.take o ++ vs.toList ++ cs.toList.drop (o + vs.size)).toArray
theorem run_storeVar_part (w : World) (g o : Nat) (t ty : TypeId) (old cells : Array Value) (hg : w.heap[g]? = some (.cells old t (0, 0))) (hi : (P.info? ty).map (·.size) = some cells.size)
    (ho : o + cells.size ≤ old.size) (h1 : cells.all (·.oneCell') = true) :
    (storeVar ty ⟨g, o, none⟩ (.agg cells)).run P w = .ok () (w.setRow g (splice old o cells)) := by
  have := run_storeCells_at (P := P) g o t cells.toList 0 old w hg (by simp; omega) (fun v hv => (Array.all_eq_true_iff_forall_mem.1 h1) v (by simpa using hv))
  cases hq : P.info? ty with
  | none => simp [hq] at hi
  | some i =>
    have hs : cells.size = i.size := by simp [hq] at hi; omega
    simp [storeVar, sizeOf, typeInfo, hq, Value.cells, hs, this, splice]
theorem wpList_store_part {ops : Array Oper} {rest : List Oper} {o : Oper} {a : Act} {w : World} {Q : Exit → Act → World → Prop} (hgd : o.guard = none) (ty : TypeId) (x y : Operand) (ho : o.op = .store ty x y)
    (g off : Nat) (cells : Array Value) (hx : a.eval x = .pointer (some ⟨g, off, none⟩)) (hy : a.eval y = .agg cells) (t : TypeId) (old : Array Value) (hg : w.heap[g]? = some (.cells old t (0, 0)))
    (hi : (P.info? ty).map (·.size) = some cells.size) (hold : off + cells.size ≤ old.size) (h1 : cells.all (·.oneCell') = true)
    (h : wpList P ops Q rest (a.put o.dst undef) (w.setRow g (splice old off cells))) : wpList P ops Q (o :: rest) a w :=
  wpList_plain hgd fun _ hK => by
    unfold Oper.wp execOp
    simp only [ho, hx, hy, Instr.storeAt, Instr.sureAddr, Sem.run_bind, Sem.run_pure, Result.andThen_ok, run_storeVar_part w g off t ty old cells hg hi hold h1]
    exact hK _ _ h
end
theorem splice_get {cs vs : Array Value} {o j : Nat} (h : o + vs.size ≤ cs.size) : (splice cs o vs)[j]? = if j < o then cs[j]? else if j < o + vs.size then vs[j - o]? else cs[j]? := by
  unfold splice
  rw [List.getElem?_toArray, List.append_assoc, List.getElem?_append]
  have hl : (cs.toList.take o).length = o := by simp; omega
  rw [hl]
  by_cases h1 : j < o
  · rw [if_pos h1, if_pos h1, List.getElem?_take, if_pos h1]; simp
  · rw [if_neg h1, if_neg h1, List.getElem?_append, Array.length_toList]
    by_cases h2 : j < o + vs.size
    · rw [if_pos (by omega), if_pos h2]; simp
    · rw [if_neg (by omega), if_neg h2, List.getElem?_drop, show o + vs.size + (j - o - vs.size) = j by omega]; simp
/-- where two images agree but for a directory, that directory put back gives the one -/
theorem dir_back {cx ds : Array Value} {X K : Img} (hx : IsImg cx X) (hj : IsImg ds K) {d : Nat} (hd : d < 3) (ha : Img.Agree (Img.backDir X K d 4) K) : splice cx (40 + d * 12) (ds.extract (40 + d * 12) (40 + d * 12 + 12)) = ds := by
  have hsz : (ds.extract (40 + d * 12) (40 + d * 12 + 12)).size = 12 := by simp [hj.size]; omega
  have hb := (((hx.putEnt (s := 0) hd (by omega) (K.entry d 0) (hj.small d 0)).putEnt (s := 1) hd (by omega) (K.entry d 1) (hj.small d 1)).putEnt (s := 2) hd (by omega) (K.entry d 2) (hj.small d 2)).putEnt (s := 3) hd (by omega) (K.entry d 3) (hj.small d 3)
  have he := hb.agree hj ha
  refine Array.ext_getElem? fun i => ?_
  rw [splice_get (by rw [hsz, hx.size]; omega), hsz]
  have z0 := hx.size
  have out : ¬ (40 + d * 12 ≤ i ∧ i < 40 + d * 12 + 12) → cx[i]? = ds[i]? := fun h => by
    rw [← he]
    unfold put3v
    rw [set3_get (by simp; omega), if_neg (by omega), if_neg (by omega), if_neg (by omega), set3_get (by simp; omega), if_neg (by omega), if_neg (by omega), if_neg (by omega), set3_get (by simp; omega), if_neg (by omega), if_neg (by omega), if_neg (by omega), set3_get (by omega), if_neg (by omega), if_neg (by omega), if_neg (by omega)]
  by_cases h1 : i < 40 + d * 12
  · rw [if_pos h1]; exact out (by omega)
  · rw [if_neg h1]
    by_cases h2 : i < 40 + d * 12 + 12
    · rw [if_pos h2, Array.getElem?_extract, if_pos (by rw [hj.size]; omega), show 40 + d * 12 + (i - (40 + d * 12)) = i by omega]
    · rw [if_neg h2]; exact out (by omega)
theorem dir_info : (Tryd.prog.info? 28).map (·.size) = some 12 := by kernel_rfl
theorem dir_cells {ds : Array Value} {K : Img} (hj : IsImg ds K) {d : Nat} (hd : d < 3) : (Tryd.prog.info? 28).map (·.size) = some (ds.extract (40 + d * 12) (40 + d * 12 + 12)).size := by
  rw [dir_info]; simp [hj.size]; omega
theorem all_extract {ds : Array Value} {a b : Nat} (h : ds.all (·.oneCell') = true) : (ds.extract a b).all (·.oneCell') = true := by
  rw [Array.all_eq_true_iff_forall_mem] at h ⊢
  intro v hv
  obtain ⟨i, hi⟩ := Array.mem_iff_getElem?.1 hv
  rw [Array.getElem?_extract] at hi
  split at hi
  · exact h v (Array.mem_of_getElem? hi)
  · cases hi
theorem Boxes.part {w wr : World} {l : List (Nat × Array Value)} {g : Nat} {c : Array Value} (h : Boxes w wr ((g, c) :: l)) (hg : ∀ p ∈ l, p.1 ≠ g) (c' : Array Value) : Boxes w (wr.setRow g c') ((g, c') :: l) := by
  have h0 := h.lo (g, c) (by simp)
  refine ⟨below_setRow h.below h0 _, fun p hp => ?_, fun p hp => ?_⟩
  · rcases List.mem_cons.1 hp with e | e
    · subst e; exact h0
    · exact h.lo p (by simp [e])
  · rcases List.mem_cons.1 hp with e | e
    · subst e; exact setRow_heap _ _ _ _ _ _ (h.row (g, c) (by simp))
    · have := hg p e
      rw [setRow_other _ _ _ _ (by omega)]; exact h.row p (by simp [e])
end Go.Proofs.YtlbgkpibaahglacDoor
