/-
  A cache in memory.
-/
import Derived.Test.YtgipceeheohafabCb
import Derived.Test.YtgipceeheohafabUh
import Derived.Deep.RegionHeld
import Derived.Great.BuildSlice
namespace Go.Proofs.Ytgipceeheohafab
open Go.RowKit
theorem foldSet_list (off : Nat) : ∀ (l : List Value) (s : Nat) (cells : Array Value), off + s + l.length ≤ cells.size → ∀ i,
    ((l.zipIdx s).foldl (fun cs (p : Value × Nat) => cs.setIfInBounds (off + p.2) p.1) cells)[i]? = if off + s ≤ i ∧ i < off + s + l.length then l[i - off - s]? else cells[i]?
  | [], s, cells, _, i => by simp; omega
  | v :: l, s, cells, h, i => by
    simp only [List.zipIdx_cons, List.foldl_cons]
    rw [foldSet_list off l (s + 1) _ (by simp at h ⊢; omega) i, Array.getElem?_setIfInBounds]
    simp only [List.length_cons] at h ⊢
    by_cases e : i = off + s
    · subst e
      rw [if_neg (by omega), if_pos rfl, if_pos (by omega), if_pos (by omega)]
      simp
    · by_cases h1 : off + (s + 1) ≤ i ∧ i < off + (s + 1) + l.length
      · rw [if_pos h1, if_pos (by omega), show i - off - s = (i - off - (s + 1)) + 1 by omega]; simp
      · rw [if_neg h1, if_neg (by omega), if_neg (by omega)]
theorem foldSet_get (vs : Array Value) (off : Nat) (cells : Array Value) (h : off + vs.size ≤ cells.size) (i : Nat) :
    (vs.zipIdx.foldl (fun cs (p : Value × Nat) => cs.setIfInBounds (off + p.2) p.1) cells)[i]? = if off ≤ i ∧ i < off + vs.size then vs[i - off]? else cells[i]? := by
  rw [← Array.foldl_toList]
  have e : vs.zipIdx.toList = vs.toList.zipIdx := by simp
  rw [e]
  have := foldSet_list off vs.toList 0 cells (by simpa using h) i
  simpa using this
theorem foldSet_size (vs : Array Value) (off : Nat) (cells : Array Value) (h : off + vs.size ≤ cells.size) : (vs.zipIdx.foldl (fun cs (p : Value × Nat) => cs.setIfInBounds (off + p.2) p.1) cells).size = cells.size := by
  have h1 : ∀ i, ((vs.zipIdx.foldl (fun cs (p : Value × Nat) => cs.setIfInBounds (off + p.2) p.1) cells)[i]?).isSome = (cells[i]?).isSome := fun i => by
    rw [foldSet_get vs off cells h i]
    split
    · rename_i z
      rw [Array.getElem?_eq_getElem (by omega), Array.getElem?_eq_getElem (by omega)]; rfl
    · rfl
  have h2 := h1 cells.size
  have h3 := h1 (vs.zipIdx.foldl (fun cs (p : Value × Nat) => cs.setIfInBounds (off + p.2) p.1) cells).size
  rw [Array.getElem?_eq_none (Nat.le_refl cells.size)] at h2
  rw [Array.getElem?_eq_none (Nat.le_refl (vs.zipIdx.foldl (fun cs (p : Value × Nat) => cs.setIfInBounds (off + p.2) p.1) cells).size)] at h3
  have h4 : ¬ (cells.size < (vs.zipIdx.foldl (fun cs (p : Value × Nat) => cs.setIfInBounds (off + p.2) p.1) cells).size) := fun z => by rw [Array.getElem?_eq_getElem z] at h2; simp at h2
  have h5 : ¬ ((vs.zipIdx.foldl (fun cs (p : Value × Nat) => cs.setIfInBounds (off + p.2) p.1) cells).size < cells.size) := fun z => by rw [Array.getElem?_eq_getElem z] at h3; simp at h3
  omega
theorem fill_cons {place : Nat → Option (Nat × Nat)} {cells vs : Array Value} {i off size : Nat} {v : Value} {rest : List (Nat × Value)} (hp : place i = some (off, size)) (hv : v.cells = vs) (h1 : vs.size = size) (h2 : off + vs.size ≤ cells.size) :
    Instr.fill place cells ((i, v) :: rest) = Instr.fill place (vs.zipIdx.foldl (fun cs (p : Value × Nat) => cs.setIfInBounds (off + p.2) p.1) cells) rest := by
  subst hv
  rw [Instr.fill, hp]
  simp only
  rw [if_neg (by simp [h1]; omega)]
theorem fill_two {z cs ds : Array Value} (hz : z.size = 188) (h1 : cs.size = 94) (h2 : ds.size = 94) : Instr.fill (fun i => #[(0, 94), (94, 94)][i]?) z [(0, .agg cs), (1, .agg ds)] = some (cs ++ ds) := by
  have s1 := foldSet_size cs 0 z (by omega)
  have s2 := foldSet_size ds 94 (cs.zipIdx.foldl (fun cs (p : Value × Nat) => cs.setIfInBounds (0 + p.2) p.1) z) (by omega)
  rw [fill_cons (i := 0) (vs := cs) (off := 0) (size := 94) rfl rfl h1 (by omega), fill_cons (i := 1) (vs := ds) (off := 94) (size := 94) rfl rfl h2 (by omega)]
  show some _ = some _
  congr 1
  refine Array.ext_getElem? fun i => ?_
  rw [foldSet_get ds 94 _ (by rw [s1]; omega), foldSet_get cs 0 z (by omega), Array.getElem?_append]
  by_cases hi : i < 94
  · rw [if_neg (by omega), if_pos (by omega), if_pos (by omega)]; simp
  · by_cases hj : i < 188
    · rw [if_pos (by omega), if_neg (by omega), h1]
    · rw [if_neg (by omega), if_neg (by omega), if_neg (by omega), Array.getElem?_eq_none (by omega), Array.getElem?_eq_none (by omega)]
theorem cache_built (parts : List (Nat × Value)) : Try.prog.built 51 parts = Instr.fill (fun i => #[(0, 94), (94, 94)][i]?) (zeroCells ++ zeroCells) parts := by kernel_rfl
theorem built_two {cs ds : Array Value} (h1 : cs.size = 94) (h2 : ds.size = 94) : Try.prog.built 51 [(0, .agg cs), (1, .agg ds)] = some (cs ++ ds) := by rw [cache_built]; exact fill_two (by kernel_rfl) h1 h2
theorem wpList_build_two {P : Program} {ops : Array Oper} {rest : List Oper} {o : Oper} {a : Act} {w : World} {Q : Exit → Act → World → Prop} (hgd : o.guard = none) (ty : TypeId) (x y : Operand) (ho : o.op = .build ty #[(0, x), (1, y)]) (cs ds es : Array Value)
    (hx : a.eval x = .agg cs) (hy : a.eval y = .agg ds) (hb : P.built ty [(0, .agg cs), (1, .agg ds)] = some es) (h : wpList P ops Q rest (a.put o.dst (.agg es)) w) : wpList P ops Q (o :: rest) a w := by
  refine wpList_buildTo hgd ty _ ho _ rfl es ?_ h
  have e : ((#[(0, x), (1, y)] : Array (Nat × Operand)).map fun (p : Nat × Operand) => (p.1, a.eval p.2)).toList = [(0, .agg cs), (1, .agg ds)] := by simp [hx, hy]
  exact (congrArg (P.built ty) e).trans hb
theorem build_cache {cs ds : Array Value} (h1 : cs.size = 94) (h2 : ds.size = 94) (w : World) : (Instr.build 51 #[(0, .agg cs), (1, .agg ds)]).run Try.prog w = .ok (.agg (cs ++ ds)) w :=
  run_build w _ _ _ (by rw [cache_built]; exact fill_two (by kernel_rfl) h1 h2)
section
variable {cs ds : Array Value}
theorem app_fst (h1 : cs.size = 94) : (cs ++ ds).extract 0 (0 + 94) = cs := by
  rw [Nat.zero_add, ← h1]; simp
theorem app_snd (h1 : cs.size = 94) (h2 : ds.size = 94) : (cs ++ ds).extract 94 (94 + 94) = ds := by
  refine Array.ext_getElem? fun i => ?_
  rw [Array.getElem?_extract, Array.getElem?_append]
  by_cases hi : i < 94
  · rw [if_pos (by simp; omega), if_neg (by omega)]; congr 1; omega
  · rw [if_neg (by omega), Array.getElem?_eq_none (by omega)]
theorem splice_fst {es : Array Value} (h1 : cs.size = 94) (h3 : es.size = 94) : splice (cs ++ ds) 0 es = es ++ ds := by
  refine Array.ext_getElem? fun i => ?_
  rw [splice_get (by simp; omega), Array.getElem?_append, Array.getElem?_append]
  by_cases hi : i < 94
  · rw [if_neg (by omega), if_pos (by omega), if_pos (by omega)]; rfl
  · rw [if_neg (by omega), if_neg (by omega), if_neg (by omega), if_neg (by omega), h1, h3]
theorem splice_snd {es : Array Value} (h1 : cs.size = 94) (h2 : ds.size = 94) (h3 : es.size = 94) : splice (cs ++ ds) 94 es = cs ++ es := by
  refine Array.ext_getElem? fun i => ?_
  rw [splice_get (by simp; omega), Array.getElem?_append, Array.getElem?_append]
  by_cases hi : i < 94
  · rw [if_pos hi, if_pos (by omega), if_pos (by omega)]
  · by_cases hj : i < 188
    · rw [if_neg hi, if_pos (by omega), if_neg (by omega), h1]
    · rw [if_neg hi, if_neg (by omega), if_neg (by omega), if_neg (by omega), Array.getElem?_eq_none (by omega), Array.getElem?_eq_none (by omega)]
end
/-- rows of some types in blocks, all of them new -/
structure Bx (w wr : World) (l : List (Nat × Array Value × TypeId)) : Prop where
  below : Below w.heap.size w wr
  lo : ∀ p ∈ l, w.heap.size ≤ p.1
  row : ∀ p ∈ l, wr.heap[p.1]? = some (.cells p.2.1 p.2.2)
  nd : (l.map (·.1)).Nodup
/-- one block is another row now; the others that were there are as they were -/
structure Mut (w w' : World) (g : Nat) (c : Array Value) (t : TypeId) : Prop where
  below : ∀ B, B ≤ g → B ≤ w.heap.size → Below B w w'
  row : w'.heap[g]? = some (.cells c t)
  old : ∀ j, j < w.heap.size → j ≠ g → w'.heap[j]? = w.heap[j]?
section
variable {w w1 w2 wr : World} {g : Nat} {c c' : Array Value} {t : TypeId} {l : List (Nat × Array Value × TypeId)}
theorem Mut.of {w3 : World} (h : Below w.heap.size w w1) (hg : g < w.heap.size) (e : w3 = w1.setRow g c') (hr : w.heap[g]? = some (.cells c t)) : Mut w w3 g c' t := by
  subst e
  refine ⟨fun B h1 h2 => below_setRow (h.mono h2) h1 _, ?_, fun j hj hne => ?_⟩
  · exact setRow_heap _ _ _ _ _ _ (by rw [h.block _ hg]; exact hr)
  · rw [setRow_other _ _ _ _ hne, h.block _ hj]
theorem Mut.refl' (hb : Below w.heap.size w w1) (hg : g < w.heap.size) (hr : w.heap[g]? = some (.cells c t)) : Mut w w1 g c t :=
  ⟨fun B _ h2 => hb.mono h2, by rw [hb.block _ hg]; exact hr, fun j hj _ => hb.block _ hj⟩
theorem Mut.size (h : Mut w w1 g c t) : w.heap.size ≤ w1.heap.size := (h.below 0 (Nat.zero_le _) (Nat.zero_le _)).size
theorem Mut.trans (h : Mut w w1 g c t) (h' : Mut w1 w2 g c' t) : Mut w w2 g c' t :=
  ⟨fun B h1 h2 => (h.below B h1 h2).trans (h'.below B h1 (Nat.le_trans h2 h.size)), h'.row, fun j hj hne => by rw [h'.old j (Nat.lt_of_lt_of_le hj h.size) hne, h.old j hj hne]⟩
theorem Mut.call (h : Mut w w1 g c t) (hg : g < w.heap.size) (hb : Below w1.heap.size w1 w2) : Mut w w2 g c t :=
  ⟨fun B h1 h2 => (h.below B h1 h2).trans (hb.mono (Nat.le_trans h2 h.size)), by rw [hb.block _ (Nat.lt_of_lt_of_le hg h.size)]; exact h.row, fun j hj hne => by rw [hb.block _ (Nat.lt_of_lt_of_le hj h.size), h.old j hj hne]⟩
theorem Bx.hi (h : Bx w wr l) {p : Nat × Array Value × TypeId} (hp : p ∈ l) : p.1 < wr.heap.size := (Array.getElem?_eq_some_iff.1 (h.row p hp)).1
theorem Bx.start (w : World) : Bx w w [] := ⟨Below.refl _ _, fun _ h => by simp at h, fun _ h => by simp at h, by simp⟩
theorem Bx.call (h : Bx w wr l) (hb : Below wr.heap.size wr w1) : Bx w w1 l :=
  ⟨h.below.trans (hb.mono h.below.size), h.lo, fun p hp => by rw [hb.block _ (h.hi hp)]; exact h.row p hp, h.nd⟩
theorem Bx.draw (h : Bx w wr l) (q : Nat) : Bx w (wr.drewN q) l := h.call (belowN (Below.refl _ _))
/-- a block that was laid since -/
theorem Bx.add (h : Bx w wr l) (hb : Below wr.heap.size wr w1) (hg : wr.heap.size ≤ g) (hr : w1.heap[g]? = some (.cells c t)) : Bx w w1 ((g, c, t) :: l) := by
  have h1 := h.call hb
  refine ⟨h1.below, fun p hp => ?_, fun p hp => ?_, ?_⟩
  · rcases List.mem_cons.1 hp with e | e
    · subst e; exact Nat.le_trans h.below.size hg
    · exact h1.lo p e
  · rcases List.mem_cons.1 hp with e | e
    · subst e; exact hr
    · exact h1.row p e
  · rw [List.map_cons, List.nodup_cons]
    refine ⟨fun hm => ?_, h.nd⟩
    obtain ⟨p, hp, e⟩ := List.mem_map.1 hm
    have := h.hi hp
    simp at e; omega
theorem Bx.box (h : Bx w wr l) (c : Array Value) (t : TypeId) : Bx w (wr.alloc (.cells c t)) ((wr.heap.size, c, t) :: l) :=
  h.add ((Below.refl _ _).alloc (Nat.le_refl _) _) (Nat.le_refl _) (heap_alloc_last _ _)
theorem Bx.mut0 (h : Bx w wr ((g, c, t) :: l)) (hm : Mut wr w1 g c' t) : Bx w w1 ((g, c', t) :: l) := by
  have hn := h.nd
  rw [List.map_cons, List.nodup_cons] at hn
  refine ⟨h.below.trans (hm.below _ (h.lo _ (List.mem_cons_self ..)) h.below.size), fun p hp => ?_, fun p hp => ?_, by rw [List.map_cons, List.nodup_cons]; exact hn⟩
  · rcases List.mem_cons.1 hp with e | e
    · subst e; exact h.lo (g, c, t) (List.mem_cons_self ..)
    · exact h.lo p (List.mem_cons_of_mem _ e)
  · rcases List.mem_cons.1 hp with e | e
    · subst e; exact hm.row
    · rw [hm.old _ (h.hi (List.mem_cons_of_mem _ e)) (fun z => hn.1 (by rw [← z]; exact List.mem_map_of_mem (f := (·.1)) e))]
      exact h.row p (List.mem_cons_of_mem _ e)
theorem Bx.swap {p q : Nat × Array Value × TypeId} (h : Bx w wr (p :: q :: l)) : Bx w wr (q :: p :: l) := by
  have hm : ∀ x, x ∈ q :: p :: l → x ∈ p :: q :: l := fun x hx => by simp at hx ⊢; rcases hx with e | e | e <;> simp [e]
  refine ⟨h.below, fun x hx => h.lo x (hm x hx), fun x hx => h.row x (hm x hx), ?_⟩
  have hn := h.nd
  simp only [List.map_cons, List.nodup_cons, List.mem_cons] at hn ⊢
  obtain ⟨h1, h2, h3⟩ := hn
  exact ⟨fun z => by rcases z with z | z; exact h1 (.inl z.symm); exact h2 z, fun z => h1 (.inr z), h3⟩
theorem Bx.mut1 {p : Nat × Array Value × TypeId} (h : Bx w wr (p :: (g, c, t) :: l)) (hm : Mut wr w1 g c' t) : Bx w w1 (p :: (g, c', t) :: l) := ((h.swap).mut0 hm).swap
theorem Bx.is (h : Bx w wr l) {c : Array Value} (hp : (g, c, 34) ∈ l) {m : Img} (hi : IsImg c m) : Row wr g m := ⟨c, h.row (g, c, _) hp, hi⟩
theorem Bx.has (h : Bx w wr l) {c : Array Value} (hp : (g, c, 34) ∈ l) {m : Img} (hi : IsImg c m) : HasImg wr g m := (h.is hp hi).has
theorem Bx.fst (h : Bx w wr l) {cs ds : Array Value} (hp : (g, cs ++ ds, t) ∈ l) {m : Img} (hi : IsImg cs m) : HasAt wr g 0 m :=
  hasAt_of (h.row _ hp) (by simp [hi.size]) (app_fst hi.size) hi
theorem Bx.snd (h : Bx w wr l) {cs ds : Array Value} (hp : (g, cs ++ ds, t) ∈ l) {k : Img} (hc : cs.size = 94) (hi : IsImg ds k) : RowAt wr g 94 k :=
  ⟨ds, _, _, h.row _ hp, by simp [hi.size]; omega, app_snd hc hi.size, hi⟩
end
end Go.Proofs.Ytgipceeheohafab
