/-
  The walks of slices.Insert (one element more) and slices.Delete (one element less) over the rows of entries.
-/
import Derived.Test.YtmhbphmdfnlmkaaVc
import Derived.Maps.AppendAt
import Derived.Lib.AppendZerosOnto
import Derived.Lib.Overlaps
import Derived.Laws.IdiomCopy
import Derived.Laws.Externs
import Derived.Deep.RegionLaw
namespace Go.Proofs.Ytmhbphmdfnlmkaa
open Go.RowKit
namespace Idl
theorem row_setCells (g : Nat) (t : TypeId) : ∀ (vs : List Value) (o : Nat) (w : World) (cur : Array Value), w.heap[g]? = some (.cells cur t (0, 0)) → o + vs.length ≤ cur.size →
    (w.setCells g o vs).heap[g]? = some (.cells (cur.toList.take o ++ vs ++ cur.toList.drop (o + vs.length)).toArray t (0, 0))
  | [], o, w, cur, hg, _ => by
    rw [World.setCells, List.append_nil, List.length_nil, Nat.add_zero, List.take_append_drop]
    simpa using hg
  | v :: r, o, w, cur, hg, hl => by
    simp only [List.length_cons] at hl
    rw [World.setCells, setCell_eq_setRow w g o cur t (0, 0) v hg]
    rw [row_setCells g t r (o + 1) _ (cur.setIfInBounds o v) (setRow_heap w g cur _ t _ hg) (by simp; omega)]
    have e := list_seg_step cur.toList o v r (by simp; omega)
    rw [Array.toList_setIfInBounds, e]
    rfl
theorem other_setCells (g : Nat) : ∀ (vs : List Value) (o : Nat) (w : World) (k : Nat), k ≠ g → (w.setCells g o vs).heap[k]? = w.heap[k]?
  | [], _, _, _, _ => rfl
  | v :: r, o, w, k, hk => by rw [World.setCells, other_setCells g r (o + 1) _ k hk, Below.heap_setCell _ _ _ _ hk]
theorem frame_setCells (g : Nat) : ∀ (vs : List Value) (o : Nat) (w : World), (w.setCells g o vs).os = w.os ∧ (w.setCells g o vs).tape = w.tape ∧ (w.setCells g o vs).output = w.output ∧ (w.setCells g o vs).heap.size = w.heap.size
  | [], _, _ => ⟨rfl, rfl, rfl, rfl⟩
  | v :: r, o, w => by
    obtain ⟨h1, h2, h3, h4⟩ := frame_setCells g r (o + 1) (w.setCell ⟨g, o, none⟩ v)
    exact ⟨h1.trans rfl, h2.trans rfl, h3.trans rfl, h4.trans (by simp [World.setCell])⟩
theorem grownBy_setCells (w w' : World) (g o : Nat) (vs : List Value) (h : w.grownBy w' (some g)) : w.grownBy (w'.setCells g o vs) (some g) := by
  obtain ⟨h1, h2, h3, h4⟩ := frame_setCells g vs o w'
  exact ⟨h1.trans h.os, h2.trans h.tape, h3.trans h.output, by rw [h4]; exact h.size, fun k hk hne => by rw [other_setCells g vs o w' k (fun e => hne (by rw [e]))]; exact h.block k hk hne⟩
section
variable {P : Program}
theorem run_copy_k (w : World) (dT sT ty elem : TypeId) (i : TypeInfo) (b o dLen dCap : Nat) (a : Addr) (sLen sCap : Nat) (cs : List Value)
    (hu : P.underlying dT = some (.slice elem)) (hi : P.info? elem = some i) (hn : cs.length = Nat.min sLen dLen * i.size)
    (hsrc : ∀ j v, cs[j]? = some v → w.cell? (a.add j) = some v) (hc : ∀ j, j < cs.length → (w.cell? ⟨b, o + j, none⟩).isSome = true) (hf : ∀ j, j < cs.length → w.frozen? ⟨b, o + j, none⟩ = false) (h1 : ∀ v ∈ cs, v.oneCell' = true) :
    (Builtin.copy_ #[dT, sT] ty #[.slice (some ⟨b, o, none⟩) dLen dCap, .slice (some a) sLen sCap]).run P w = .ok (goInt (Nat.min sLen dLen)) (w.setCells b o cs) := by
  have hl := run_loadCells_list (P := P) w a cs hsrc
  have hst := run_storeCells_cells (P := P) b o cs 0 w (by simpa using hc) (by simpa using hf) h1
  simp [Builtin.copy_, run_underlying hu, Builtin.lenOf, Builtin.firstCells, sizeOf, typeInfo, hi, ← hn, hl, hst]
theorem wp_copy_r (w : World) {o : Oper} {a : Act} {K : Act → World → Prop} {Q : Exit → Act → World → Prop} (d s : Operand) (t t' : TypeId)
    (ho : o.op = .call { callee := .builtin .copy, args := #[d, s], argTypes := #[t, t'] }) (v u : Value) (hd : a.eval d = v) (hs : a.eval s = u) {v' : Value} {w' : World}
    (hr : (Builtin.copy_ #[t, t'] o.type #[v, u]).run P w = .ok v' w') (h : K (a.put o.dst v') w') : o.wp P a w K Q := by
  unfold Oper.wp execOp
  simp only [ho, resolve, invoke, builtin, Sem.run_bind, Sem.run_pure, Result.andThen_ok, List.map_toArray, List.map_cons, List.map_nil, hd, hs, hr]
  exact h
theorem wpList_copy_r (w : World) {ops : Array Oper} {rest : List Oper} {o : Oper} {a : Act} {Q : Exit → Act → World → Prop} (hgd : o.guard = none) (d s : Operand) (t t' : TypeId)
    (ho : o.op = .call { callee := .builtin .copy, args := #[d, s], argTypes := #[t, t'] }) (v u : Value) (hd : a.eval d = v) (hs : a.eval s = u) {v' : Value} {w' : World}
    (hr : (Builtin.copy_ #[t, t'] o.type #[v, u]).run P w = .ok v' w') (h : wpList P ops Q rest (a.put o.dst v') w') : wpList P ops Q (o :: rest) a w :=
  wpList_plain hgd fun _ hK => wp_copy_r w d s t t' ho v u hd hs hr (hK _ _ h)
theorem step_copy_r {ops : Array Oper} {o : Oper} {a : Act} {w : World} {K : Act → World → Prop} {Q : Exit → Act → World → Prop} {E : Prop}
    (hg : o.guard = none) (d x : Operand) (dT sT : TypeId) (hop : o.op = Op.call { callee := Callee.builtin Builtin.copy, args := #[d, x], argTypes := #[dT, sT] })
    (v u : Value) (hd : a.eval d = v) (hx : a.eval x = u) {v' : Value} {w' : World} (hr : (Builtin.copy_ #[dT, sT] o.type #[v, u]).run P w = .ok v' w') (hK : K (a.put o.dst v') w') :
    if Region.wanted o (yielded ops a.tmps) = true then Oper.wp P o a w K Q else E := by
  rw [if_pos (by simp [Region.wanted, hg])]
  unfold Oper.wp
  simp [execOp, hop, resolve, invoke, builtin, hd, hx, hr, Result.andThen]
  exact hK
end
theorem entInfo : (Try.prog.info? 107).map (fun i => (i.zero, i.size, i.bytes)) = some (some (.agg #[.string ⟨#[]⟩, .pointer none]), 2, 24) := by kernel_rfl
theorem ent_info : ∃ i, Try.prog.info? 107 = some i ∧ i.zero = some (.agg #[.string ⟨#[]⟩, .pointer none]) ∧ i.size = 2 ∧ i.bytes = 24 := by
  have h := entInfo
  cases hq : Try.prog.info? 107 with
  | none => rw [hq] at h; cases h
  | some i =>
    rw [hq] at h
    simp only [Option.map_some, Option.some.injEq, Prod.mk.injEq] at h
    exact ⟨i, rfl, h.1, h.2.1, h.2.2⟩
/-- what slices.Insert leaves: a row with one element more, in its old block or in a new one -/
structure Inserted (w w' : World) (sv sv' : Value) (n : Nat) (xs : List Value) : Prop where
  row : w'.ownsRow 0 107 2 sv' n xs
  grown : w.grownBy w' sv.ownBlock
  place : sv'.ownBlock = sv.ownBlock ∨ sv'.ownBlock = some w.heap.size
set_option maxHeartbeats 2000000 in
set_option maxRecDepth 100000 in
theorem Insert_end {w : World} {sv : Value} {n : Nat} {xs : List Value} (h : w.ownsRow 0 107 2 sv n xs) (hn : n ≤ 2000) (vb : Nat) (vs : List Value) (hvl : vs.length = 2)
    (hvs : ∀ j v, vs[j]? = some v → w.cell? ⟨vb, j, none⟩ = some v) (hv1 : ∀ v ∈ vs, v.oneCell' = true) :
    Calls Try.prog 78 #[sv, .int .i64 n, .slice (some ⟨vb, 0, none⟩) 1 1] w fun e w' => ∃ sv', e = .returned sv' ∧ Inserted w w' sv sv' (n + 1) (xs ++ vs) := by
  obtain ⟨i0, hi0, hz, hs2, hby⟩ := ent_info
  obtain ⟨v', w', hrun, h1, h2, _, h3⟩ := run_append_own_at (P := Try.prog) w 0 86 86 107 i0 _ 2 24 Try.underlying86 hi0 hz hs2 hby rfl (by omega) sv n xs h ⟨vb, 0, none⟩ 1 1 vs hvl
    (fun j u hj => by rw [Addr.add_lit, Nat.zero_add]; exact hvs j u hj) hv1 (by unfold maxLen; omega) (by omega) (Nat.zero_le _)
  have HI := hide (⟨h1, h2, h3⟩ : Inserted w w' sv v' (n + 1) (xs ++ vs))
  rcases h.2 with ⟨rfl, rfl⟩ | ⟨g, cap, cur, rfl, _, _, hnc, hcm, _, _⟩
  · clear h h1 h2 h3 hvs hv1 hz hs2 hby hi0
    go_enter Try.func78, Try.ntmps78
    go_wp2_with (at_builtin; refine Lib.wpList_append_run _ rfl _ _ _ _ rfl _ _ rfl rfl _ _ hrun ?_)
    go_ret
    exact ⟨_, rfl, unhide HI⟩
  · unfold maxLen at hcm
    clear h h1 h2 h3 hvs hv1 hz hs2 hby hi0
    rcases Nat.lt_or_eq_of_le hnc with hlt | rfl
    · have hq : ¬ (cap = n) := by omega
      go_enter Try.func78, Try.ntmps78
      go_wp2_with (at_builtin; refine Lib.wpList_append_run _ rfl _ _ _ _ rfl _ _ rfl rfl _ _ hrun ?_)
      go_ret
      exact ⟨_, rfl, unhide HI⟩
    · go_enter Try.func78, Try.ntmps78
      go_wp2_with (at_builtin; refine Lib.wpList_append_run _ rfl _ _ _ _ rfl _ _ rfl rfl _ _ hrun ?_)
      go_ret
      exact ⟨_, rfl, unhide HI⟩
theorem overlaps_no (w : World) (vb g o : Nat) (cur vcur : Array Value) (hne : vb ≠ g) (hg : w.heap[g]? = some (.cells cur 107 (0, 0))) (hk : cur.size ≠ 0) (hv : w.heap[vb]? = some (.cells vcur 107 (0, 0))) (m vc lb cb : Nat) :
    (callFunc 82 #[.slice (some ⟨vb, 0, none⟩) m vc, .slice (some ⟨g, o, none⟩) lb cb]).run Try.prog w = .ok (.value (.bool false)) w := by
  rw [run_callFunc_extern Try.func82 (by kernel_rfl) (by kernel_rfl) (by kernel_rfl) (e := Extern.SlicesOverlaps.overlaps #[86, 86] #[4]) (by kernel_rfl),
    Lib.run_overlaps_apart w 86 4 107 Try.underlying86 2 Try.sizeOf107 ⟨vb, 0, none⟩ ⟨g, o, none⟩ m vc lb cb hne 107 107 vcur.size cur.size (by simp [World.shape?, hv]) (by simp [World.shape?, hg]) hk (by simp [World.frozen?, hv]) (by simp [World.frozen?, hv])]
  rfl
set_option maxHeartbeats 2000000 in
set_option maxRecDepth 100000 in
theorem Insert_shift {w : World} (g n cap i vb : Nat) (cur : Array Value) (xs vs : List Value) (hg : w.heap[g]? = some (.cells cur 107 (0, 0))) (hcs : cur.size = cap * 2)
    (hx : cur.toList.take (n * 2) = xs) (hi : i < n) (hn : n + 1 ≤ cap) (hn2 : n ≤ 2000) (hne : vb ≠ g) (hvb : w.heap[vb]? = some (.cells vs.toArray 107 (0, 0))) (hvl : vs.length = 2)
    (h1x : ∀ v ∈ xs, v.oneCell' = true) (h1v : ∀ v ∈ vs, v.oneCell' = true) :
    Calls Try.prog 78 #[.slice (some ⟨g, 0, none⟩) n cap, .int .i64 i, .slice (some ⟨vb, 0, none⟩) 1 1] w fun e w' =>
      e = .returned (.slice (some ⟨g, 0, none⟩) (n + 1) cap) ∧ w' = (w.drew.setCells g ((i + 1) * 2) (xs.drop (i * 2))).setCells g (i * 2) vs := by
  obtain ⟨i0, hi0, hz, hs2, hby⟩ := ent_info
  have hov := overlaps_no w vb g ((i + 1) * 2) cur vs.toArray hne hg (by omega) hvb 1 1
  have hxl : xs.length = n * 2 := by rw [← hx, List.length_take, Array.length_toList]; omega
  have hc0 : ∀ j, w.cell? ⟨g, j, none⟩ = cur[j]? := fun j => cell_of_row w g j cur _ _ hg
  have hf0 : ∀ j, w.frozen? ⟨g, j, none⟩ = false := fun j => by simp [World.frozen?, hg]
  have hxc : ∀ j v, xs[j]? = some v → w.cell? ⟨g, j, none⟩ = some v := fun j v hj => by
    rw [hc0, ← hj, ← hx, List.getElem?_take, if_pos (by have := (List.getElem?_eq_some_iff.1 hj).1; omega)]; simp
  have hsp : ∀ j, j < cap * 2 → (w.cell? ⟨g, j, none⟩).isSome = true := fun j hj => by rw [hc0, Array.getElem?_eq_getElem (by omega)]; rfl
  have hvc : ∀ j v, vs[j]? = some v → w.cell? ⟨vb, j, none⟩ = some v := fun j v hj => by rw [cell_of_row w vb j _ _ _ hvb]; simpa using hj
  have hdl : (xs.drop (i * 2)).length = (n - i) * 2 := by rw [List.length_drop, hxl]; omega
  have hcp1 : ∀ ty dc sc, (Builtin.copy_ #[86, 86] ty #[.slice (some ⟨g, (i + 1) * 2, none⟩) (n - i) dc, .slice (some ⟨g, i * 2, none⟩) (n + 1 - i) sc]).run Try.prog w.drew = .ok (goInt (Nat.min (n + 1 - i) (n - i))) (w.drew.setCells g ((i + 1) * 2) (xs.drop (i * 2))) := fun ty dc sc =>
    run_copy_k w.drew _ _ ty 107 i0 g ((i + 1) * 2) (n - i) dc ⟨g, i * 2, none⟩ (n + 1 - i) sc (xs.drop (i * 2)) Try.underlying86 hi0 (by rw [hdl, hs2]; simp only [Nat.min_def]; split <;> omega)
      (fun j v hj => by rw [Addr.add_lit]; exact hxc (i * 2 + j) v (by rwa [List.getElem?_drop] at hj))
      (fun j hj => hsp _ (by omega)) (fun j hj => hf0 _) (fun v hv => h1x v (List.mem_of_mem_drop hv))
  obtain ⟨W1, hW1⟩ : ∃ W1, W1 = w.drew.setCells g ((i + 1) * 2) (xs.drop (i * 2)) := ⟨_, rfl⟩
  have hg1 := row_setCells g 107 (xs.drop (i * 2)) ((i + 1) * 2) w.drew cur hg (by rw [hdl]; omega)
  rw [← hW1] at hg1
  have hv1 : W1.heap[vb]? = some (.cells vs.toArray 107 (0, 0)) := by rw [hW1, other_setCells g _ _ _ vb hne]; exact hvb
  have hcp2 : ∀ (W : World), (∀ x, W.cell? x = W1.cell? x) → (∀ x, W.frozen? x = W1.frozen? x) → ∀ ty dc, (Builtin.copy_ #[86, 86] ty #[.slice (some ⟨g, i * 2, none⟩) (n + 1 - i) dc, .slice (some ⟨vb, 0, none⟩) 1 1]).run Try.prog W = .ok (goInt (Nat.min 1 (n + 1 - i))) (W.setCells g (i * 2) vs) := fun W hWc hWf ty dc =>
    run_copy_k W _ _ ty 107 i0 g (i * 2) (n + 1 - i) dc ⟨vb, 0, none⟩ 1 1 vs Try.underlying86 hi0 (by rw [hvl, hs2]; simp only [Nat.min_def]; split <;> omega)
      (fun j v hj => by rw [Addr.add_lit, Nat.zero_add, hWc, cell_of_row W1 vb j _ _ _ hv1]; simpa using hj)
      (fun j hj => by rw [hWc, cell_of_row W1 g _ _ _ _ hg1, Array.getElem?_eq_getElem (by simp [hdl]; omega)]; rfl) (fun j hj => by rw [hWf]; simp [World.frozen?, hg1]) h1v
  rw [← hW1] at hcp1 ⊢
  have hin : i ≤ n := by omega
  have hz2 : ((i : Int) == (n : Int)) = false := beq_eq_false_iff_ne.2 (by omega)
  have hz3 : ¬ (cap = i) := by omega
  have hz4 : ¬ (cap = i + 1) := by omega
  have hz5 : (n : Int) + 1 ≤ (cap : Int) := by omega
  have hz6 : (i : Int) ≤ (n : Int) := by omega
  have hz7 : ((i : Int) + 1).toNat = i + 1 := by omega
  have hz8 : IntKind.i64.wrap ((i : Int) + 1) = (i : Int) + 1 := by rw [IntKind.wrap_i64]; omega
  have hz9 : (0 : Int) ≤ (i : Int) + 1 := by omega
  have hz10 : (i : Int) ≤ (n : Int) + 1 := by omega
  clear hW1 hg1 hv1 hsp hxc hc0 hf0 hvc hdl hxl hz hby hs2 hi0 hg hvb hx h1x h1v hcs
  go_enter Try.func78, Try.ntmps78
  go_wp2_with (simp only [hov])
  go_region_law (refine step_copy_r rfl _ _ 86 86 rfl _ _ (by simp [Act.eval, Act.put]) (by simp [Act.eval, Act.put]) (hcp1 _ _ _) ?_)
  go_wp2_with (at_builtin; refine wpList_copy_r _ rfl _ _ 86 86 rfl _ _ rfl rfl (hcp2 _ (fun _ => rfl) (fun _ => rfl) _ _) ?_)
  go_ret
  exact ⟨rfl, rfl⟩
set_option maxHeartbeats 2000000 in
set_option maxRecDepth 100000 in
theorem Insert_grow {w : World} (g n i vb : Nat) (cur : Array Value) (xs vs : List Value) (hg : w.heap[g]? = some (.cells cur 107 (0, 0))) (hcs : cur.size = n * 2)
    (hx : cur.toList.take (n * 2) = xs) (hi : i < n) (hn2 : n ≤ 2000) (hvb : w.heap[vb]? = some (.cells vs.toArray 107 (0, 0))) (hvl : vs.length = 2)
    (h1x : ∀ v ∈ xs, v.oneCell' = true) (h1v : ∀ v ∈ vs, v.oneCell' = true) :
    Calls Try.prog 78 #[.slice (some ⟨g, 0, none⟩) n n, .int .i64 i, .slice (some ⟨vb, 0, none⟩) 1 1] w fun e w' =>
      ∃ G ROW, n + 1 ≤ G ∧ G ≤ maxLen ∧ ROW.size = G * 2 ∧ ROW.toList.take (i * 2) = xs.take (i * 2) ∧ e = .returned (.slice (some ⟨w.heap.size, 0, none⟩) (n + 1) G) ∧ w' = ((w.alloc (.cells ROW 107)).drew.setCells w.heap.size (i * 2) vs).drew.setCells w.heap.size ((i + 1) * 2) (xs.drop (i * 2)) := by
  obtain ⟨i0, hi0, hz, hs2, hby⟩ := ent_info
  have hxl : xs.length = n * 2 := by rw [← hx, List.length_take, Array.length_toList]; omega
  have hc0 : ∀ j, w.cell? ⟨g, j, none⟩ = cur[j]? := fun j => cell_of_row w g j cur _ _ hg
  have hxc : ∀ j v, xs[j]? = some v → w.cell? ⟨g, j, none⟩ = some v := fun j v hj => by
    rw [hc0, ← hj, ← hx, List.getElem?_take, if_pos (by have := (List.getElem?_eq_some_iff.1 hj).1; omega)]; simp
  have hgl : g < w.heap.size := (Array.getElem?_eq_some_iff.1 hg).1
  have hvl' : vb < w.heap.size := (Array.getElem?_eq_some_iff.1 hvb).1
  have hold : (Builtin.firstCells i0.size i (.slice (some ⟨g, 0, none⟩) i n)).run Try.prog w.drew = .ok (xs.take (i * 2)).toArray w.drew := by
    rw [hs2]
    exact run_firstCells_some w.drew 2 i ⟨g, 0, none⟩ i n (xs.take (i * 2)) (by rw [List.length_take]; omega) (fun j v hj => by
      rw [Addr.add_lit, Nat.zero_add]
      rw [List.getElem?_take] at hj
      split at hj
      · exact hxc j v hj
      · cases hj)
  have hik : i + (n + 1 - i) = n + 1 := by omega
  have hkk : (n : Int) + 1 - (i : Int) = ((n + 1 - i : Nat) : Int) := by omega
  have hrz := fun ty => Lib.run_append_grow_zeros (P := Try.prog) w 86 3 ty 107 i0 _ .i64 .i64 Try.underlying86 Try.underlying3 hi0 hz (some ⟨g, 0, none⟩) i n (xs.take (i * 2)) hold (n + 1 - i) (by omega) (by omega) (by omega) (by omega) (by rw [hby]; omega) (by rw [hby, hik]; exact growslice_fits (by omega) (by omega))
  rw [hik, ← hkk] at hrz
  have hGn := grownCap_ge w (n + 1) n 107
  have hGm := grownCap_le_maxLen w (n + 1) n 107 (by unfold maxLen; omega)
  generalize grownCap w (n + 1) n 107 = G at hrz hGn hGm
  have hR1 : ((xs.take (i * 2)).toArray ++ Builtin.zeroCells (Value.agg #[.string ⟨#[]⟩, .pointer none]).cells (n + 1 - i) ++ Builtin.zeroCells (Value.agg #[.string ⟨#[]⟩, .pointer none]).cells (G - (n + 1))).size = G * 2 := by
    simp only [Array.size_append, List.size_toArray, List.length_take, hxl, size_zeroCells]
    show min (i * 2) (n * 2) + (n + 1 - i) * 2 + (G - (n + 1)) * 2 = G * 2
    omega
  have hR2 : ((xs.take (i * 2)).toArray ++ Builtin.zeroCells (Value.agg #[.string ⟨#[]⟩, .pointer none]).cells (n + 1 - i) ++ Builtin.zeroCells (Value.agg #[.string ⟨#[]⟩, .pointer none]).cells (G - (n + 1))).toList.take (i * 2) = xs.take (i * 2) := by
    simp only [Array.toList_append, List.append_assoc]
    rw [List.take_left' (by rw [List.length_take]; omega)]
  generalize (xs.take (i * 2)).toArray ++ Builtin.zeroCells (Value.agg #[.string ⟨#[]⟩, .pointer none]).cells (n + 1 - i) ++ Builtin.zeroCells (Value.agg #[.string ⟨#[]⟩, .pointer none]).cells (G - (n + 1)) = ROW at hrz hR1 hR2
  have hdl : (xs.drop (i * 2)).length = (n - i) * 2 := by rw [List.length_drop, hxl]; omega
  have hN : ((w.alloc (.cells ROW 107)).drew).heap[w.heap.size]? = some (.cells ROW 107 (0, 0)) := heap_alloc_new w _
  have hV : ((w.alloc (.cells ROW 107)).drew).heap[vb]? = some (.cells vs.toArray 107 (0, 0)) := (heap_alloc_old w _ hvl').trans hvb
  have hG0 : ((w.alloc (.cells ROW 107)).drew).heap[g]? = some (.cells cur 107 (0, 0)) := (heap_alloc_old w _ hgl).trans hg
  have hcpA : ∀ ty dc, (Builtin.copy_ #[86, 86] ty #[.slice (some ⟨w.heap.size, i * 2, none⟩) (n + 1 - i) dc, .slice (some ⟨vb, 0, none⟩) 1 1]).run Try.prog ((w.alloc (.cells ROW 107)).drew) = .ok (goInt (Nat.min 1 (n + 1 - i))) (((w.alloc (.cells ROW 107)).drew).setCells w.heap.size (i * 2) vs) := fun ty dc =>
    run_copy_k _ _ _ ty 107 i0 w.heap.size (i * 2) (n + 1 - i) dc ⟨vb, 0, none⟩ 1 1 vs Try.underlying86 hi0 (by rw [hvl, hs2]; simp only [Nat.min_def]; split <;> omega)
      (fun j v hj => by rw [Addr.add_lit, Nat.zero_add, cell_of_row _ vb j _ _ _ hV]; simpa using hj)
      (fun j hj => by rw [cell_of_row _ w.heap.size _ _ _ _ hN, Array.getElem?_eq_getElem (by rw [hR1]; omega)]; rfl) (fun j hj => by simp only [World.frozen?, hN]; simp) h1v
  have hN2 := row_setCells w.heap.size 107 vs (i * 2) ((w.alloc (.cells ROW 107)).drew) ROW hN (by rw [hR1, hvl]; omega)
  have hG2 := (other_setCells w.heap.size vs (i * 2) ((w.alloc (.cells ROW 107)).drew) g (by omega)).trans hG0
  have hcpB : ∀ ty dc sc, (Builtin.copy_ #[86, 86] ty #[.slice (some ⟨w.heap.size, (i + 1) * 2, none⟩) (n - i) dc, .slice (some ⟨g, i * 2, none⟩) (n - i) sc]).run Try.prog (((w.alloc (.cells ROW 107)).drew.setCells w.heap.size (i * 2) vs).drew) = .ok (goInt (Nat.min (n - i) (n - i))) ((((w.alloc (.cells ROW 107)).drew.setCells w.heap.size (i * 2) vs).drew).setCells w.heap.size ((i + 1) * 2) (xs.drop (i * 2))) := fun ty dc sc =>
    run_copy_k _ _ _ ty 107 i0 w.heap.size ((i + 1) * 2) (n - i) dc ⟨g, i * 2, none⟩ (n - i) sc (xs.drop (i * 2)) Try.underlying86 hi0 (by rw [hdl, hs2]; simp only [Nat.min_def]; split <;> omega)
      (fun j v hj => by
        rw [Addr.add_lit]
        refine (cell_of_row _ g _ _ _ _ hG2).trans ?_
        rw [← hc0]
        exact hxc (i * 2 + j) v (by rwa [List.getElem?_drop] at hj))
      (fun j hj => by
        refine (congrArg Option.isSome (cell_of_row _ w.heap.size _ _ _ _ hN2)).trans ?_
        rw [Array.getElem?_eq_getElem (by simp [hR1, hvl]; omega)]; rfl) (fun j hj => by
        have : ((w.alloc (.cells ROW 107)).drew.setCells w.heap.size (i * 2) vs).frozen? ⟨w.heap.size, (i + 1) * 2 + j, none⟩ = false := by simp only [World.frozen?, hN2]; simp
        exact this) (fun v hv => h1x v (List.mem_of_mem_drop hv))
  have hin : i ≤ n := by omega
  have hz2 : ((i : Int) == (n : Int)) = false := beq_eq_false_iff_ne.2 (by omega)
  have hz3 : ¬ (n = i) := by omega
  have hz4 : ¬ (G = i + 1) := by omega
  have hz3' : ¬ (G = i) := by omega
  have hz5 : (n : Int) < (n : Int) + 1 := by omega
  have hz6 : (i : Int) ≤ (n : Int) := by omega
  have hz7 : ((i : Int) + 1).toNat = i + 1 := by omega
  have hz8 : IntKind.i64.wrap ((i : Int) + 1) = (i : Int) + 1 := by rw [IntKind.wrap_i64]; omega
  have hz9 : (0 : Int) ≤ (i : Int) + 1 := by omega
  have hz10 : (i : Int) ≤ (n : Int) + 1 := by omega
  have HE := hide (⟨hGn, hGm, hR1, hR2⟩ : n + 1 ≤ G ∧ G ≤ maxLen ∧ ROW.size = G * 2 ∧ ROW.toList.take (i * 2) = xs.take (i * 2))
  unfold maxLen at hGm
  clear hN hV hG0 hN2 hG2 hR1 hR2 hdl hik hold hxc hc0 hz hby hs2 hi0 hg hvb hx h1x h1v hcs hkk
  go_enter Try.func78, Try.ntmps78
  go_wp2_with (first
    | (at_builtin; refine Lib.wpList_append_run _ rfl _ _ _ _ rfl _ _ rfl rfl _ _ (hrz _) ?_)
    | (at_builtin; refine wpList_copy_r _ rfl _ _ 86 86 rfl _ _ rfl rfl (hcpA _ _) ?_))
  go_region_law (refine step_copy_r rfl _ _ 86 86 rfl (.slice (some ⟨w.heap.size, (i + 1) * 2, none⟩) (n - i) (G - (i + 1))) (.slice (some ⟨g, i * 2, none⟩) (n - i) (n - i)) (by simp [Act.eval, Act.put]) (by simp [Act.eval, Act.put]) (hcpB _ _ _) ?_)
  go_wp2
  go_ret
  obtain ⟨e1, e2, e3, e4⟩ := unhide HE
  exact ⟨G, ROW, e1, e2, e3, e4, rfl, rfl⟩
end Idl
end Go.Proofs.Ytmhbphmdfnlmkaa
