/-
  Rows in blocks of the law's own; the walk of mend.Mend.
-/
import Derived.Test.YtfpfpnhpbnnmfadGreatDoorXbe
import Derived.Deep.RegionHeld
namespace Go.Proofs.YtfpfpnhpbnnmfadGreatDoor
open Go.RowKit
/-- rows of some types in blocks, all of them new -/
structure By (w wr : World) (l : List (Nat × Array Value × TypeId)) : Prop where
  below : Below w.heap.size w wr
  lo : ∀ p ∈ l, w.heap.size ≤ p.1
  row : ∀ p ∈ l, wr.heap[p.1]? = some (.cells p.2.1 p.2.2)
  nd : (l.map (·.1)).Nodup
/-- one block is another row now; the others that were there are as they were -/
structure Mv (w w' : World) (g : Nat) (c : Array Value) (t : TypeId) : Prop where
  below : ∀ B, B ≤ g → B ≤ w.heap.size → Below B w w'
  row : w'.heap[g]? = some (.cells c t)
  old : ∀ j, j < w.heap.size → j ≠ g → w'.heap[j]? = w.heap[j]?
section
variable {w w1 w2 wr : World} {g : Nat} {c c' : Array Value} {t : TypeId} {l : List (Nat × Array Value × TypeId)}
theorem Mv.of {w3 : World} (h : Below w.heap.size w w1) (hg : g < w.heap.size) (e : w3 = w1.setRow g c') (hr : w.heap[g]? = some (.cells c t)) : Mv w w3 g c' t := by
  subst e
  refine ⟨fun B h1 h2 => below_setRow (h.mono h2) h1 _, ?_, fun j hj hne => ?_⟩
  · exact setRow_heap _ _ _ _ _ _ (by rw [h.block _ hg]; exact hr)
  · rw [setRow_other _ _ _ _ hne, h.block _ hj]
theorem Mv.size (h : Mv w w1 g c t) : w.heap.size ≤ w1.heap.size := (h.below 0 (Nat.zero_le _) (Nat.zero_le _)).size
theorem Mv.trans (h : Mv w w1 g c t) (h' : Mv w1 w2 g c' t) : Mv w w2 g c' t :=
  ⟨fun B h1 h2 => (h.below B h1 h2).trans (h'.below B h1 (Nat.le_trans h2 h.size)), h'.row, fun j hj hne => by rw [h'.old j (Nat.lt_of_lt_of_le hj h.size) hne, h.old j hj hne]⟩
theorem By.hi (h : By w wr l) {p : Nat × Array Value × TypeId} (hp : p ∈ l) : p.1 < wr.heap.size := (Array.getElem?_eq_some_iff.1 (h.row p hp)).1
theorem By.start (w : World) : By w w [] := ⟨Below.refl _ _, fun _ h => by simp at h, fun _ h => by simp at h, by simp⟩
theorem By.call (h : By w wr l) (hb : Below wr.heap.size wr w1) : By w w1 l :=
  ⟨h.below.trans (hb.mono h.below.size), h.lo, fun p hp => by rw [hb.block _ (h.hi hp)]; exact h.row p hp, h.nd⟩
/-- a block that was laid since -/
theorem By.add (h : By w wr l) (hb : Below wr.heap.size wr w1) (hg : wr.heap.size ≤ g) (hr : w1.heap[g]? = some (.cells c t)) : By w w1 ((g, c, t) :: l) := by
  have h1 := h.call hb
  refine ⟨h1.below, fun p hp => ?_, fun p hp => ?_, ?_⟩
  · rcases List.mem_cons.1 hp with e | e
    · subst e; exact Nat.le_trans h.below.size hg
    · exact h1.lo p e
  · rcases List.mem_cons.1 hp with e | e
    · subst e; exact hr
    · exact h1.row p e
  · rw [List.map_cons, List.nodup_cons]
    refine ⟨fun hm => ?_, h.nd⟩
    obtain ⟨p, hp, e⟩ := List.mem_map.1 hm
    have := h.hi hp
    simp at e; omega
theorem By.box (h : By w wr l) (c : Array Value) (t : TypeId) : By w (wr.alloc (.cells c t)) ((wr.heap.size, c, t) :: l) :=
  h.add ((Below.refl _ _).alloc (Nat.le_refl _) _) (Nat.le_refl _) (heap_alloc_last _ _)
theorem By.mut0 (h : By w wr ((g, c, t) :: l)) (hm : Mv wr w1 g c' t) : By w w1 ((g, c', t) :: l) := by
  have hn := h.nd
  rw [List.map_cons, List.nodup_cons] at hn
  refine ⟨h.below.trans (hm.below _ (h.lo _ (List.mem_cons_self ..)) h.below.size), fun p hp => ?_, fun p hp => ?_, by rw [List.map_cons, List.nodup_cons]; exact hn⟩
  · rcases List.mem_cons.1 hp with e | e
    · subst e; exact h.lo (g, c, t) (List.mem_cons_self ..)
    · exact h.lo p (List.mem_cons_of_mem _ e)
  · rcases List.mem_cons.1 hp with e | e
    · subst e; exact hm.row
    · rw [hm.old _ (h.hi (List.mem_cons_of_mem _ e)) (fun z => hn.1 (by rw [← z]; exact List.mem_map_of_mem (f := (·.1)) e))]
      exact h.row p (List.mem_cons_of_mem _ e)
theorem By.swap {p q : Nat × Array Value × TypeId} (h : By w wr (p :: q :: l)) : By w wr (q :: p :: l) := by
  have hm : ∀ x, x ∈ q :: p :: l → x ∈ p :: q :: l := fun x hx => by simp at hx ⊢; rcases hx with e | e | e <;> simp [e]
  refine ⟨h.below, fun x hx => h.lo x (hm x hx), fun x hx => h.row x (hm x hx), ?_⟩
  have hn := h.nd
  simp only [List.map_cons, List.nodup_cons, List.mem_cons] at hn ⊢
  obtain ⟨h1, h2, h3⟩ := hn
  exact ⟨fun z => by rcases z with z | z; exact h1 (.inl z.symm); exact h2 z, fun z => h1 (.inr z), h3⟩
theorem By.mut1 {p : Nat × Array Value × TypeId} (h : By w wr (p :: (g, c, t) :: l)) (hm : Mv wr w1 g c' t) : By w w1 (p :: (g, c', t) :: l) := ((h.swap).mut0 hm).swap
theorem By.is (h : By w wr l) {c : Array Value} (hp : (g, c, 78) ∈ l) {m : Img} (hi : IsImg c m) : Row wr g m := ⟨c, h.row (g, c, _) hp, hi⟩
theorem By.has (h : By w wr l) {c : Array Value} (hp : (g, c, 78) ∈ l) {m : Img} (hi : IsImg c m) : HasImg wr g m := (h.is hp hi).has
theorem By.swap1 {p q r : Nat × Array Value × TypeId} (h : By w wr (p :: q :: r :: l)) : By w wr (p :: r :: q :: l) := by
  have hm : ∀ x, x ∈ p :: r :: q :: l → x ∈ p :: q :: r :: l := fun x hx => by simp at hx ⊢; rcases hx with e | e | e | e <;> simp [e]
  refine ⟨h.below, fun x hx => h.lo x (hm x hx), fun x hx => h.row x (hm x hx), ?_⟩
  have hn := h.nd
  simp only [List.map_cons, List.nodup_cons, List.mem_cons] at hn ⊢
  obtain ⟨h1, h2, h3, h4⟩ := hn
  exact ⟨fun z => h1 (by rcases z with z | z | z; exact .inr (.inl z); exact .inl z; exact .inr (.inr z)), fun z => by rcases z with z | z; exact h2 (.inl z.symm); exact h3 z, fun z => h2 (.inr z), h4⟩
theorem By.swap2 {p q r s : Nat × Array Value × TypeId} (h : By w wr (p :: q :: r :: s :: l)) : By w wr (p :: q :: s :: r :: l) := by
  have hm : ∀ x, x ∈ p :: q :: s :: r :: l → x ∈ p :: q :: r :: s :: l := fun x hx => by simp at hx ⊢; rcases hx with e | e | e | e | e <;> simp [e]
  refine ⟨h.below, fun x hx => h.lo x (hm x hx), fun x hx => h.row x (hm x hx), ?_⟩
  have hn := h.nd
  simp only [List.map_cons, List.nodup_cons, List.mem_cons] at hn ⊢
  obtain ⟨h1, h2, h3, h4, h5⟩ := hn
  exact ⟨fun z => h1 (by rcases z with z | z | z | z; exact .inl z; exact .inr (.inr (.inl z)); exact .inr (.inl z); exact .inr (.inr (.inr z))), fun z => h2 (by rcases z with z | z | z; exact .inr (.inl z); exact .inl z; exact .inr (.inr z)), fun z => by rcases z with z | z; exact h3 (.inl z.symm); exact h4 z, fun z => h3 (.inr z), h5⟩
theorem By.mut2 {p q : Nat × Array Value × TypeId} (h : By w wr (p :: q :: (g, c, t) :: l)) (hm : Mv wr w1 g c' t) : By w w1 (p :: q :: (g, c', t) :: l) := ((h.swap1).mut1 hm).swap1
theorem By.mut3 {p q r : Nat × Array Value × TypeId} (h : By w wr (p :: q :: r :: (g, c, t) :: l)) (hm : Mv wr w1 g c' t) : By w w1 (p :: q :: r :: (g, c', t) :: l) := ((h.swap2).mut2 hm).swap2
theorem Mv.set (hr : w.heap[g]? = some (.cells c t)) (i : Nat) (v : Value) : Mv w (w.setCell ⟨g, i, none⟩ v) g (c.setIfInBounds i v) t :=
  ⟨fun B h1 _ => (Below.refl _ _).setCell (by exact h1) _, heap_setCell_same _ _ _ _ _ _ hr, fun j _ hne => heap_setCell_other _ _ _ _ (by exact hne)⟩
theorem Mv.set0 {a b d v : Value} (hr : w.heap[g]? = some (.cells #[a, b, d] t)) : Mv w (w.setCell ⟨g, 0, none⟩ v) g #[v, b, d] t := Mv.set hr 0 v
theorem Mv.set1 {a b d v : Value} (hr : w.heap[g]? = some (.cells #[a, b, d] t)) : Mv w (w.setCell ⟨g, 1, none⟩ v) g #[a, v, d] t := Mv.set hr 1 v
theorem Mv.set2 {a b d v : Value} (hr : w.heap[g]? = some (.cells #[a, b, d] t)) : Mv w (w.setCell ⟨g, 2, none⟩ v) g #[a, b, v] t := Mv.set hr 2 v
theorem Mv.row' (hr : w.heap[g]? = some (.cells c t)) (c' : Array Value) : Mv w (w.setRow g c') g c' t := Mv.of (Below.refl _ w) (Array.getElem?_eq_some_iff.1 hr).1 rfl hr
theorem Mu.mv (h : Mu w w1 g c) : Mv w w1 g c 78 := ⟨h.below, h.row, h.old⟩
end
theorem results_cell2_tmp {fn : Func} {p q u : Tmp} {ty tz : TypeId} (h : fn.results = #[.cell p ty, .cell q tz, .tmp u]) (tmps : Array Value) (P : Program) (w : World) :
    (results fn tmps).run P w =
      ((asAddr (tmps.getD p undef)).run P w).andThen fun a w₁ => ((loadVar ty a).run P w₁).andThen fun v w₂ => ((asAddr (tmps.getD q undef)).run P w₂).andThen fun b w₃ => ((loadVar tz b).run P w₃).andThen fun v' w₄ => .ok (.tuple #[v, v', tmps.getD u undef]) w₄ := by
  simp only [results, h]
  simp [Sem.run_bind, Result.andThen]
theorem results_rows {P : Program} {fn : Func} {p q u : Tmp} {ty tz : TypeId} (h : fn.results = #[.cell p ty, .cell q tz, .tmp u]) (tmps : Array Value) (w : World) (g k : Nat) (cs ds : Array Value) (d d' : TypeDesc) (v : Value)
    (hp : tmps.getD p undef = .pointer (some ⟨g, 0, none⟩)) (hq : tmps.getD q undef = .pointer (some ⟨k, 0, none⟩)) (hv : tmps.getD u undef = v) (hg : w.heap[g]? = some (.cells cs ty)) (hk : w.heap[k]? = some (.cells ds tz))
    (hu : P.underlying ty = some d) (hd : (match d with | .struct _ | .array _ _ => true | _ => false) = true) (hi : (P.info? ty).map (·.size) = some cs.size)
    (hu' : P.underlying tz = some d') (hd' : (match d' with | .struct _ | .array _ _ => true | _ => false) = true) (hi' : (P.info? tz).map (·.size) = some ds.size) :
    (results fn tmps).run P w = .ok (.tuple #[.agg cs, .agg ds, v]) w := by
  rw [results_cell2_tmp h, hp, hq, hv]
  simp [asAddr, run_loadVar_row w g ty ty cs (0, 0) d hg hu hd hi, run_loadVar_row w k tz tz ds (0, 0) d' hk hu' hd' hi']
theorem lost_under : Tryz.prog.underlying 63 = some (.struct (Tryz.prog.fieldsOf 63)) := by kernel_rfl
theorem lost_info : (Tryz.prog.info? 63).map (·.size) = some 3 := by kernel_rfl
/-- the three counts -/
def lostA (a b c : Int) : Array Value := #[.int .i64 a, .int .i64 b, .int .i64 c]
theorem run_exec_load_whole {P : Program} {o : Oper} {ρ : Operand → Value} (ty : TypeId) (x : Operand) (ho : o.op = .load ty x) (g : Nat) (hx : ρ x = .pointer (some ⟨g, 0, none⟩)) (w : World) (t : TypeId) (cs : Array Value) (fr : Nat × Nat) (d : TypeDesc)
    (hg : w.heap[g]? = some (.cells cs t fr)) (hu : P.underlying ty = some d) (hd : (match d with | .struct _ | .array _ _ => true | _ => false) = true) (hi : (P.info? ty).map (·.size) = some cs.size) :
    (execOp ρ o).run P w = .ok (.value (.agg cs)) w := by
  unfold execOp
  simp only [ho, hx, Instr.loadAt, Instr.sureAddr, Sem.run_bind, Sem.run_pure, Result.andThen_ok, run_loadVar_row w g t ty cs fr d hg hu hd hi]
/-- what Mend answers -/
def MendIs (m : Img) (e : Ending) : Prop :=
  (m.check = 0 ∧ ∃ c, IsImg c (Img.mend m) ∧ e = .returned (.tuple #[.agg c, .agg (lostA (Img.lostF m : Nat) (Img.lostC m : Nat) (Img.lostD m : Nat)), .int .i64 0])) ∨ (m.check ≠ 0 ∧ e = .returned (.tuple #[.agg zeroCells, .agg (lostA 0 0 0), .int .i64 m.check]))
theorem zero_sz : zeroCells.size = 94 := size_newTo 0
theorem zero_kinds' : Kinds zeroCells := .of (size_newTo 0) (by kernel_rfl)
set_option maxRecDepth 100000 in
set_option maxHeartbeats 2000000 in
theorem mend_any (cs : Array Value) (m : Img) (hi : IsImg cs m) (w : World) :
    Calls Tryz.prog 110 #[.agg cs] w fun e w' => MendIs m e ∧ Below w.heap.size w w' := by
  have z := zero_img.1
  have bz := build_img
  have zz := zero_sz
  have B1 := hide ((((By.start w).box cs 78).box zeroCells 78).box (lostA 0 0 0) 63)
  have CK := hide (check_any w.heap.size m _ ((unhide B1).has (by simp) hi))
  have e1 : (w.alloc (.cells cs 78)).heap.size = w.heap.size + 1 := by simp
  have e2 : ((w.alloc (.cells cs 78)).alloc (.cells zeroCells 78)).heap.size = w.heap.size + 2 := by simp
  rw [e1, e2] at B1
  clear e1 e2
  go_enter Tryz.func110, Tryz.ntmps110
  unfold lostA at B1 CK
  by_cases hc : m.check = 0
  case neg =>
    have hcn : (m.check != 0) = true := by simpa using hc
    have HC := hide hc
    clear hc
    go_wp2_with fail
    refine (unhide CK).mono ?_
    rintro e w1 ⟨rfl, b1⟩
    have B2 := hide ((unhide B1).call b1)
    clear b1 B1 CK
    have s1 := hide ((unhide B2).row (w.heap.size + 1, zeroCells, 78) (by simp))
    have B3 := hide ((unhide B2).mut1 (Mv.row' (unhide s1) zeroCells))
    have R3 := hide ((unhide B3).row (w.heap.size + 2, #[.int .i64 0, .int .i64 0, .int .i64 0], 63) (by simp))
    have c0 : (w1.setRow (w.heap.size + 1) zeroCells).cell? ⟨w.heap.size + 2, 0, none⟩ = some (.int .i64 0) := by rw [cell_of_row _ _ _ _ _ _ (unhide R3)]; rfl
    have c1 : (w1.setRow (w.heap.size + 1) zeroCells).cell? ⟨w.heap.size + 2, 1, none⟩ = some (.int .i64 0) := by rw [cell_of_row _ _ _ _ _ _ (unhide R3)]; rfl
    have c2 : (w1.setRow (w.heap.size + 1) zeroCells).cell? ⟨w.heap.size + 2, 2, none⟩ = some (.int .i64 0) := by rw [cell_of_row _ _ _ _ _ _ (unhide R3)]; rfl
    have fz := fun i => frozen_of_row _ _ i _ _ (unhide R3)
    have B5 := hide ((unhide B3).mut0 (Mv.set0 (v := .int .i64 0) (unhide R3)))
    have B6 := hide ((unhide B5).mut0 (Mv.set1 (v := .int .i64 0) ((unhide B5).row (w.heap.size + 2, #[.int .i64 0, .int .i64 0, .int .i64 0], 63) (by simp))))
    have B7 := hide ((unhide B6).mut0 (Mv.set2 (v := .int .i64 0) ((unhide B6).row (w.heap.size + 2, #[.int .i64 0, .int .i64 0, .int .i64 0], 63) (by simp))))
    rw [show w.heap.size + 2 = w.heap.size + 1 + 1 from rfl] at c0 c1 c2 fz
    clear B3 B5 B6 R3 B2
    go_wp2_with (have hx := unhide s1; refine wpList_store_row rfl 78 _ _ rfl (w.heap.size + 1) zeroCells rfl rfl 78 zeroCells hx (img_info zz) rfl zero_kinds'.isImg.all ?_; clear hx s1)
    refine bodyPost_ret (v := .tuple #[.agg zeroCells, .agg (lostA 0 0 0), .int .i64 m.check]) ?_ rfl ⟨.inr ⟨unhide HC, rfl⟩, (unhide B7).below⟩
    exact results_rows (P := Tryz.prog) Tryz.results110 _ _ (w.heap.size + 1) (w.heap.size + 2) zeroCells (lostA 0 0 0) _ _ _ rfl rfl rfl ((unhide B7).row (w.heap.size + 1, zeroCells, 78) (by simp)) ((unhide B7).row (w.heap.size + 2, #[.int .i64 0, .int .i64 0, .int .i64 0], 63) (by simp)) img_under rfl (img_info zz) lost_under rfl lost_info
  case pos =>
    have HC := hide hc
    rw [hc] at CK
    clear hc
    go_wp2_with fail
    refine (unhide CK).mono ?_
    rintro e w1 ⟨rfl, b1⟩
    have B2 := hide (((unhide B1).call b1).box #[.int .i64 0, .int .i64 0, .int .i64 0] 63)
    clear b1 B1 CK
    have D1 := hide (drop_any w.heap.size m _ ((unhide B2).is (by simp) hi))
    go_wp2_with fail
    generalize w1.alloc (.cells #[.int .i64 0, .int .i64 0, .int .i64 0] 63) = X1 at B2 D1 ⊢
    generalize w1.heap.size = g6 at B2 ⊢
    refine (unhide D1).mono ?_
    rintro e w2 ⟨rfl, c1, M1, i1⟩
    have B3 := hide ((unhide B2).mut3 M1.mv)
    clear M1 B2 D1
    have f1 : w2.cell? ⟨g6, 0, none⟩ = some (.int .i64 0) := by rw [cell_of_row _ _ _ _ _ _ ((unhide B3).row (g6, #[.int .i64 0, .int .i64 0, .int .i64 0], 63) (by simp))]; rfl
    have fz := fun i => frozen_of_row _ _ i _ _ ((unhide B3).row (g6, _, 63) (List.mem_cons_self ..))
    have B4 := hide ((unhide B3).mut0 (Mv.set0 (v := .int .i64 (Img.lostF m : Nat)) ((unhide B3).row (g6, #[.int .i64 0, .int .i64 0, .int .i64 0], 63) (by simp))))
    have D2 := hide (set_any w.heap.size (Img.mend1 m) _ ((unhide B4).is (by simp) i1))
    have E1 : ∃ n1 : Int, n1 = (Img.lostF m : Nat) := ⟨_, rfl⟩
    obtain ⟨n1, e1⟩ := E1
    rw [← e1] at B4 D2 ⊢
    have E1 := hide e1
    clear e1
    go_wp2_with fail
    generalize w2.setCell ⟨g6, 0, none⟩ (.int .i64 n1) = X2 at B4 D2 ⊢
    clear B3 f1 fz
    refine (unhide D2).mono ?_
    rintro e w3 ⟨rfl, c2, M2, i2⟩
    have B5 := hide ((unhide B4).mut3 M2.mv)
    clear M2 B4 D2
    have f1 : w3.cell? ⟨g6, 1, none⟩ = some (.int .i64 0) := by rw [cell_of_row _ _ _ _ _ _ ((unhide B5).row (g6, #[.int .i64 n1, .int .i64 0, .int .i64 0], 63) (by simp))]; rfl
    have fz := fun i => frozen_of_row _ _ i _ _ ((unhide B5).row (g6, _, 63) (List.mem_cons_self ..))
    have B6 := hide ((unhide B5).mut0 (Mv.set1 (v := .int .i64 (Img.cnt (Img.other (Img.mend1 m)) 8 : Nat)) ((unhide B5).row (g6, #[.int .i64 n1, .int .i64 0, .int .i64 0], 63) (by simp))))
    have D3 := hide (clear_any w.heap.size (Img.mend2 m) _ ((unhide B6).is (by simp) i2))
    have E2 : ∃ n2 : Int, n2 = (Img.cnt (Img.other (Img.mend1 m)) 8 : Nat) := ⟨_, rfl⟩
    obtain ⟨n2, e2⟩ := E2
    rw [← e2] at B6 D3 ⊢
    have E2 := hide e2
    clear e2
    go_wp2_with fail
    generalize w3.setCell ⟨g6, 1, none⟩ (.int .i64 n2) = X3 at B6 D3 ⊢
    clear B5 f1 fz
    refine (unhide D3).mono ?_
    rintro e w4 ⟨rfl, c3, M3, i3⟩
    have B7 := hide ((unhide B6).mut3 M3.mv)
    clear M3 B6 D3
    have f1 : w4.cell? ⟨g6, 2, none⟩ = some (.int .i64 0) := by rw [cell_of_row _ _ _ _ _ _ ((unhide B7).row (g6, #[.int .i64 n1, .int .i64 n2, .int .i64 0], 63) (by simp))]; rfl
    have fz := fun i => frozen_of_row _ _ i _ _ ((unhide B7).row (g6, _, 63) (List.mem_cons_self ..))
    have B8 := hide ((unhide B7).mut0 (Mv.set2 (v := .int .i64 (Img.cnt (Img.lost (Img.mend2 m)) 9 : Nat)) ((unhide B7).row (g6, #[.int .i64 n1, .int .i64 n2, .int .i64 0], 63) (by simp))))
    have E3 : ∃ n3 : Int, n3 = (Img.cnt (Img.lost (Img.mend2 m)) 9 : Nat) := ⟨_, rfl⟩
    obtain ⟨n3, e3⟩ := E3
    rw [← e3] at B8 ⊢
    have E3 := hide e3
    clear e3
    go_wp2_with fail
    generalize w4.setCell ⟨g6, 2, none⟩ (.int .i64 n3) = X4 at B8 ⊢
    clear B7 f1 fz
    have B9 := hide ((unhide B8).call ((Below.refl _ _).drew))
    clear B8
    have z3 := i3.size
    refine wp_region_held_drew (S := fun W => W.heap[w.heap.size]? = some (.cells c3 78) ∧ W.heap[g6]? = some (.cells #[.int .i64 n1, .int .i64 n2, .int .i64 n3] 63)) (by kernel_rfl) ⟨(unhide B9).row (w.heap.size, c3, 78) (by simp), (unhide B9).row (g6, #[.int .i64 n1, .int .i64 n2, .int .i64 n3], 63) (by simp)⟩ (fun hS => ?_)
    generalize X4.drew = X5 at hS B9 ⊢
    refine wpAnyH_take (i := 0) (v := .agg c3) rfl (by kernel_rfl) (by kernel_rfl) (by kernel_rfl) (fun _ _ _ h => h) (Or.inl ⟨by rfl, fun W h => run_exec_load_whole 78 _ rfl w.heap.size rfl W 78 c3 (0, 0) _ h.1 img_under rfl (img_info z3)⟩) hS ?_
    refine wpAnyH_take (i := 1) (v := .agg #[.int .i64 n1, .int .i64 n2, .int .i64 n3]) rfl (by kernel_rfl) (by kernel_rfl) (by kernel_rfl) (fun _ _ _ h => h) (Or.inl ⟨by rfl, fun W h => run_exec_load_whole 63 _ rfl g6 rfl W 63 _ (0, 0) _ h.2 lost_under rfl lost_info⟩) hS ?_
    have R2 := (unhide B9).row (w.heap.size + 1, zeroCells, 78) (by simp)
    have BA := hide ((unhide B9).mut2 (Mv.row' R2 c3))
    have R3 := (unhide BA).row (w.heap.size + 2, #[.int .i64 0, .int .i64 0, .int .i64 0], 63) (by simp)
    have BB := hide ((unhide BA).mut1 (Mv.row' R3 #[.int .i64 n1, .int .i64 n2, .int .i64 n3]))
    refine wpAnyH_ready (rs := [2]) (by kernel_rfl) (by simp) ?_
    refine AllReadyH.cons rfl (fun K hK => ?_) AllReadyH.nil
    rw [if_pos (by rfl)]
    refine wp_store_row 78 _ _ rfl (w.heap.size + 1) c3 rfl rfl 78 zeroCells R2 (img_info z3) (zero_size i3) i3.all ?_
    refine hK.out _ _ ⟨(unhide BA).row (w.heap.size, c3, 78) (by simp), (unhide BA).row (g6, #[.int .i64 n1, .int .i64 n2, .int .i64 n3], 63) (by simp)⟩ (fun hS2 => ?_)
    clear hK K
    refine wpAnyH_ready (rs := [3]) (by kernel_rfl) (by simp) ?_
    refine AllReadyH.cons rfl (fun K hK => ?_) AllReadyH.nil
    rw [if_pos (by rfl)]
    refine wp_store_row 63 _ _ rfl (w.heap.size + 2) #[.int .i64 n1, .int .i64 n2, .int .i64 n3] rfl rfl 63 #[.int .i64 0, .int .i64 0, .int .i64 0] R3 lost_info rfl (by kernel_rfl) ?_
    refine hK.out _ _ ⟨(unhide BB).row (w.heap.size, c3, 78) (by simp), (unhide BB).row (g6, #[.int .i64 n1, .int .i64 n2, .int .i64 n3], 63) (by simp)⟩ (fun hS3 => ?_)
    clear hK K
    refine wpAnyH_take (i := 4) (v := .int .i64 0) rfl (by kernel_rfl) (by kernel_rfl) (by kernel_rfl) (fun _ _ _ h => h) (Or.inl ⟨by rfl, fun W h => by first | kernel_rfl | go_simp⟩) hS3 ?_
    refine wpAnyH_done (by kernel_rfl) ?_ _
    go_wp2_with fail
    have MI : MendIs m (.returned (.tuple #[.agg c3, .agg #[.int .i64 n1, .int .i64 n2, .int .i64 n3], .int .i64 0])) := .inl ⟨unhide HC, c3, i3, by rw [unhide E1, unhide E2, unhide E3]; rfl⟩
    refine bodyPost_ret (v := .tuple #[.agg c3, .agg #[.int .i64 n1, .int .i64 n2, .int .i64 n3], .int .i64 0]) ?_ rfl ⟨MI, (unhide BB).below⟩
    exact results_rows (P := Tryz.prog) Tryz.results110 _ _ (w.heap.size + 1) (w.heap.size + 2) c3 #[.int .i64 n1, .int .i64 n2, .int .i64 n3] _ _ _ rfl rfl rfl ((unhide BB).row (w.heap.size + 1, c3, 78) (by simp)) ((unhide BB).row (w.heap.size + 2, #[.int .i64 n1, .int .i64 n2, .int .i64 n3], 63) (by simp)) img_under rfl (img_info z3) lost_under rfl lost_info
end Go.Proofs.YtfpfpnhpbnnmfadGreatDoor
namespace Go.Proofs.YtfpfpnhpbnnmfadGreatDoor
namespace Img
variable {m : Img}
/-- what an inode that is left has -/
structure Left (m : Img) (n : Nat) : Prop where
  live : (mend m).live n = m.live n
  stamp : (mend m).stamp n = m.stamp n
  links : (mend m).links n = (m.refs (n : Int) : Int)
  part : ∀ p, p < 2 → (mend m).part n p = m.part n p
theorem left {n : Nat} (hn : n < 8) (hg : goes m n = false) : Left m n := by
  have h := mend_inode m hn
  rw [if_neg (by rw [hg]; simp)] at h
  obtain ⟨g1, g2, g3, g4, g5⟩ := inode_is h
  refine ⟨g1, g2, g3, fun p hp => ?_⟩
  match p, hp with
  | 0, _ => exact g4
  | 1, _ => exact g5
theorem gone {n : Nat} (hn : n < 8) (hg : goes m n = true) : (mend m).live n = false ∧ m.live n = true ∧ m.refs (n : Int) = 0 := by
  have h := mend_inode m hn
  rw [if_pos hg] at h
  unfold goes at hg
  simp at hg
  exact ⟨(inode_is h).1, hg.1, hg.2⟩
theorem mend_live {n : Nat} (hn : n < 8) : (mend m).live n = (m.live n && !goes m n) := by
  cases hg : goes m n
  · rw [(left hn hg).live]; simp
  · rw [(gone hn hg).1]; simp
theorem mend_data (m : Img) {x : Nat} (hx : x < 9) : (mend m).of x = (if lost (mend2 m) x = true then 0 else m.of x) ∧ (mend m).text x = (if lost (mend2 m) x = true then ⟨#[]⟩ else m.text x) := by
  have h := clearTo_data (mend2 m) x 9
  have e1 : (mend2 m).of = m.of := by unfold mend2; rw [(setTo_dirs _ 8).2.2.2.1]; exact (dropTo_dirs m 8).2.2.2.1
  have e2 : (mend2 m).text = m.text := by unfold mend2; rw [(setTo_dirs _ 8).2.2.2.2]; exact (dropTo_dirs m 8).2.2.2.2
  rw [e1, e2] at h
  unfold mend
  rw [h.1, h.2]
  cases hl : lost (mend2 m) x
  · simp
  · simp [hx]
/-! what is named -/
/-! what is counted -/
end Img
end Go.Proofs.YtfpfpnhpbnnmfadGreatDoor
namespace Go.Proofs.YtfpfpnhpbnnmfadGreatDoor
open Go.RowKit
/-- two boxes, of an image and of counts, laid and filled -/
theorem By.pair {w wr : World} {l : List (Nat × Array Value × TypeId)} (h : By w wr l) (c : Array Value) (a b d : Value) :
    By w ((((((wr.alloc (.cells zeroCells 78)).alloc (.cells #[.int .i64 0, .int .i64 0, .int .i64 0] 63)).setRow wr.heap.size c).setCell ⟨wr.heap.size + 1, 0, none⟩ a).setCell ⟨wr.heap.size + 1, 1, none⟩ b).setCell ⟨wr.heap.size + 1, 2, none⟩ d) ((wr.heap.size + 1, #[a, b, d], 63) :: (wr.heap.size, c, 78) :: l) := by
  have h2 := (h.box zeroCells 78).box #[.int .i64 0, .int .i64 0, .int .i64 0] 63
  rw [show (wr.alloc (.cells zeroCells 78)).heap.size = wr.heap.size + 1 by simp] at h2
  have h3 := h2.mut1 (Mv.row' (h2.row (wr.heap.size, zeroCells, 78) (by simp)) c)
  have h4 := h3.mut0 (Mv.set0 (v := a) (h3.row (wr.heap.size + 1, _, 63) (List.mem_cons_self ..)))
  have h5 := h4.mut0 (Mv.set1 (v := b) (h4.row (wr.heap.size + 1, _, 63) (List.mem_cons_self ..)))
  exact h5.mut0 (Mv.set2 (v := d) (h5.row (wr.heap.size + 1, _, 63) (List.mem_cons_self ..)))
/-- what the walk wants to know of them -/
structure Two2 (wr : World) (c : Array Value) : Prop where
  r0 : ((wr.alloc (.cells zeroCells 78)).alloc (.cells #[.int .i64 0, .int .i64 0, .int .i64 0] 63)).heap[wr.heap.size]? = some (.cells zeroCells 78)
  r1 : (((wr.alloc (.cells zeroCells 78)).alloc (.cells #[.int .i64 0, .int .i64 0, .int .i64 0] 63)).setRow wr.heap.size c).heap[wr.heap.size + 1]? = some (.cells #[.int .i64 0, .int .i64 0, .int .i64 0] 63)
theorem two2 (wr : World) (c : Array Value) : Two2 wr c := by
  refine ⟨heap_alloc2_old _ _ _, ?_⟩
  rw [setRow_other _ _ _ _ (by omega)]
  exact heap_alloc2_new _ _ _
theorem Two2.cells {wr : World} {c : Array Value} (h : Two2 wr c) (j : Nat) (hj : j < 3) : (((wr.alloc (.cells zeroCells 78)).alloc (.cells #[.int .i64 0, .int .i64 0, .int .i64 0] 63)).setRow wr.heap.size c).cell? ⟨wr.heap.size + 1, j, none⟩ = some (.int .i64 0) := by
  rw [cell_of_row _ _ _ _ _ _ h.r1]
  match j, hj with
  | 0, _ => rfl
  | 1, _ => rfl
  | 2, _ => rfl
theorem Two2.fz {wr : World} {c : Array Value} (h : Two2 wr c) (j : Nat) : (((wr.alloc (.cells zeroCells 78)).alloc (.cells #[.int .i64 0, .int .i64 0, .int .i64 0] 63)).setRow wr.heap.size c).frozen? ⟨wr.heap.size + 1, j, none⟩ = false := frozen_of_row _ _ _ _ _ h.r1
end Go.Proofs.YtfpfpnhpbnnmfadGreatDoor
