/-
  The law LifeOwn. (Written by genhl.py.)
-/
import Derived.Test.YtlbgkpibaahglacGreatXbf
import Derived.Test.YtlbgkpibaahglacGreatXbg
namespace Go.Proofs.YtlbgkpibaahglacGreat
open Go.RowKit
open Idl (Stp chk stpA)
namespace Lif
theorem set16 {α : Type} {x0 x1 x2 x3 x4 x5 x6 x7 x8 x9 x10 x11 x12 x13 x14 x15 v : α} {l : List α} {n : Nat} : (x0 :: x1 :: x2 :: x3 :: x4 :: x5 :: x6 :: x7 :: x8 :: x9 :: x10 :: x11 :: x12 :: x13 :: x14 :: x15 :: l).set (n + 16) v = x0 :: x1 :: x2 :: x3 :: x4 :: x5 :: x6 :: x7 :: x8 :: x9 :: x10 :: x11 :: x12 :: x13 :: x14 :: x15 :: l.set n v := rfl
/-- the life's pointers, its images, and a step in a box of the law's own -/
structure Yk (bl bf bc g : Nat) (cs ds : Array Value) (x : Stp) (V : World) : Prop where
  p0 : V.cell? ⟨bl, 0, none⟩ = some (.pointer (some ⟨bf, 0, none⟩))
  p1 : V.cell? ⟨bf, 0, none⟩ = some (.pointer (some ⟨bc, 0, none⟩))
  row : V.heap[bc]? = some (.cells (cs ++ ds) 57)
  box : V.heap[g]? = some (.cells (stpA x) 31)
theorem Yk.of {w W : World} {bl bf bc g : Nat} {S : Lv} {x : Stp} (h : Lo w bl bf bc S W) (hb : W.heap[g]? = some (.cells (stpA x) 31)) : ∃ cs ds, Yk bl bf bc g cs ds x W ∧ IsImg cs S.now ∧ IsImg ds S.disk := by
  obtain ⟨cs, ds, f⟩ := h.fo.it
  exact ⟨cs, ds, ⟨h.ptr, h.ptr2, f.row, hb⟩, f.now, f.disk⟩
theorem Yk.dir {bl bf bc g : Nat} {cs ds : Array Value} {x : Stp} {V : World} (h : Yk bl bf bc g cs ds x V) : V.cell? ⟨g, 1, none⟩ = some (.int .i64 x.dir) := by rw [cell_of_row _ _ _ _ _ _ h.box]; rfl
theorem Yk.name {bl bf bc g : Nat} {cs ds : Array Value} {x : Stp} {V : World} (h : Yk bl bf bc g cs ds x V) : V.cell? ⟨g, 4, none⟩ = some (.string x.name) := by rw [cell_of_row _ _ _ _ _ _ h.box]; rfl
theorem Yk.has {bl bf bc g : Nat} {cs ds : Array Value} {x : Stp} {V : World} {m : Img} (h : Yk bl bf bc g cs ds x V) (hi : IsImg cs m) : HasAt V bc 0 m := hasAt_of h.row (by rw [Array.size_append, hi.size]; omega) (app_fst hi.size) hi
theorem Yk.est {bl bf bc g : Nat} {cs ds : Array Value} {x : Stp} {V : World} {m : Img} (h : Yk bl bf bc g cs ds x V) (hi : IsImg cs m) {d s : Nat} (hd : d < 3) (hs : s < 4) : V.cell? ⟨bc, 40 + d * 12 + s * 3 + 2, none⟩ = some (.int .i64 (m.est d s)) := by
  have := (h.has hi).est d s hd hs
  rw [Nat.zero_add] at this; exact this
theorem part_one {W : World} {g : Nat} {u : Value} {t : TypeId} (h : W.heap[g]? = some (.cells #[u] t)) : Idl.Part W 1 (.slice (some ⟨g, 0, none⟩) 1 1) 1 [u] :=
  .inr ⟨_, _, rfl, rfl, fun j v hv => by
    match j, hv with
    | 0, hv => injection hv with hv; subst hv; show W.cell? ⟨g, 0 + 0, none⟩ = _; rw [cell_of_row _ _ _ _ _ _ h]; rfl⟩
theorem ix_nums {o : Oper} {ρ : Operand → Value} (x y : Operand) (ho : o.op = .indexAddr 65 x y) {g n c j : Nat} (hx : ρ x = .slice (some ⟨g, 0, none⟩) n c) (hy : ρ y = .int .i64 ((j : Nat) : Int)) (hj : j < n) (w : World) : (execOp ρ o).run Tryz.prog w = .ok (.value (.pointer (some ⟨g, j, none⟩))) w := by
  have jz : (j : Int) < (n : Int) := by omega
  unfold execOp
  rw [ho]
  go_simp
theorem eqib2 {o : Oper} {ρ : Operand → Value} (x y : Operand) (ho : o.op = .binOp .eql 3 x y 3) {u v : Int} (hx : ρ x = .int .i64 u) (hy : ρ y = .int .i64 v) {b : Bool} (hv : (u == v) = b) (w : World) : (execOp ρ o).run Tryz.prog w = .ok (.value (.bool b)) w := by
  unfold execOp
  rw [ho]
  go_simp
theorem ix_strs {o : Oper} {ρ : Operand → Value} (x y : Operand) (ho : o.op = .indexAddr 61 x y) {g n c j : Nat} (hx : ρ x = .slice (some ⟨g, 0, none⟩) n c) (hy : ρ y = .int .i64 ((j : Nat) : Int)) (hj : j < n) (w : World) : (execOp ρ o).run Tryz.prog w = .ok (.value (.pointer (some ⟨g, j, none⟩))) w := by
  have jz : (j : Int) < (n : Int) := by omega
  unfold execOp
  rw [ho]
  go_simp
theorem eq_strb {o : Oper} {ρ : Operand → Value} (x y : Operand) (ho : o.op = .binOp .eql 9 x y 9) {s t : ByteArray} (hx : ρ x = .string s) (hy : ρ y = .string t) {b : Bool} (hv : (s.toList == t.toList) = b) (w : World) : (execOp ρ o).run Tryz.prog w = .ok (.value (.bool b)) w := by
  unfold execOp
  rw [ho]
  go_simp
theorem geq9y {o : Oper} {ρ : Operand → Value} (x : Operand) (ho : o.op = .binOp .geq 3 x (.const (.int .i64 9)) 3) {y : Nat} (hx : ρ x = .int .i64 ((y : Nat) : Int)) (hc : ρ (.const (.int .i64 9)) = .int .i64 9) (hy : y < 9) (w : World) : (execOp ρ o).run Tryz.prog w = .ok (.value (.bool false)) w := by
  have hz : ¬ (9 : Int) ≤ (y : Int) := by omega
  unfold execOp
  rw [ho]
  go_simp
theorem strs_cell {w : World} {base : Nat} {v : Value} {l : List ByteArray} (h : w.ownsRow base 9 1 v l.length (Idl.strs l)) :
    (v = .slice none 0 0 ∧ l = []) ∨ ∃ g c, v = .slice (some ⟨g, 0, none⟩) l.length c ∧ base ≤ g ∧ g < w.heap.size ∧ ∀ i (hi : i < l.length), w.cell? ⟨g, i, none⟩ = some (.string l[i]) := by
  rcases h.2 with ⟨h1, h2⟩ | ⟨g, cap, cur, h1, hb, h3, h4, h5, h6, h7⟩
  · exact .inl ⟨h1, List.eq_nil_of_length_eq_zero h2⟩
  · refine .inr ⟨g, cap, h1, hb, (Array.getElem?_eq_some_iff.1 h3).1, fun i hi => ?_⟩
    rw [cell_of_row w g _ _ _ _ h3]
    have : (Idl.strs l)[i]? = some (.string l[i]) := by simp [Idl.strs, hi]
    rw [← h7, List.getElem?_take] at this
    split at this
    · simpa using this
    · cases this
theorem cell_keep {B : Nat} {w W : World} (h : Below B w W) {g q : Nat} (hg : g < B) {v : Value} (hc : w.cell? ⟨g, q, none⟩ = some v) : W.cell? ⟨g, q, none⟩ = some v := by
  rw [h.cell (p := ⟨g, q, none⟩) hg]; exact hc
/-- apart from a life and from the two rows -/
structure Apart (bl bf bc : Nat) (v1 v2 : Value) (g : Nat) : Prop where
  l : g ≠ bl
  f : g ≠ bf
  c : g ≠ bc
  a : v1.ownBlock ≠ some g
  b : v2.ownBlock ≠ some g
set_option maxHeartbeats 8000000 in
set_option maxRecDepth 100000 in
theorem lifeOwn_any {w : World} {v : Value} {L : List Stp} (hs : Idl.Steps w v L) :
    Calls Tryz.prog 6 #[v] w fun e w' => e = .returned (.bool true) ∧ Below w.heap.size w w' := by
  have z := zero_img.1
  have hbg := Lif.begun_any w
  have HG := hide fun W (bW : Below w.heap.size w W) => Idl.greatSteps_any (hs.below bW)
  have HOk := hide hs.ok
  have hgl : Idl.greats L = false → L.length ≤ 200 := fun h => by
    simp only [Idl.greats, Bool.or_eq_false_iff, decide_eq_false_iff_not] at h
    omega
  have HGL := hide hgl
  obtain ⟨a, c, rfl, hst⟩ := Sft.Steps.gen hs
  have HST := hide hst
  clear hs hgl hst
  go_enter Tryz.func6, Tryz.ntmps6
  go_wp2_with fail
  refine hbg.mono ?_
  rintro e w1 ⟨rfl, b1⟩
  have B1 := hide b1
  have hg := unhide HG w1 b1
  clear b1 hbg
  cases hgr : Idl.greats L <;> rw [hgr] at hg
  case true =>
    clear hgr
    go_wp2_with fail
    refine hg.mono ?_
    rintro e w2 ⟨rfl, b2⟩
    have B2 := hide ((unhide B1).trans (b2.mono (unhide B1).size))
    clear b2 hg
    go_wp2_with fail
    go_ret
    exact ⟨rfl, unhide B2⟩
  have h200 := unhide HGL hgr
  clear hgr HGL HG
  go_wp2_with fail
  refine hg.mono ?_
  rintro e w2 ⟨rfl, b2⟩
  have B2 := hide ((unhide B1).trans (b2.mono (unhide B1).size))
  clear b2 hg B1
  go_wp2_with fail
  refine (lNew_any w (unhide B2)).mono ?_
  rintro e w3 ⟨bl, bf0, bc0, rfl, _, _, _, h3, _⟩
  have H3 := hide h3
  clear h3 B2
  go_wp2_with fail
  go_loopw [4, 5, 6] (fun v1 v2 i wr => ∃ (j bf bc : Nat) (S : Lv) (l : List (Int × ByteArray)), j ≤ L.length ∧ i = .int .i64 j ∧ Hid (Lo w bl bf bc S wr) ∧ Hid (S.Ok j) ∧ Hid (Lif.Lg w bl bf bc v1 v2 (l.map (·.1)) (l.map (·.2)) wr) ∧ Hid (OwnS l S) ∧ l.length ≤ j) (fun _ _ i _ => L.length - (intOf i).toNat)
  case atStart => exact ⟨0, bf0, bc0, Lv.new, [], Nat.zero_le _, rfl, H3, hide Lv.Ok.start, hide (Lif.Lg.start _ _ _ _ _), hide OwnS.start, Nat.le_refl _⟩
  case round =>
    clear H3
    obtain ⟨j, bf, bc, S, l, hj, rfl, HF, HK, HG, HO, hll⟩ := hrel
    generalize u4 = v1 at HG ⊢
    generalize u5 = v2 at HG ⊢
    by_cases hlt : j < L.length
    case neg =>
      go_wp2_with fail
      go_ret
      exact ⟨rfl, (unhide HF).bel⟩
    have hjn : (j : Int) < (L.length : Int) := by omega
    obtain ⟨ga, oa, rfl, hga, hca⟩ := unhide HST j hlt
    have hxo := unhide HOk L[j] (List.getElem_mem hlt)
    generalize L[j] = x at hca hxo
    have HXO := hide hxo.big
    have S0 := hca _ (unhide HF).bel
    have K1 := hide ((unhide HK).any x)
    have O1 := hide ((unhide HO).step (unhide HK) x)
    clear hca hxo HST HOk hga HO
    have s1 := hide (heap_alloc_last wr (.cells #[.int .i64 0, .int .i64 0, .int .i64 0, .int .i64 0, .string ⟨#[]⟩, .string ⟨#[]⟩, .string ⟨#[]⟩] 31))
    have BA := hide (below_setRow ((Below.refl wr.heap.size wr).alloc (Nat.le_refl _) (.cells #[.int .i64 0, .int .i64 0, .int .i64 0, .int .i64 0, .string ⟨#[]⟩, .string ⟨#[]⟩, .string ⟨#[]⟩] 31)) (Nat.le_refl wr.heap.size) (stpA x))
    have RA := hide (setRow_heap (wr.alloc (.cells #[.int .i64 0, .int .i64 0, .int .i64 0, .int .i64 0, .string ⟨#[]⟩, .string ⟨#[]⟩, .string ⟨#[]⟩] 31)) wr.heap.size _ (stpA x) _ _ (heap_alloc_last wr (.cells #[.int .i64 0, .int .i64 0, .int .i64 0, .int .i64 0, .string ⟨#[]⟩, .string ⟨#[]⟩, .string ⟨#[]⟩] 31)))
    go_upto_region 12 with (first | (refine wpList_value rfl (Lif.ix_step (c := c) _ _ rfl (g := ga) (q := oa) (n := L.length) (j := j) rfl rfl hlt _) ?_) | (refine wpList_value rfl (Lif.ld_step _ rfl rfl x _ S0) ?_) | (have hx := unhide s1; refine wpList_store_row rfl 31 _ _ rfl wr.heap.size (stpA x) rfl rfl 31 _ hx (Sft.step_info x) rfl (Sft.step_all x) ?_; clear hx s1))
    try simp only [Act.put]
    have NG := hide (show Lif.Apart bl bf bc v1 v2 wr.heap.size from ⟨by have := (unhide HF).lt; omega, by have := (unhide HF).fo.cells.2.1; omega, by have := (unhide HF).fo.cells.2.2.1; omega, fun e => by have := ((unhide HG).own1.lt _ e).2; omega, fun e => by have := ((unhide HG).own2.lt _ e).2; omega⟩)
    generalize (wr.alloc (.cells #[.int .i64 0, .int .i64 0, .int .i64 0, .int .i64 0, .string ⟨#[]⟩, .string ⟨#[]⟩, .string ⟨#[]⟩] 31)).setRow wr.heap.size (stpA x) = X1 at BA RA ⊢
    have H1 := hide ((unhide HF).call (unhide BA))
    have G1 := hide ((unhide HG).below (unhide BA))
    clear BA HF HG S0
    generalize wr.heap.size = g7 at RA NG ⊢
    have H2 := hide ((unhide H1).call (Below.refl _ X1).drew)
    have G2 := hide ((unhide G1).below (Below.refl _ X1).drew)
    have R2 : Hid (X1.drew.heap[g7]? = some (.cells (stpA x) 31)) := RA
    clear H1 G1 RA
    obtain ⟨fi, hfi⟩ : ∃ i : Int, i = S.now.findAt x.dir x.name.toList := ⟨_, rfl⟩
    obtain ⟨cs, ds, hyk, hi, hk1⟩ := Lif.Yk.of (unhide H2) (unhide R2)
    have FI := hide (At.find_any bc S.now x.dir x.name _ (hyk.has hi))
    rw [← hfi] at FI
    have HFI := hide hfi
    clear hfi
    refine wp_region_held_drew (S := Lif.Yk bl bf bc g7 cs ds x) (by kernel_rfl) (hyk) (fun hS => ?_)
    refine wpAnyH_take (i := 0) (oi := { dst := some 34, op := Op.move (Operand.tmp 3), type := 25, pos := "law07.go:120", after := #[], guard := none }) (v := .pointer (some ⟨bl, 0, none⟩)) rfl (by kernel_rfl) (by kernel_rfl) (by kernel_rfl) (fun _ _ _ h => h) (Or.inl ⟨by kernel_rfl, fun W h => (by first | kernel_rfl | go_simp)⟩) hyk ?_
    try (simp only [Act.put, List.setIfInBounds_toArray]; dsimp only [Lif.set16, List.set_cons_zero, List.set_cons_succ])
    refine wpAnyH_take (i := 1) (oi := { dst := some 35, op := Op.nilCheck (Operand.tmp 34), type := 0, pos := "law07.go:120", after := #[{ on := 0, ground := Ground.data }], guard := none }) (v := .pointer (some ⟨bl, 0, none⟩)) rfl (by kernel_rfl) (by kernel_rfl) (by kernel_rfl) (fun _ _ _ h => h) (Or.inl ⟨by kernel_rfl, fun W h => (by first | kernel_rfl | go_simp)⟩) hyk ?_
    try (simp only [Act.put, List.setIfInBounds_toArray]; dsimp only [Lif.set16, List.set_cons_zero, List.set_cons_succ])
    refine wpAnyH_take (i := 2) (oi := { dst := some 36, op := Op.fieldAddr 50 (Operand.tmp 35) 0, type := 0, pos := "law07.go:120", after := #[{ on := 1, ground := Ground.data }], guard := none }) (v := .pointer (some ⟨bl, 0, none⟩)) rfl (by kernel_rfl) (by kernel_rfl) (by kernel_rfl) (fun _ _ _ h => h) (Or.inl ⟨by kernel_rfl, fun W h => (by first | kernel_rfl | go_simp)⟩) hyk ?_
    try (simp only [Act.put, List.setIfInBounds_toArray]; dsimp only [Lif.set16, List.set_cons_zero, List.set_cons_succ])
    refine wpAnyH_take (i := 3) (oi := { dst := some 37, op := Op.load 46 (Operand.tmp 36), type := 46, pos := "law07.go:120", after := #[{ on := 2, ground := Ground.data }], guard := none }) (v := .pointer (some ⟨bf, 0, none⟩)) rfl (by kernel_rfl) (by kernel_rfl) (by kernel_rfl) (fun _ _ _ h => h) (Or.inl ⟨by kernel_rfl, fun W h => Op1.ld_files (.tmp 36) (by kernel_rfl) (by kernel_rfl) W h.p0⟩) hyk ?_
    try (simp only [Act.put, List.setIfInBounds_toArray]; dsimp only [Lif.set16, List.set_cons_zero, List.set_cons_succ])
    refine wpAnyH_take (i := 4) (oi := { dst := some 38, op := Op.nilCheck (Operand.tmp 37), type := 0, pos := "law07.go:120", after := #[{ on := 3, ground := Ground.data }], guard := none }) (v := .pointer (some ⟨bf, 0, none⟩)) rfl (by kernel_rfl) (by kernel_rfl) (by kernel_rfl) (fun _ _ _ h => h) (Or.inl ⟨by kernel_rfl, fun W h => (by first | kernel_rfl | go_simp)⟩) hyk ?_
    try (simp only [Act.put, List.setIfInBounds_toArray]; dsimp only [Lif.set16, List.set_cons_zero, List.set_cons_succ])
    refine wpAnyH_take (i := 5) (oi := { dst := some 39, op := Op.fieldAddr 53 (Operand.tmp 38) 0, type := 0, pos := "law07.go:120", after := #[{ on := 4, ground := Ground.data }], guard := none }) (v := .pointer (some ⟨bf, 0, none⟩)) rfl (by kernel_rfl) (by kernel_rfl) (by kernel_rfl) (fun _ _ _ h => h) (Or.inl ⟨by kernel_rfl, fun W h => (by first | kernel_rfl | go_simp)⟩) hyk ?_
    try (simp only [Act.put, List.setIfInBounds_toArray]; dsimp only [Lif.set16, List.set_cons_zero, List.set_cons_succ])
    refine wpAnyH_take (i := 6) (oi := { dst := some 40, op := Op.load 51 (Operand.tmp 39), type := 51, pos := "law07.go:120", after := #[{ on := 5, ground := Ground.data }], guard := none }) (v := .pointer (some ⟨bc, 0, none⟩)) rfl (by kernel_rfl) (by kernel_rfl) (by kernel_rfl) (fun _ _ _ h => h) (Or.inl ⟨by kernel_rfl, fun W h => Lif.ld_cache (.tmp 39) (by kernel_rfl) (by kernel_rfl) W h.p1⟩) hyk ?_
    try (simp only [Act.put, List.setIfInBounds_toArray]; dsimp only [Lif.set16, List.set_cons_zero, List.set_cons_succ])
    refine wpAnyH_take (i := 7) (oi := { dst := some 41, op := Op.nilCheck (Operand.tmp 40), type := 0, pos := "law07.go:120", after := #[{ on := 6, ground := Ground.data }], guard := none }) (v := .pointer (some ⟨bc, 0, none⟩)) rfl (by kernel_rfl) (by kernel_rfl) (by kernel_rfl) (fun _ _ _ h => h) (Or.inl ⟨by kernel_rfl, fun W h => (by first | kernel_rfl | go_simp)⟩) hyk ?_
    try (simp only [Act.put, List.setIfInBounds_toArray]; dsimp only [Lif.set16, List.set_cons_zero, List.set_cons_succ])
    refine wpAnyH_take (i := 8) (oi := { dst := some 42, op := Op.fieldAddr 57 (Operand.tmp 41) 0, type := 0, pos := "law07.go:120", after := #[{ on := 7, ground := Ground.data }], guard := none }) (v := .pointer (some ⟨bc, 0, none⟩)) rfl (by kernel_rfl) (by kernel_rfl) (by kernel_rfl) (fun _ _ _ h => h) (Or.inl ⟨by kernel_rfl, fun W h => (by first | kernel_rfl | go_simp)⟩) hyk ?_
    try (simp only [Act.put, List.setIfInBounds_toArray]; dsimp only [Lif.set16, List.set_cons_zero, List.set_cons_succ])
    refine wpAnyH_take (i := 9) (oi := { dst := some 43, op := Op.fieldAddr 31 (Operand.tmp 7) 1, type := 0, pos := "law07.go:120", after := #[], guard := none }) (v := .pointer (some ⟨g7, 1, none⟩)) rfl (by kernel_rfl) (by kernel_rfl) (by kernel_rfl) (fun _ _ _ h => h) (Or.inl ⟨by kernel_rfl, fun W h => (by first | kernel_rfl | go_simp)⟩) hyk ?_
    try (simp only [Act.put, List.setIfInBounds_toArray]; dsimp only [Lif.set16, List.set_cons_zero, List.set_cons_succ])
    refine wpAnyH_take (i := 10) (oi := { dst := some 44, op := Op.load 3 (Operand.tmp 43), type := 3, pos := "law07.go:120", after := #[{ on := 9, ground := Ground.data }], guard := none }) (v := .int .i64 x.dir) rfl (by kernel_rfl) (by kernel_rfl) (by kernel_rfl) (fun _ _ _ h => h) (Or.inl ⟨by kernel_rfl, fun W h => Lif.ld_int (.tmp 43) (by kernel_rfl) (by kernel_rfl) W h.dir⟩) hyk ?_
    try (simp only [Act.put, List.setIfInBounds_toArray]; dsimp only [Lif.set16, List.set_cons_zero, List.set_cons_succ])
    refine wpAnyH_take (i := 11) (oi := { dst := some 45, op := Op.fieldAddr 31 (Operand.tmp 7) 4, type := 0, pos := "law07.go:120", after := #[], guard := none }) (v := .pointer (some ⟨g7, 4, none⟩)) rfl (by kernel_rfl) (by kernel_rfl) (by kernel_rfl) (fun _ _ _ h => h) (Or.inl ⟨by kernel_rfl, fun W h => (by first | kernel_rfl | go_simp)⟩) hyk ?_
    try (simp only [Act.put, List.setIfInBounds_toArray]; dsimp only [Lif.set16, List.set_cons_zero, List.set_cons_succ])
    refine wpAnyH_take (i := 12) (oi := { dst := some 46, op := Op.load 9 (Operand.tmp 45), type := 9, pos := "law07.go:120", after := #[{ on := 11, ground := Ground.data }], guard := none }) (v := .string x.name) rfl (by kernel_rfl) (by kernel_rfl) (by kernel_rfl) (fun _ _ _ h => h) (Or.inl ⟨by kernel_rfl, fun W h => Op1.ld_str (.tmp 45) (by kernel_rfl) (by kernel_rfl) W h.name⟩) hyk ?_
    try (simp only [Act.put, List.setIfInBounds_toArray]; dsimp only [Lif.set16, List.set_cons_zero, List.set_cons_succ])
    refine wpAnyH_ready (rs := [13]) (by kernel_rfl) (by simp) ?_
    refine AllReadyH.cons (o := { dst := some 47, op := Op.call { callee := Callee.value (Operand.func 28), args := #[Operand.tmp 42, Operand.tmp 44, Operand.tmp 46], argTypes := #[64, 3, 9] }, type := 3, pos := "law07.go:120", after := #[{ on := 8, ground := Ground.data }, { on := 10, ground := Ground.data }, { on := 12, ground := Ground.data }], guard := none }) rfl (fun K hK => ?_) AllReadyH.nil
    rw [if_pos (by kernel_rfl)]
    go_simp
    refine (unhide FI).mono ?_
    rintro e W5 ⟨rfl, rfl⟩
    go_wp2_with fail
    refine hK.out _ _ (hyk) (fun hS5 => ?_)
    clear hK K
    try (simp only [Act.put, List.setIfInBounds_toArray]; dsimp only [Lif.set16, List.set_cons_zero, List.set_cons_succ])
    refine wpAnyH_take (i := 14) (oi := { dst := some 8, op := Op.assign (Operand.tmp 47), type := 3, pos := "law07.go:120", after := #[{ on := 13, ground := Ground.data }, { on := 13, ground := Ground.chain }, { on := 0, ground := Ground.phase }, { on := 1, ground := Ground.phase }, { on := 2, ground := Ground.phase }, { on := 3, ground := Ground.phase }, { on := 4, ground := Ground.phase }, { on := 5, ground := Ground.phase }, { on := 6, ground := Ground.phase }, { on := 7, ground := Ground.phase }, { on := 8, ground := Ground.phase }, { on := 9, ground := Ground.phase }, { on := 10, ground := Ground.phase }, { on := 11, ground := Ground.phase }, { on := 12, ground := Ground.phase }, { on := 13, ground := Ground.phase }], guard := none }) (v := .int .i64 fi) rfl (by kernel_rfl) (by kernel_rfl) (by kernel_rfl) (fun _ _ _ h => h) (Or.inl ⟨by kernel_rfl, fun W h => (by first | kernel_rfl | go_simp)⟩) hS5 ?_
    try (simp only [Act.put, List.setIfInBounds_toArray]; dsimp only [Lif.set16, List.set_cons_zero, List.set_cons_succ])
    refine wpAnyH_done (by kernel_rfl) ?_ _
    clear hS hS5 FI
    generalize X1.drew = X2 at H2 G2 R2 hyk ⊢
    go_upto_region 14 with fail
    obtain ⟨st, hst⟩ : ∃ i : Int, i = Img.stampAt S.now x.dir x.name := ⟨_, rfl⟩
    have HSTA := hide hst
    clear hst
    obtain ⟨bt, hbt⟩ : ∃ b : Bool, b = decide (0 ≤ fi) := ⟨_, rfl⟩
    have HBT := hide hbt
    clear hbt
    have F4 := hide (show 0 ≤ fi → fi < 4 from fun h => by
      obtain ⟨_, _, k, hk, e, _, _⟩ := Img.findAt_some (by rw [← unhide HFI]; exact h)
      rw [← unhide HFI] at e
      omega)
    go_cut [53] from 48 to 53 (fun q wx => q = .bool bt ∧ wx = X2)
    case first =>
      by_cases hf : 0 ≤ fi
      case neg =>
        have t0 : decide (0 ≤ fi) = false := by simpa using hf
        go_wp2_with fail
        go_meet
        exact ⟨by rw [unhide HBT, t0], rfl⟩
      have t0 : decide (0 ≤ fi) = true := by simpa using hf
      have t4 : decide (fi < 4) = true := by have := unhide F4 hf; simp; omega
      go_wp2_with fail
      go_meet
      exact ⟨by rw [unhide HBT, t0], rfl⟩
    case rest =>
    obtain ⟨rfl, hwc⟩ := hcut
    rw [hwc]
    clear hwc wc F4
    go_upto_if 53 with fail
    go_cut [9] from 54 to 70 (fun q wx => q = .int .i64 st ∧ Hid (Below X2.heap.size X2 wx))
    case first =>
      cases bt
      case false =>
        have hf : ¬ 0 ≤ fi := by have := unhide HBT; simpa using this.symm
        have E0 := hide (show st = 0 by rw [unhide HSTA]; unfold Img.stampAt; rw [if_neg (by rw [← unhide HFI]; exact hf)])
        clear hf
        go_wp2_with fail
        go_meet
        exact ⟨by rw [unhide E0], hide (Below.refl _ _)⟩
      have hf : 0 ≤ fi := by have := unhide HBT; simpa using this.symm
      obtain ⟨hd, _, k, hk, e, _, _⟩ := Img.findAt_some (by rw [← unhide HFI]; exact hf)
      rw [← unhide HFI] at e
      obtain ⟨d, hxd⟩ : ∃ d : Nat, x.dir = (d : Int) := ⟨x.dir.toNat, by omega⟩
      have hd3 : d < 3 := by omega
      have E1 := hide (show S.now.est d k = st by rw [unhide HSTA]; unfold Img.stampAt; rw [if_pos (by rw [← unhide HFI]; exact hf), ← unhide HFI, e, hxd, Int.toNat_natCast, Int.toNat_natCast])
      have XD := hide hxd
      have EK := hide e
      clear hf hd hxd e
      go_upto_region 15 with fail
      have hyk : Lif.Yk bl bf bc g7 cs ds x X2.drew := ⟨hyk.p0, hyk.p1, hyk.row, hyk.box⟩
      refine wp_region_held_drew (S := Lif.Yk bl bf bc g7 cs ds x) (by kernel_rfl) (hyk) (fun hS => ?_)
      refine wpAnyH_take (i := 0) (oi := { dst := some 54, op := Op.move (Operand.tmp 3), type := 25, pos := "law07.go:123", after := #[], guard := none }) (v := .pointer (some ⟨bl, 0, none⟩)) rfl (by kernel_rfl) (by kernel_rfl) (by kernel_rfl) (fun _ _ _ h => h) (Or.inl ⟨by kernel_rfl, fun W h => (by first | kernel_rfl | go_simp)⟩) hyk ?_
      try (simp only [Act.put, List.setIfInBounds_toArray]; dsimp only [Lif.set16, List.set_cons_zero, List.set_cons_succ])
      refine wpAnyH_take (i := 1) (oi := { dst := some 55, op := Op.nilCheck (Operand.tmp 54), type := 0, pos := "law07.go:123", after := #[{ on := 0, ground := Ground.data }], guard := none }) (v := .pointer (some ⟨bl, 0, none⟩)) rfl (by kernel_rfl) (by kernel_rfl) (by kernel_rfl) (fun _ _ _ h => h) (Or.inl ⟨by kernel_rfl, fun W h => (by first | kernel_rfl | go_simp)⟩) hyk ?_
      try (simp only [Act.put, List.setIfInBounds_toArray]; dsimp only [Lif.set16, List.set_cons_zero, List.set_cons_succ])
      refine wpAnyH_take (i := 2) (oi := { dst := some 56, op := Op.fieldAddr 50 (Operand.tmp 55) 0, type := 0, pos := "law07.go:123", after := #[{ on := 1, ground := Ground.data }], guard := none }) (v := .pointer (some ⟨bl, 0, none⟩)) rfl (by kernel_rfl) (by kernel_rfl) (by kernel_rfl) (fun _ _ _ h => h) (Or.inl ⟨by kernel_rfl, fun W h => (by first | kernel_rfl | go_simp)⟩) hyk ?_
      try (simp only [Act.put, List.setIfInBounds_toArray]; dsimp only [Lif.set16, List.set_cons_zero, List.set_cons_succ])
      refine wpAnyH_take (i := 3) (oi := { dst := some 57, op := Op.load 46 (Operand.tmp 56), type := 46, pos := "law07.go:123", after := #[{ on := 2, ground := Ground.data }], guard := none }) (v := .pointer (some ⟨bf, 0, none⟩)) rfl (by kernel_rfl) (by kernel_rfl) (by kernel_rfl) (fun _ _ _ h => h) (Or.inl ⟨by kernel_rfl, fun W h => Op1.ld_files (.tmp 56) (by kernel_rfl) (by kernel_rfl) W h.p0⟩) hyk ?_
      try (simp only [Act.put, List.setIfInBounds_toArray]; dsimp only [Lif.set16, List.set_cons_zero, List.set_cons_succ])
      refine wpAnyH_take (i := 4) (oi := { dst := some 58, op := Op.nilCheck (Operand.tmp 57), type := 0, pos := "law07.go:123", after := #[{ on := 3, ground := Ground.data }], guard := none }) (v := .pointer (some ⟨bf, 0, none⟩)) rfl (by kernel_rfl) (by kernel_rfl) (by kernel_rfl) (fun _ _ _ h => h) (Or.inl ⟨by kernel_rfl, fun W h => (by first | kernel_rfl | go_simp)⟩) hyk ?_
      try (simp only [Act.put, List.setIfInBounds_toArray]; dsimp only [Lif.set16, List.set_cons_zero, List.set_cons_succ])
      refine wpAnyH_take (i := 5) (oi := { dst := some 59, op := Op.fieldAddr 53 (Operand.tmp 58) 0, type := 0, pos := "law07.go:123", after := #[{ on := 4, ground := Ground.data }], guard := none }) (v := .pointer (some ⟨bf, 0, none⟩)) rfl (by kernel_rfl) (by kernel_rfl) (by kernel_rfl) (fun _ _ _ h => h) (Or.inl ⟨by kernel_rfl, fun W h => (by first | kernel_rfl | go_simp)⟩) hyk ?_
      try (simp only [Act.put, List.setIfInBounds_toArray]; dsimp only [Lif.set16, List.set_cons_zero, List.set_cons_succ])
      refine wpAnyH_take (i := 6) (oi := { dst := some 60, op := Op.load 51 (Operand.tmp 59), type := 51, pos := "law07.go:123", after := #[{ on := 5, ground := Ground.data }], guard := none }) (v := .pointer (some ⟨bc, 0, none⟩)) rfl (by kernel_rfl) (by kernel_rfl) (by kernel_rfl) (fun _ _ _ h => h) (Or.inl ⟨by kernel_rfl, fun W h => Lif.ld_cache (.tmp 59) (by kernel_rfl) (by kernel_rfl) W h.p1⟩) hyk ?_
      try (simp only [Act.put, List.setIfInBounds_toArray]; dsimp only [Lif.set16, List.set_cons_zero, List.set_cons_succ])
      refine wpAnyH_take (i := 7) (oi := { dst := some 61, op := Op.fieldAddr 31 (Operand.tmp 7) 1, type := 0, pos := "law07.go:123", after := #[], guard := none }) (v := .pointer (some ⟨g7, 1, none⟩)) rfl (by kernel_rfl) (by kernel_rfl) (by kernel_rfl) (fun _ _ _ h => h) (Or.inl ⟨by kernel_rfl, fun W h => (by first | kernel_rfl | go_simp)⟩) hyk ?_
      try (simp only [Act.put, List.setIfInBounds_toArray]; dsimp only [Lif.set16, List.set_cons_zero, List.set_cons_succ])
      refine wpAnyH_take (i := 8) (oi := { dst := some 62, op := Op.load 3 (Operand.tmp 61), type := 3, pos := "law07.go:123", after := #[{ on := 7, ground := Ground.data }], guard := none }) (v := .int .i64 (d : Int)) rfl (by kernel_rfl) (by kernel_rfl) (by kernel_rfl) (fun _ _ _ h => h) (Or.inl ⟨by kernel_rfl, fun W h => Lif.ld_int (.tmp 61) (by kernel_rfl) (by kernel_rfl) W (by rw [h.dir, unhide XD])⟩) hyk ?_
      try (simp only [Act.put, List.setIfInBounds_toArray]; dsimp only [Lif.set16, List.set_cons_zero, List.set_cons_succ])
      refine wpAnyH_take (i := 9) (oi := { dst := some 63, op := Op.move (Operand.tmp 8), type := 3, pos := "law07.go:123", after := #[], guard := none }) (v := .int .i64 fi) rfl (by kernel_rfl) (by kernel_rfl) (by kernel_rfl) (fun _ _ _ h => h) (Or.inl ⟨by kernel_rfl, fun W h => (by first | kernel_rfl | go_simp)⟩) hyk ?_
      try (simp only [Act.put, List.setIfInBounds_toArray]; dsimp only [Lif.set16, List.set_cons_zero, List.set_cons_succ])
      refine wpAnyH_take (i := 10) (oi := { dst := some 64, op := Op.nilCheck (Operand.tmp 60), type := 0, pos := "law07.go:123", after := #[{ on := 6, ground := Ground.data }], guard := none }) (v := .pointer (some ⟨bc, 0, none⟩)) rfl (by kernel_rfl) (by kernel_rfl) (by kernel_rfl) (fun _ _ _ h => h) (Or.inl ⟨by kernel_rfl, fun W h => (by first | kernel_rfl | go_simp)⟩) hyk ?_
      try (simp only [Act.put, List.setIfInBounds_toArray]; dsimp only [Lif.set16, List.set_cons_zero, List.set_cons_succ])
      refine wpAnyH_take (i := 11) (oi := { dst := some 65, op := Op.fieldAddr 57 (Operand.tmp 64) 0, type := 0, pos := "law07.go:123", after := #[{ on := 10, ground := Ground.data }], guard := none }) (v := .pointer (some ⟨bc, 0, none⟩)) rfl (by kernel_rfl) (by kernel_rfl) (by kernel_rfl) (fun _ _ _ h => h) (Or.inl ⟨by kernel_rfl, fun W h => (by first | kernel_rfl | go_simp)⟩) hyk ?_
      try (simp only [Act.put, List.setIfInBounds_toArray]; dsimp only [Lif.set16, List.set_cons_zero, List.set_cons_succ])
      refine wpAnyH_take (i := 12) (oi := { dst := some 66, op := Op.fieldAddr 44 (Operand.tmp 65) 1, type := 0, pos := "law07.go:123", after := #[{ on := 11, ground := Ground.data }], guard := none }) (v := .pointer (some ⟨bc, 40, none⟩)) rfl (by kernel_rfl) (by kernel_rfl) (by kernel_rfl) (fun _ _ _ h => h) (Or.inl ⟨by kernel_rfl, fun W h => (by first | kernel_rfl | go_simp)⟩) hyk ?_
      try (simp only [Act.put, List.setIfInBounds_toArray]; dsimp only [Lif.set16, List.set_cons_zero, List.set_cons_succ])
      refine wpAnyH_take (i := 13) (oi := { dst := some 67, op := Op.indexAddr 39 (Operand.tmp 66) (Operand.tmp 62), type := 0, pos := "law07.go:123", after := #[{ on := 12, ground := Ground.data }, { on := 8, ground := Ground.data }], guard := none }) (v := .pointer (some ⟨bc, 40 + d * 12, none⟩)) rfl (by kernel_rfl) (by kernel_rfl) (by kernel_rfl) (fun _ _ _ h => h) (Or.inl ⟨by kernel_rfl, fun W h => Op1.ix_dir (.tmp 66) (.tmp 62) (by kernel_rfl) (by kernel_rfl) (by kernel_rfl) hd3 W⟩) hyk ?_
      try (simp only [Act.put, List.setIfInBounds_toArray]; dsimp only [Lif.set16, List.set_cons_zero, List.set_cons_succ])
      obtain rfl := unhide EK
      refine wpAnyH_take (i := 14) (oi := { dst := some 68, op := Op.indexAddr 38 (Operand.tmp 67) (Operand.tmp 63), type := 0, pos := "law07.go:123", after := #[{ on := 13, ground := Ground.data }, { on := 9, ground := Ground.data }], guard := none }) (v := .pointer (some ⟨bc, 40 + d * 12 + k * 3, none⟩)) rfl (by kernel_rfl) (by kernel_rfl) (by kernel_rfl) (fun _ _ _ h => h) (Or.inl ⟨by kernel_rfl, fun W h => Op1.ix_slot (.tmp 67) (.tmp 63) (by kernel_rfl) (by kernel_rfl) (by kernel_rfl) hk W⟩) hyk ?_
      try (simp only [Act.put, List.setIfInBounds_toArray]; dsimp only [Lif.set16, List.set_cons_zero, List.set_cons_succ])
      refine wpAnyH_take (i := 15) (oi := { dst := some 69, op := Op.fieldAddr 37 (Operand.tmp 68) 2, type := 0, pos := "law07.go:123", after := #[{ on := 14, ground := Ground.data }], guard := none }) (v := .pointer (some ⟨bc, 40 + d * 12 + k * 3 + 2, none⟩)) rfl (by kernel_rfl) (by kernel_rfl) (by kernel_rfl) (fun _ _ _ h => h) (Or.inl ⟨by kernel_rfl, fun W h => (by first | kernel_rfl | go_simp)⟩) hyk ?_
      try (simp only [Act.put, List.setIfInBounds_toArray]; dsimp only [Lif.set16, List.set_cons_zero, List.set_cons_succ])
      refine wpAnyH_take (i := 16) (oi := { dst := some 70, op := Op.load 3 (Operand.tmp 69), type := 3, pos := "law07.go:123", after := #[{ on := 15, ground := Ground.data }], guard := none }) (v := .int .i64 st) rfl (by kernel_rfl) (by kernel_rfl) (by kernel_rfl) (fun _ _ _ h => h) (Or.inl ⟨by kernel_rfl, fun W h => Lif.ld_int (.tmp 69) (by kernel_rfl) (by kernel_rfl) W (by rw [h.est hi hd3 hk, unhide E1])⟩) hyk ?_
      try (simp only [Act.put, List.setIfInBounds_toArray]; dsimp only [Lif.set16, List.set_cons_zero, List.set_cons_succ])
      refine wpAnyH_take (i := 17) (oi := { dst := some 9, op := Op.assign (Operand.tmp 70), type := 3, pos := "law07.go:123", after := #[{ on := 16, ground := Ground.data }, { on := 0, ground := Ground.phase }, { on := 1, ground := Ground.phase }, { on := 2, ground := Ground.phase }, { on := 3, ground := Ground.phase }, { on := 4, ground := Ground.phase }, { on := 5, ground := Ground.phase }, { on := 6, ground := Ground.phase }, { on := 7, ground := Ground.phase }, { on := 8, ground := Ground.phase }, { on := 9, ground := Ground.phase }, { on := 10, ground := Ground.phase }, { on := 11, ground := Ground.phase }, { on := 12, ground := Ground.phase }, { on := 13, ground := Ground.phase }, { on := 14, ground := Ground.phase }, { on := 15, ground := Ground.phase }, { on := 16, ground := Ground.phase }], guard := none }) (v := .int .i64 st) rfl (by kernel_rfl) (by kernel_rfl) (by kernel_rfl) (fun _ _ _ h => h) (Or.inl ⟨by kernel_rfl, fun W h => (by first | kernel_rfl | go_simp)⟩) hyk ?_
      try (simp only [Act.put, List.setIfInBounds_toArray]; dsimp only [Lif.set16, List.set_cons_zero, List.set_cons_succ])
      refine wpAnyH_done (by kernel_rfl) ?_ _
      clear hS
      go_wp2_with fail
      go_meet
      exact ⟨rfl, hide (Below.refl _ X2).drew⟩
    case rest =>
      obtain ⟨rfl, BC⟩ := hcut
      have H3 := hide ((unhide H2).call (unhide BC))
      have G3 := hide ((unhide G2).below (unhide BC))
      have R3 := hide (show wc.heap[g7]? = some (.cells (stpA x) 31) by rw [(unhide BC).block _ (Array.getElem?_eq_some_iff.1 (unhide R2)).1]; exact unhide R2)
      clear hyk hi hk1 BC H2 G2 R2 HFI
      have LL := hide (show (l.map (·.1)).length ≤ 200 ∧ (l.map (·.2)).length ≤ 200 by rw [List.length_map, List.length_map]; omega)
      have D := hide (lStep_any (unhide H3) (unhide HK) (by omega) x (unhide HXO).1 (unhide HXO).2.1 (unhide HXO).2.2)
      have R3' := R3
      go_wp2_with (have hx := unhide R3'; refine wpList_load_row rfl 31 _ rfl g7 rfl 31 (stpA x) (0, 0) _ hx stp_under7 rfl stp_info7 ?_; clear hx R3')
      refine (unhide D).mono ?_
      rintro e w4 ⟨rfl, bf', bc', h4, l4⟩
      have H4 := hide h4
      have G4 := hide ((unhide G3).step l4)
      have RR := l4.row (unhide R3) ⟨(unhide NG).l, (unhide NG).f, (unhide NG).c⟩
      have R4 := hide RR.1
      have N4 := hide (show Lif.Apart bl bf' bc' v1 v2 g7 from ⟨RR.2.1, RR.2.2.1, RR.2.2.2, (unhide NG).a, (unhide NG).b⟩)
      have PUT := hide (show S.code x = 0 → x.kind = 5 → 0 < st from fun h0 h5 => by
        rw [(S.step_file (x := x) ⟨by omega, by omega, by omega⟩).2] at h0
        obtain ⟨_, _, _, e, h1, _⟩ := Img.there_put (unhide HK).hold.good h0 h5
        rw [unhide HSTA, e]; omega)
      have MADE := hide (show S.code x = 0 → x.kind = 1 → ∃ d k : Nat, x.dir = (d : Int) ∧ d < 3 ∧ k < 4 ∧ (S.step x).now.findAt x.dir x.name.toList = (k : Int) ∧ (S.step x).now.est d k = S.last + 1 from fun h0 h1 => by
        rw [(S.step_file (x := x) ⟨by omega, by omega, by omega⟩).2] at h0
        rw [(S.step_file (x := x) ⟨by omega, by omega, by omega⟩).1]
        obtain ⟨k, d0, d3, hk, e1, e2⟩ := Img.there_made (unhide HK).hold.good h0 h1
        exact ⟨x.dir.toNat, k, by omega, by omega, hk, e1, e2⟩)
      rw [← unhide HSTA] at O1
      clear RR h4 l4 D H3 G3 R3 NG HK HXO HSTA HBT
      generalize S.code x = cd at O1 PUT MADE ⊢
      generalize S.step x = T at H4 K1 O1 MADE
      generalize S.last = la at O1 MADE
      go_upto_region 17 with fail
      obtain ⟨bp, hbp⟩ : ∃ b : Bool, b = decide (cd = 0 ∧ x.kind = 5) := ⟨_, rfl⟩
      have HBP := hide hbp
      clear hbp
      have e0 : w4.cell? ⟨g7, 0, none⟩ = some (.int .i64 x.kind) := by rw [cell_of_row _ _ _ _ _ _ (unhide R4)]; rfl
      go_cut [84] from 74 to 84 (fun q wx => q = .bool bp ∧ wx = w4)
      case first =>
        by_cases h0 : cd = 0
        case neg =>
          have q0 : (cd == 0) = false := by simpa using h0
          have EB := hide (show bp = false by rw [unhide HBP]; exact decide_eq_false (fun z => h0 z.1))
          clear h0
          go_wp2_with fail
          go_meet
          exact ⟨by rw [unhide EB], rfl⟩
        have q0 : (cd == 0) = true := by simpa using h0
        by_cases h5 : x.kind = 5
        case neg =>
          have q5 : (x.kind == 5) = false := by simpa using h5
          have EB := hide (show bp = false by rw [unhide HBP]; exact decide_eq_false (fun z => h5 z.2))
          clear h0 h5
          go_wp2_with fail
          go_meet
          exact ⟨by rw [unhide EB], rfl⟩
        have q5 : (x.kind == 5) = true := by simpa using h5
        have q9 : decide (0 < st) = true := by simpa using unhide PUT h0 h5
        have EB := hide (show bp = true by rw [unhide HBP]; exact decide_eq_true ⟨h0, h5⟩)
        clear h0 h5
        go_wp2_with fail
        go_meet
        exact ⟨by rw [unhide EB], rfl⟩
      case rest =>
      obtain ⟨rfl, hwc⟩ := hcut
      rw [hwc]
      clear hwc wc e0
      obtain ⟨a1, ha1⟩ : ∃ a : List Int, a = if cd = 0 ∧ x.kind = 5 then l.map (·.1) ++ [st] else l.map (·.1) := ⟨_, rfl⟩
      obtain ⟨b1, hb1⟩ : ∃ b : List ByteArray, b = if cd = 0 ∧ x.kind = 5 then l.map (·.2) ++ [x.text] else l.map (·.2) := ⟨_, rfl⟩
      have HA1 := hide ha1
      have HB1 := hide hb1
      clear ha1 hb1
      go_upto_if 84 with fail
      go_cut [4, 5] from 85 to 93 (fun p q wx => Hid (Lo w bl bf' bc' T wx) ∧ Hid (Lif.Lg w bl bf' bc' p q a1 b1 wx) ∧ Hid (wx.heap[g7]? = some (.cells (stpA x) 31)) ∧ Hid (Lif.Apart bl bf' bc' p q g7))
      case first =>
        cases bp
        case false =>
          have EN := hide (show ¬ (cd = 0 ∧ x.kind = 5) from fun z => by have := unhide HBP; rw [decide_eq_true z] at this; cases this)
          go_wp2_with fail
          go_meet
          exact ⟨H4, by rw [unhide HA1, unhide HB1, if_neg (unhide EN), if_neg (unhide EN)]; exact G4, R4, N4⟩
        have EY := hide (show cd = 0 ∧ x.kind = 5 from of_decide_eq_true (unhide HBP).symm)
        go_upto_region 18 with fail
        have H5 := hide ((unhide H4).call (Below.refl _ w4).drew)
        have G5 := hide ((unhide G4).below (Below.refl _ w4).drew)
        have hs0 : w4.drew.heap[g7]? = some (.cells (stpA x) 31) := unhide R4
        obtain ⟨i0, hi0, hz0, hz1, hz2⟩ := Lif.int_info
        obtain ⟨i1, hj0, hj1, hj2, hj3⟩ := Idl.str_info
        refine wp_region_held_drew (S := fun (V : World) => V.heap[g7]? = some (.cells (stpA x) 31)) (by kernel_rfl) (hs0) (fun hS => ?_)
        generalize w4.drew = V0 at H5 G5 hs0 hS ⊢
        refine wpAnyH_take (i := 0) (oi := { dst := some 85, op := Op.move (Operand.tmp 4), type := 65, pos := "law07.go:127", after := #[], guard := none }) (v := v1) rfl (by kernel_rfl) (by kernel_rfl) (by kernel_rfl) (fun _ _ _ h => h) (Or.inl ⟨by kernel_rfl, fun W h => (by first | kernel_rfl | go_simp)⟩) hs0 ?_
        try (simp only [Act.put, List.setIfInBounds_toArray]; dsimp only [Lif.set16, List.set_cons_zero, List.set_cons_succ])
        refine wpAnyH_take (i := 1) (oi := { dst := some 86, op := Op.move (Operand.tmp 9), type := 3, pos := "law07.go:127", after := #[], guard := none }) (v := .int .i64 st) rfl (by kernel_rfl) (by kernel_rfl) (by kernel_rfl) (fun _ _ _ h => h) (Or.inl ⟨by kernel_rfl, fun W h => (by first | kernel_rfl | go_simp)⟩) hs0 ?_
        try (simp only [Act.put, List.setIfInBounds_toArray]; dsimp only [Lif.set16, List.set_cons_zero, List.set_cons_succ])
        refine wpAnyH_take (i := 4) (oi := { dst := some 89, op := Op.move (Operand.tmp 5), type := 61, pos := "law07.go:127", after := #[], guard := none }) (v := v2) rfl (by kernel_rfl) (by kernel_rfl) (by kernel_rfl) (fun _ _ _ h => h) (Or.inl ⟨by kernel_rfl, fun W h => (by first | kernel_rfl | go_simp)⟩) hs0 ?_
        try (simp only [Act.put, List.setIfInBounds_toArray]; dsimp only [Lif.set16, List.set_cons_zero, List.set_cons_succ])
        refine wpAnyH_take (i := 5) (oi := { dst := some 90, op := Op.fieldAddr 31 (Operand.tmp 7) 6, type := 0, pos := "law07.go:127", after := #[], guard := none }) (v := .pointer (some ⟨g7, 6, none⟩)) rfl (by kernel_rfl) (by kernel_rfl) (by kernel_rfl) (fun _ _ _ h => h) (Or.inl ⟨by kernel_rfl, fun W h => (by first | kernel_rfl | go_simp)⟩) hs0 ?_
        try (simp only [Act.put, List.setIfInBounds_toArray]; dsimp only [Lif.set16, List.set_cons_zero, List.set_cons_succ])
        refine wpAnyH_take (i := 6) (oi := { dst := some 91, op := Op.load 9 (Operand.tmp 90), type := 9, pos := "law07.go:127", after := #[{ on := 5, ground := Ground.data }], guard := none }) (v := .string x.text) rfl (by kernel_rfl) (by kernel_rfl) (by kernel_rfl) (fun _ _ _ h => h) (Or.inl ⟨by kernel_rfl, fun W h => Op1.ld_str (g := g7) (o0 := 6) (.tmp 90) (by kernel_rfl) (by kernel_rfl) W (by rw [cell_of_row _ _ _ _ _ _ h]; rfl)⟩) hs0 ?_
        try (simp only [Act.put, List.setIfInBounds_toArray]; dsimp only [Lif.set16, List.set_cons_zero, List.set_cons_succ])
        refine wpAnyH_ready (rs := [2, 7]) (by kernel_rfl) (by simp) ?_
        refine AllReadyH.cons (o := { dst := some 87, op := Op.buildSlice 65 1 #[(0, Operand.tmp 86)], type := 65, pos := "law07.go:127", after := #[{ on := 1, ground := Ground.data }], guard := none }) rfl (fun K hK => ?_) (AllReadyH.cons (o := { dst := some 92, op := Op.buildSlice 61 1 #[(0, Operand.tmp 91)], type := 61, pos := "law07.go:127", after := #[{ on := 6, ground := Ground.data }], guard := none }) rfl (fun K hK => ?_) AllReadyH.nil)
        · rw [if_pos (by kernel_rfl)]
          have B1 := hide (show Below V0.heap.size V0 (V0.alloc (.cells #[.int .i64 st] 3)) from (Below.refl _ _).alloc (Nat.le_refl _) _)
          have H1 := hide ((unhide H5).call (unhide B1))
          have G1 := hide ((unhide G5).below (unhide B1))
          have hs1 : (V0.alloc (.cells #[.int .i64 st] 3)).heap[g7]? = some (.cells (stpA x) 31) := by rw [(unhide B1).block _ (Array.getElem?_eq_some_iff.1 hs0).1]; exact hs0
          have A1 := hide (And.intro (heap_alloc_last V0 (.cells #[.int .i64 st] 3)) (show v1.ownBlock ≠ some V0.heap.size ∧ v2.ownBlock ≠ some V0.heap.size from ⟨fun e => by have := ((unhide G5).own1.lt _ e).2; omega, fun e => by have := ((unhide G5).own2.lt _ e).2; omega⟩))
          go_simp
          refine hK.out _ _ hs1 (fun _ => ?_)
          clear hK K
          try (simp only [Act.put, List.setIfInBounds_toArray]; dsimp only [Lif.set16, List.set_cons_zero, List.set_cons_succ])
          clear B1
          generalize (V0.alloc (.cells #[.int .i64 st] 3)) = V1 at H1 G1 hs1 A1 ⊢
          generalize V0.heap.size = g1a at A1 ⊢
          refine wpAnyH_ready (rs := [3, 7]) (by kernel_rfl) (by simp) ?_
          refine AllReadyH.cons (o := { dst := some 88, op := Op.call { callee := Callee.builtin Builtin.append, args := #[Operand.tmp 85, Operand.tmp 87], argTypes := #[65, 65] }, type := 65, pos := "law07.go:127", after := #[{ on := 0, ground := Ground.data }, { on := 2, ground := Ground.data }], guard := none }) rfl (fun K hK => ?_) (AllReadyH.cons (o := { dst := some 92, op := Op.buildSlice 61 1 #[(0, Operand.tmp 91)], type := 61, pos := "law07.go:127", after := #[{ on := 6, ground := Ground.data }], guard := none }) rfl (fun K hK => ?_) AllReadyH.nil)
          · rw [if_pos (by kernel_rfl)]
            refine Idl.wp_append_part (.tmp 85) (.tmp 87) (by kernel_rfl) Tryz.underlying65 hi0 hz0 hz1 hz2 rfl (by omega) (by kernel_rfl) (unhide G1).own1 (by kernel_rfl) (Lif.part_one (unhide A1).1) (Lif.one_int st) (by have := unhide LL; unfold maxLen; omega) (by have := unhide LL; omega) (unhide H1).bel.size ?_
            intro v2q V2 ho2 hg2 ha2
            have P2 := Lif.Lg.app1 (unhide H1) (unhide G1) ho2 hg2 ha2
            have H2 := hide P2.2
            have G2 := hide P2.1
            have rs2 := Lif.grown_row hg2 ha2 hs1 ((unhide N4).a)
            have hs2 := rs2.1
            have NN2 := hide rs2.2
            clear P2 ho2 hg2 ha2 rs2
            refine hK.out _ _ hs2 (fun _ => ?_)
            clear hK K
            try (simp only [Act.put, List.setIfInBounds_toArray]; dsimp only [Lif.set16, List.set_cons_zero, List.set_cons_succ])
            refine wpAnyH_ready (rs := [7]) (by kernel_rfl) (by simp) ?_
            refine AllReadyH.cons (o := { dst := some 92, op := Op.buildSlice 61 1 #[(0, Operand.tmp 91)], type := 61, pos := "law07.go:127", after := #[{ on := 6, ground := Ground.data }], guard := none }) rfl (fun K hK => ?_) AllReadyH.nil
            · rw [if_pos (by kernel_rfl)]
              have B3 := hide (show Below V2.heap.size V2 (V2.alloc (.cells #[.string x.text] 9)) from (Below.refl _ _).alloc (Nat.le_refl _) _)
              have H3 := hide ((unhide H2).call (unhide B3))
              have G3 := hide ((unhide G2).below (unhide B3))
              have hs3 : (V2.alloc (.cells #[.string x.text] 9)).heap[g7]? = some (.cells (stpA x) 31) := by rw [(unhide B3).block _ (Array.getElem?_eq_some_iff.1 hs2).1]; exact hs2
              have A3 := hide (And.intro (heap_alloc_last V2 (.cells #[.string x.text] 9)) (show v2q.ownBlock ≠ some V2.heap.size ∧ v2.ownBlock ≠ some V2.heap.size from ⟨fun e => by have := ((unhide G2).own1.lt _ e).2; omega, fun e => by have := ((unhide G2).own2.lt _ e).2; omega⟩))
              go_simp
              refine hK.out _ _ hs3 (fun _ => ?_)
              clear hK K
              try (simp only [Act.put, List.setIfInBounds_toArray]; dsimp only [Lif.set16, List.set_cons_zero, List.set_cons_succ])
              clear B3
              generalize (V2.alloc (.cells #[.string x.text] 9)) = V3 at H3 G3 hs3 A3 ⊢
              generalize V2.heap.size = g3a at A3 ⊢
              refine wpAnyH_ready (rs := [8]) (by kernel_rfl) (by simp) ?_
              refine AllReadyH.cons (o := { dst := some 93, op := Op.call { callee := Callee.builtin Builtin.append, args := #[Operand.tmp 89, Operand.tmp 92], argTypes := #[61, 61] }, type := 61, pos := "law07.go:127", after := #[{ on := 4, ground := Ground.data }, { on := 7, ground := Ground.data }, { on := 3, ground := Ground.chain }], guard := none }) rfl (fun K hK => ?_) AllReadyH.nil
              · rw [if_pos (by kernel_rfl)]
                refine Idl.wp_append_part (.tmp 89) (.tmp 92) (by kernel_rfl) Tryz.underlying61 hj0 hj1 hj2 hj3 rfl (by omega) (by kernel_rfl) (unhide G3).own2 (by kernel_rfl) (Lif.part_one (unhide A3).1) (Idl.one_str x.text) (by have := unhide LL; unfold maxLen; omega) (by have := unhide LL; omega) (unhide H3).bel.size ?_
                intro v4q V4 ho4 hg4 ha4
                have P4 := Lif.Lg.app2 (unhide H3) (unhide G3) ho4 hg4 ha4
                have H4 := hide P4.2
                have G4 := hide P4.1
                have rs4 := Lif.grown_row hg4 ha4 hs3 ((unhide N4).b)
                have hs4 := rs4.1
                have NN4 := hide rs4.2
                clear P4 ho4 hg4 ha4 rs4
                refine hK.out _ _ hs4 (fun _ => ?_)
                clear hK K
                try (simp only [Act.put, List.setIfInBounds_toArray]; dsimp only [Lif.set16, List.set_cons_zero, List.set_cons_succ])
                refine wpAnyH_take (i := 9) (oi := { dst := some 4, op := Op.assign (Operand.tmp 88), type := 65, pos := "law07.go:127", after := #[{ on := 3, ground := Ground.data }, { on := 8, ground := Ground.chain }, { on := 0, ground := Ground.phase }, { on := 1, ground := Ground.phase }, { on := 2, ground := Ground.phase }, { on := 3, ground := Ground.phase }, { on := 4, ground := Ground.textOnly Departure.lateStores }, { on := 5, ground := Ground.textOnly Departure.lateStores }, { on := 6, ground := Ground.textOnly Departure.lateStores }, { on := 7, ground := Ground.textOnly Departure.lateStores }, { on := 8, ground := Ground.textOnly Departure.lateStoresUnsure }], guard := none }) (v := v2q) rfl (by kernel_rfl) (by kernel_rfl) (by kernel_rfl) (fun _ _ _ h => h) (Or.inl ⟨by kernel_rfl, fun W h => (by first | kernel_rfl | go_simp)⟩) hs4 ?_
                try (simp only [Act.put, List.setIfInBounds_toArray]; dsimp only [Lif.set16, List.set_cons_zero, List.set_cons_succ])
                refine wpAnyH_take (i := 10) (oi := { dst := some 5, op := Op.assign (Operand.tmp 93), type := 61, pos := "law07.go:127", after := #[{ on := 8, ground := Ground.data }, { on := 9, ground := Ground.chain }, { on := 0, ground := Ground.phase }, { on := 1, ground := Ground.phase }, { on := 2, ground := Ground.phase }, { on := 3, ground := Ground.phase }, { on := 4, ground := Ground.phase }, { on := 5, ground := Ground.phase }, { on := 6, ground := Ground.phase }, { on := 7, ground := Ground.phase }, { on := 8, ground := Ground.phase }, { on := 9, ground := Ground.phase }], guard := none }) (v := v4q) rfl (by kernel_rfl) (by kernel_rfl) (by kernel_rfl) (fun _ _ _ h => h) (Or.inl ⟨by kernel_rfl, fun W h => (by first | kernel_rfl | go_simp)⟩) hs4 ?_
                try (simp only [Act.put, List.setIfInBounds_toArray]; dsimp only [Lif.set16, List.set_cons_zero, List.set_cons_succ])
                refine wpAnyH_done (by kernel_rfl) ?_ _
                go_wp2_with fail
                go_meet
                exact ⟨H4, by rw [unhide HA1, unhide HB1, if_pos (unhide EY), if_pos (unhide EY)]; exact G4, hide hs4, hide ⟨(unhide N4).l, (unhide N4).f, (unhide N4).c, unhide NN2, unhide NN4⟩⟩
          · rw [if_pos (by kernel_rfl)]
            have B5 := hide (show Below V1.heap.size V1 (V1.alloc (.cells #[.string x.text] 9)) from (Below.refl _ _).alloc (Nat.le_refl _) _)
            have H5 := hide ((unhide H1).call (unhide B5))
            have G5 := hide ((unhide G1).below (unhide B5))
            have hs5 : (V1.alloc (.cells #[.string x.text] 9)).heap[g7]? = some (.cells (stpA x) 31) := by rw [(unhide B5).block _ (Array.getElem?_eq_some_iff.1 hs1).1]; exact hs1
            have A5 := hide (And.intro (heap_alloc_last V1 (.cells #[.string x.text] 9)) (show v1.ownBlock ≠ some V1.heap.size ∧ v2.ownBlock ≠ some V1.heap.size from ⟨fun e => by have := ((unhide G1).own1.lt _ e).2; omega, fun e => by have := ((unhide G1).own2.lt _ e).2; omega⟩))
            have O5 := hide (And.intro (show (V1.alloc (.cells #[.string x.text] 9)).heap[g1a]? = some (.cells #[.int .i64 st] 3) by rw [(unhide B5).block _ (Array.getElem?_eq_some_iff.1 (unhide A1).1).1]; exact (unhide A1).1) (unhide A1).2)
            go_simp
            refine hK.out _ _ hs5 (fun _ => ?_)
            clear hK K
            try (simp only [Act.put, List.setIfInBounds_toArray]; dsimp only [Lif.set16, List.set_cons_zero, List.set_cons_succ])
            clear B5
            generalize (V1.alloc (.cells #[.string x.text] 9)) = V5 at H5 G5 hs5 A5 O5 ⊢
            generalize V1.heap.size = g5a at A5 ⊢
            refine wpAnyH_ready (rs := [3]) (by kernel_rfl) (by simp) ?_
            refine AllReadyH.cons (o := { dst := some 88, op := Op.call { callee := Callee.builtin Builtin.append, args := #[Operand.tmp 85, Operand.tmp 87], argTypes := #[65, 65] }, type := 65, pos := "law07.go:127", after := #[{ on := 0, ground := Ground.data }, { on := 2, ground := Ground.data }], guard := none }) rfl (fun K hK => ?_) AllReadyH.nil
            · rw [if_pos (by kernel_rfl)]
              refine Idl.wp_append_part (.tmp 85) (.tmp 87) (by kernel_rfl) Tryz.underlying65 hi0 hz0 hz1 hz2 rfl (by omega) (by kernel_rfl) (unhide G5).own1 (by kernel_rfl) (Lif.part_one (unhide O5).1) (Lif.one_int st) (by have := unhide LL; unfold maxLen; omega) (by have := unhide LL; omega) (unhide H5).bel.size ?_
              intro v6q V6 ho6 hg6 ha6
              have P6 := Lif.Lg.app1 (unhide H5) (unhide G5) ho6 hg6 ha6
              have H6 := hide P6.2
              have G6 := hide P6.1
              have rs6 := Lif.grown_row hg6 ha6 hs5 ((unhide N4).a)
              have hs6 := rs6.1
              have NN6 := hide rs6.2
              have rb6 := Lif.grown_row hg6 ha6 (unhide A5).1 (unhide A5).2.1
              have O6 := hide (And.intro rb6.1 (And.intro rb6.2 (unhide A5).2.2))
              clear P6 ho6 hg6 ha6 rs6 rb6
              refine hK.out _ _ hs6 (fun _ => ?_)
              clear hK K
              try (simp only [Act.put, List.setIfInBounds_toArray]; dsimp only [Lif.set16, List.set_cons_zero, List.set_cons_succ])
              refine wpAnyH_ready (rs := [8]) (by kernel_rfl) (by simp) ?_
              refine AllReadyH.cons (o := { dst := some 93, op := Op.call { callee := Callee.builtin Builtin.append, args := #[Operand.tmp 89, Operand.tmp 92], argTypes := #[61, 61] }, type := 61, pos := "law07.go:127", after := #[{ on := 4, ground := Ground.data }, { on := 7, ground := Ground.data }, { on := 3, ground := Ground.chain }], guard := none }) rfl (fun K hK => ?_) AllReadyH.nil
              · rw [if_pos (by kernel_rfl)]
                refine Idl.wp_append_part (.tmp 89) (.tmp 92) (by kernel_rfl) Tryz.underlying61 hj0 hj1 hj2 hj3 rfl (by omega) (by kernel_rfl) (unhide G6).own2 (by kernel_rfl) (Lif.part_one (unhide O6).1) (Idl.one_str x.text) (by have := unhide LL; unfold maxLen; omega) (by have := unhide LL; omega) (unhide H6).bel.size ?_
                intro v7q V7 ho7 hg7 ha7
                have P7 := Lif.Lg.app2 (unhide H6) (unhide G6) ho7 hg7 ha7
                have H7 := hide P7.2
                have G7 := hide P7.1
                have rs7 := Lif.grown_row hg7 ha7 hs6 ((unhide N4).b)
                have hs7 := rs7.1
                have NN7 := hide rs7.2
                clear P7 ho7 hg7 ha7 rs7
                refine hK.out _ _ hs7 (fun _ => ?_)
                clear hK K
                try (simp only [Act.put, List.setIfInBounds_toArray]; dsimp only [Lif.set16, List.set_cons_zero, List.set_cons_succ])
                refine wpAnyH_take (i := 9) (oi := { dst := some 4, op := Op.assign (Operand.tmp 88), type := 65, pos := "law07.go:127", after := #[{ on := 3, ground := Ground.data }, { on := 8, ground := Ground.chain }, { on := 0, ground := Ground.phase }, { on := 1, ground := Ground.phase }, { on := 2, ground := Ground.phase }, { on := 3, ground := Ground.phase }, { on := 4, ground := Ground.textOnly Departure.lateStores }, { on := 5, ground := Ground.textOnly Departure.lateStores }, { on := 6, ground := Ground.textOnly Departure.lateStores }, { on := 7, ground := Ground.textOnly Departure.lateStores }, { on := 8, ground := Ground.textOnly Departure.lateStoresUnsure }], guard := none }) (v := v6q) rfl (by kernel_rfl) (by kernel_rfl) (by kernel_rfl) (fun _ _ _ h => h) (Or.inl ⟨by kernel_rfl, fun W h => (by first | kernel_rfl | go_simp)⟩) hs7 ?_
                try (simp only [Act.put, List.setIfInBounds_toArray]; dsimp only [Lif.set16, List.set_cons_zero, List.set_cons_succ])
                refine wpAnyH_take (i := 10) (oi := { dst := some 5, op := Op.assign (Operand.tmp 93), type := 61, pos := "law07.go:127", after := #[{ on := 8, ground := Ground.data }, { on := 9, ground := Ground.chain }, { on := 0, ground := Ground.phase }, { on := 1, ground := Ground.phase }, { on := 2, ground := Ground.phase }, { on := 3, ground := Ground.phase }, { on := 4, ground := Ground.phase }, { on := 5, ground := Ground.phase }, { on := 6, ground := Ground.phase }, { on := 7, ground := Ground.phase }, { on := 8, ground := Ground.phase }, { on := 9, ground := Ground.phase }], guard := none }) (v := v7q) rfl (by kernel_rfl) (by kernel_rfl) (by kernel_rfl) (fun _ _ _ h => h) (Or.inl ⟨by kernel_rfl, fun W h => (by first | kernel_rfl | go_simp)⟩) hs7 ?_
                try (simp only [Act.put, List.setIfInBounds_toArray]; dsimp only [Lif.set16, List.set_cons_zero, List.set_cons_succ])
                refine wpAnyH_done (by kernel_rfl) ?_ _
                go_wp2_with fail
                go_meet
                exact ⟨H7, by rw [unhide HA1, unhide HB1, if_pos (unhide EY), if_pos (unhide EY)]; exact G7, hide hs7, hide ⟨(unhide N4).l, (unhide N4).f, (unhide N4).c, unhide NN6, unhide NN7⟩⟩
        · rw [if_pos (by kernel_rfl)]
          have B8 := hide (show Below V0.heap.size V0 (V0.alloc (.cells #[.string x.text] 9)) from (Below.refl _ _).alloc (Nat.le_refl _) _)
          have H8 := hide ((unhide H5).call (unhide B8))
          have G8 := hide ((unhide G5).below (unhide B8))
          have hs8 : (V0.alloc (.cells #[.string x.text] 9)).heap[g7]? = some (.cells (stpA x) 31) := by rw [(unhide B8).block _ (Array.getElem?_eq_some_iff.1 hs0).1]; exact hs0
          have A8 := hide (And.intro (heap_alloc_last V0 (.cells #[.string x.text] 9)) (show v1.ownBlock ≠ some V0.heap.size ∧ v2.ownBlock ≠ some V0.heap.size from ⟨fun e => by have := ((unhide G5).own1.lt _ e).2; omega, fun e => by have := ((unhide G5).own2.lt _ e).2; omega⟩))
          go_simp
          refine hK.out _ _ hs8 (fun _ => ?_)
          clear hK K
          try (simp only [Act.put, List.setIfInBounds_toArray]; dsimp only [Lif.set16, List.set_cons_zero, List.set_cons_succ])
          clear B8
          generalize (V0.alloc (.cells #[.string x.text] 9)) = V8 at H8 G8 hs8 A8 ⊢
          generalize V0.heap.size = g8a at A8 ⊢
          refine wpAnyH_ready (rs := [2]) (by kernel_rfl) (by simp) ?_
          refine AllReadyH.cons (o := { dst := some 87, op := Op.buildSlice 65 1 #[(0, Operand.tmp 86)], type := 65, pos := "law07.go:127", after := #[{ on := 1, ground := Ground.data }], guard := none }) rfl (fun K hK => ?_) AllReadyH.nil
          · rw [if_pos (by kernel_rfl)]
            have B9 := hide (show Below V8.heap.size V8 (V8.alloc (.cells #[.int .i64 st] 3)) from (Below.refl _ _).alloc (Nat.le_refl _) _)
            have H9 := hide ((unhide H8).call (unhide B9))
            have G9 := hide ((unhide G8).below (unhide B9))
            have hs9 : (V8.alloc (.cells #[.int .i64 st] 3)).heap[g7]? = some (.cells (stpA x) 31) := by rw [(unhide B9).block _ (Array.getElem?_eq_some_iff.1 hs8).1]; exact hs8
            have A9 := hide (And.intro (heap_alloc_last V8 (.cells #[.int .i64 st] 3)) (show v1.ownBlock ≠ some V8.heap.size ∧ v2.ownBlock ≠ some V8.heap.size from ⟨fun e => by have := ((unhide G8).own1.lt _ e).2; omega, fun e => by have := ((unhide G8).own2.lt _ e).2; omega⟩))
            have O9 := hide (And.intro (show (V8.alloc (.cells #[.int .i64 st] 3)).heap[g8a]? = some (.cells #[.string x.text] 9) by rw [(unhide B9).block _ (Array.getElem?_eq_some_iff.1 (unhide A8).1).1]; exact (unhide A8).1) (unhide A8).2)
            go_simp
            refine hK.out _ _ hs9 (fun _ => ?_)
            clear hK K
            try (simp only [Act.put, List.setIfInBounds_toArray]; dsimp only [Lif.set16, List.set_cons_zero, List.set_cons_succ])
            clear B9
            generalize (V8.alloc (.cells #[.int .i64 st] 3)) = V9 at H9 G9 hs9 A9 O9 ⊢
            generalize V8.heap.size = g9a at A9 ⊢
            refine wpAnyH_ready (rs := [3]) (by kernel_rfl) (by simp) ?_
            refine AllReadyH.cons (o := { dst := some 88, op := Op.call { callee := Callee.builtin Builtin.append, args := #[Operand.tmp 85, Operand.tmp 87], argTypes := #[65, 65] }, type := 65, pos := "law07.go:127", after := #[{ on := 0, ground := Ground.data }, { on := 2, ground := Ground.data }], guard := none }) rfl (fun K hK => ?_) AllReadyH.nil
            · rw [if_pos (by kernel_rfl)]
              refine Idl.wp_append_part (.tmp 85) (.tmp 87) (by kernel_rfl) Tryz.underlying65 hi0 hz0 hz1 hz2 rfl (by omega) (by kernel_rfl) (unhide G9).own1 (by kernel_rfl) (Lif.part_one (unhide A9).1) (Lif.one_int st) (by have := unhide LL; unfold maxLen; omega) (by have := unhide LL; omega) (unhide H9).bel.size ?_
              intro v10q V10 ho10 hg10 ha10
              have P10 := Lif.Lg.app1 (unhide H9) (unhide G9) ho10 hg10 ha10
              have H10 := hide P10.2
              have G10 := hide P10.1
              have rs10 := Lif.grown_row hg10 ha10 hs9 ((unhide N4).a)
              have hs10 := rs10.1
              have NN10 := hide rs10.2
              have rb10 := Lif.grown_row hg10 ha10 (unhide O9).1 (unhide O9).2.1
              have O10 := hide (And.intro rb10.1 (And.intro rb10.2 (unhide O9).2.2))
              clear P10 ho10 hg10 ha10 rs10 rb10
              refine hK.out _ _ hs10 (fun _ => ?_)
              clear hK K
              try (simp only [Act.put, List.setIfInBounds_toArray]; dsimp only [Lif.set16, List.set_cons_zero, List.set_cons_succ])
              refine wpAnyH_ready (rs := [8]) (by kernel_rfl) (by simp) ?_
              refine AllReadyH.cons (o := { dst := some 93, op := Op.call { callee := Callee.builtin Builtin.append, args := #[Operand.tmp 89, Operand.tmp 92], argTypes := #[61, 61] }, type := 61, pos := "law07.go:127", after := #[{ on := 4, ground := Ground.data }, { on := 7, ground := Ground.data }, { on := 3, ground := Ground.chain }], guard := none }) rfl (fun K hK => ?_) AllReadyH.nil
              · rw [if_pos (by kernel_rfl)]
                refine Idl.wp_append_part (.tmp 89) (.tmp 92) (by kernel_rfl) Tryz.underlying61 hj0 hj1 hj2 hj3 rfl (by omega) (by kernel_rfl) (unhide G10).own2 (by kernel_rfl) (Lif.part_one (unhide O10).1) (Idl.one_str x.text) (by have := unhide LL; unfold maxLen; omega) (by have := unhide LL; omega) (unhide H10).bel.size ?_
                intro v11q V11 ho11 hg11 ha11
                have P11 := Lif.Lg.app2 (unhide H10) (unhide G10) ho11 hg11 ha11
                have H11 := hide P11.2
                have G11 := hide P11.1
                have rs11 := Lif.grown_row hg11 ha11 hs10 ((unhide N4).b)
                have hs11 := rs11.1
                have NN11 := hide rs11.2
                clear P11 ho11 hg11 ha11 rs11
                refine hK.out _ _ hs11 (fun _ => ?_)
                clear hK K
                try (simp only [Act.put, List.setIfInBounds_toArray]; dsimp only [Lif.set16, List.set_cons_zero, List.set_cons_succ])
                refine wpAnyH_take (i := 9) (oi := { dst := some 4, op := Op.assign (Operand.tmp 88), type := 65, pos := "law07.go:127", after := #[{ on := 3, ground := Ground.data }, { on := 8, ground := Ground.chain }, { on := 0, ground := Ground.phase }, { on := 1, ground := Ground.phase }, { on := 2, ground := Ground.phase }, { on := 3, ground := Ground.phase }, { on := 4, ground := Ground.textOnly Departure.lateStores }, { on := 5, ground := Ground.textOnly Departure.lateStores }, { on := 6, ground := Ground.textOnly Departure.lateStores }, { on := 7, ground := Ground.textOnly Departure.lateStores }, { on := 8, ground := Ground.textOnly Departure.lateStoresUnsure }], guard := none }) (v := v10q) rfl (by kernel_rfl) (by kernel_rfl) (by kernel_rfl) (fun _ _ _ h => h) (Or.inl ⟨by kernel_rfl, fun W h => (by first | kernel_rfl | go_simp)⟩) hs11 ?_
                try (simp only [Act.put, List.setIfInBounds_toArray]; dsimp only [Lif.set16, List.set_cons_zero, List.set_cons_succ])
                refine wpAnyH_take (i := 10) (oi := { dst := some 5, op := Op.assign (Operand.tmp 93), type := 61, pos := "law07.go:127", after := #[{ on := 8, ground := Ground.data }, { on := 9, ground := Ground.chain }, { on := 0, ground := Ground.phase }, { on := 1, ground := Ground.phase }, { on := 2, ground := Ground.phase }, { on := 3, ground := Ground.phase }, { on := 4, ground := Ground.phase }, { on := 5, ground := Ground.phase }, { on := 6, ground := Ground.phase }, { on := 7, ground := Ground.phase }, { on := 8, ground := Ground.phase }, { on := 9, ground := Ground.phase }], guard := none }) (v := v11q) rfl (by kernel_rfl) (by kernel_rfl) (by kernel_rfl) (fun _ _ _ h => h) (Or.inl ⟨by kernel_rfl, fun W h => (by first | kernel_rfl | go_simp)⟩) hs11 ?_
                try (simp only [Act.put, List.setIfInBounds_toArray]; dsimp only [Lif.set16, List.set_cons_zero, List.set_cons_succ])
                refine wpAnyH_done (by kernel_rfl) ?_ _
                go_wp2_with fail
                go_meet
                exact ⟨H11, by rw [unhide HA1, unhide HB1, if_pos (unhide EY), if_pos (unhide EY)]; exact G11, hide hs11, hide ⟨(unhide N4).l, (unhide N4).f, (unhide N4).c, unhide NN10, unhide NN11⟩⟩
      case rest =>
      obtain ⟨H5, G5, R5, N5⟩ := hcut
      clear H4 G4 R4 N4 HBP PUT
      generalize u4 = p1 at G5 N5 ⊢
      generalize u5 = p2 at G5 N5 ⊢
      have LA1 := hide (show a1.length ≤ 201 by rw [unhide HA1]; have := unhide LL; split <;> first | (simp only [List.length_append, List.length_singleton]; omega) | omega)
      obtain ⟨ad1, cp1, rfl, _⟩ := Idl.own_form (unhide G5).own1
      obtain ⟨ad2, cp2, rfl, _⟩ := Idl.own_form (unhide G5).own2
      obtain ⟨l2, hl2⟩ : ∃ m : List (Int × ByteArray), m = Img.logged l cd st la x := ⟨_, rfl⟩
      rw [← hl2] at O1
      have HL2 := hide hl2
      clear hl2
      have e0 : wc.cell? ⟨g7, 0, none⟩ = some (.int .i64 x.kind) := by rw [cell_of_row _ _ _ _ _ _ (unhide R5)]; rfl
      generalize wc = w5 at H5 G5 R5 e0 ⊢
      go_upto_region 19 with fail
      obtain ⟨bm, hbm⟩ : ∃ b : Bool, b = decide (cd = 0 ∧ x.kind = 1) := ⟨_, rfl⟩
      have HBM := hide hbm
      clear hbm
      go_cut [100] from 94 to 100 (fun q wx => q = .bool bm ∧ wx = w5)
      case first =>
        by_cases h1 : x.kind = 1
        case neg =>
          have q1 : (x.kind == 1) = false := by simpa using h1
          have EB := hide (show bm = false by rw [unhide HBM]; exact decide_eq_false (fun z => h1 z.2))
          clear h1
          go_wp2_with fail
          go_meet
          exact ⟨by rw [unhide EB], rfl⟩
        have q1 : (x.kind == 1) = true := by simpa using h1
        by_cases h0 : cd = 0
        case neg =>
          have q0 : (cd == 0) = false := by simpa using h0
          have EB := hide (show bm = false by rw [unhide HBM]; exact decide_eq_false (fun z => h0 z.1))
          clear h0 h1
          go_wp2_with fail
          go_meet
          exact ⟨by rw [unhide EB], rfl⟩
        have q0 : (cd == 0) = true := by simpa using h0
        have EB := hide (show bm = true by rw [unhide HBM]; exact decide_eq_true ⟨h0, h1⟩)
        clear h0 h1
        go_wp2_with fail
        go_meet
        exact ⟨by rw [unhide EB], rfl⟩
      case rest =>
      obtain ⟨rfl, hwc⟩ := hcut
      rw [hwc]
      clear hwc wc e0
      go_upto_if 100 with fail
      go_cut [4, 5] from 101 to 151 (fun p q wx => p = .slice ad1 a1.length cp1 ∧ q = .slice ad2 b1.length cp2 ∧ Hid (Lo w bl bf' bc' T wx) ∧ Hid (Lif.Lg w bl bf' bc' (.slice ad1 a1.length cp1) (.slice ad2 b1.length cp2) (l2.map (·.1)) (l2.map (·.2)) wx))
      case first =>
        cases bm
        case false =>
          have EN := hide (show ¬ (cd = 0 ∧ x.kind = 1) from fun z => by have := unhide HBM; rw [decide_eq_true z] at this; cases this)
          have EL := hide (show a1 = l2.map (·.1) ∧ b1 = l2.map (·.2) by
            rw [unhide HA1, unhide HB1, unhide HL2]
            unfold Img.logged
            by_cases h5 : cd = 0 ∧ x.kind = 5
            · rw [if_pos h5, if_pos h5, if_pos h5]; simp
            · rw [if_neg h5, if_neg h5, if_neg h5, if_neg (unhide EN)]; exact ⟨rfl, rfl⟩)
          go_wp2_with fail
          go_meet
          exact ⟨rfl, rfl, H5, by rw [← (unhide EL).1, ← (unhide EL).2]; exact G5⟩
        have EY : cd = 0 ∧ x.kind = 1 := of_decide_eq_true (unhide HBM).symm
        obtain ⟨d, k, hxd, hd3, hk4, hf, he⟩ := unhide MADE EY.1 EY.2
        have EA : a1 = l.map (·.1) := by rw [unhide HA1]; exact if_neg (fun z => by have := z.2; omega)
        have EB : b1 = l.map (·.2) := by rw [unhide HB1]; exact if_neg (fun z => by have := z.2; omega)
        have EL := hide (show l2 = Img.forget l (la + 1) by rw [unhide HL2]; unfold Img.logged; rw [if_neg (fun z => by have := z.2; omega), if_pos EY])
        have ELA := hide EA
        have ELB := hide EB
        have XD := hide hxd
        have HE := hide he
        have HF2 := hide hf
        clear EY EA EB hxd he hf
        have H6 := hide ((unhide H5).call (Below.refl _ w5).drew)
        have G6 := hide ((unhide G5).below (Below.refl _ w5).drew)
        have R6 : Hid (w5.drew.heap[g7]? = some (.cells (stpA x) 31)) := R5
        obtain ⟨cs, ds, hyk, hi, hk1⟩ := Lif.Yk.of (unhide H6) (unhide R6)
        have FI := hide (At.find_any bc' T.now x.dir x.name _ (hyk.has hi))
        rw [unhide HF2] at FI
        go_upto_region 20 with fail
        refine wp_region_held_drew (S := Lif.Yk bl bf' bc' g7 cs ds x) (by kernel_rfl) (hyk) (fun hS => ?_)
        refine wpAnyH_take (i := 0) (oi := { dst := some 101, op := Op.move (Operand.tmp 3), type := 25, pos := "law07.go:131", after := #[], guard := none }) (v := .pointer (some ⟨bl, 0, none⟩)) rfl (by kernel_rfl) (by kernel_rfl) (by kernel_rfl) (fun _ _ _ h => h) (Or.inl ⟨by kernel_rfl, fun W h => (by first | kernel_rfl | go_simp)⟩) hyk ?_
        try (simp only [Act.put, List.setIfInBounds_toArray]; dsimp only [Lif.set16, List.set_cons_zero, List.set_cons_succ])
        refine wpAnyH_take (i := 1) (oi := { dst := some 102, op := Op.nilCheck (Operand.tmp 101), type := 0, pos := "law07.go:131", after := #[{ on := 0, ground := Ground.data }], guard := none }) (v := .pointer (some ⟨bl, 0, none⟩)) rfl (by kernel_rfl) (by kernel_rfl) (by kernel_rfl) (fun _ _ _ h => h) (Or.inl ⟨by kernel_rfl, fun W h => (by first | kernel_rfl | go_simp)⟩) hyk ?_
        try (simp only [Act.put, List.setIfInBounds_toArray]; dsimp only [Lif.set16, List.set_cons_zero, List.set_cons_succ])
        refine wpAnyH_take (i := 2) (oi := { dst := some 103, op := Op.fieldAddr 50 (Operand.tmp 102) 0, type := 0, pos := "law07.go:131", after := #[{ on := 1, ground := Ground.data }], guard := none }) (v := .pointer (some ⟨bl, 0, none⟩)) rfl (by kernel_rfl) (by kernel_rfl) (by kernel_rfl) (fun _ _ _ h => h) (Or.inl ⟨by kernel_rfl, fun W h => (by first | kernel_rfl | go_simp)⟩) hyk ?_
        try (simp only [Act.put, List.setIfInBounds_toArray]; dsimp only [Lif.set16, List.set_cons_zero, List.set_cons_succ])
        refine wpAnyH_take (i := 3) (oi := { dst := some 104, op := Op.load 46 (Operand.tmp 103), type := 46, pos := "law07.go:131", after := #[{ on := 2, ground := Ground.data }], guard := none }) (v := .pointer (some ⟨bf', 0, none⟩)) rfl (by kernel_rfl) (by kernel_rfl) (by kernel_rfl) (fun _ _ _ h => h) (Or.inl ⟨by kernel_rfl, fun W h => Op1.ld_files (.tmp 103) (by kernel_rfl) (by kernel_rfl) W h.p0⟩) hyk ?_
        try (simp only [Act.put, List.setIfInBounds_toArray]; dsimp only [Lif.set16, List.set_cons_zero, List.set_cons_succ])
        refine wpAnyH_take (i := 4) (oi := { dst := some 105, op := Op.nilCheck (Operand.tmp 104), type := 0, pos := "law07.go:131", after := #[{ on := 3, ground := Ground.data }], guard := none }) (v := .pointer (some ⟨bf', 0, none⟩)) rfl (by kernel_rfl) (by kernel_rfl) (by kernel_rfl) (fun _ _ _ h => h) (Or.inl ⟨by kernel_rfl, fun W h => (by first | kernel_rfl | go_simp)⟩) hyk ?_
        try (simp only [Act.put, List.setIfInBounds_toArray]; dsimp only [Lif.set16, List.set_cons_zero, List.set_cons_succ])
        refine wpAnyH_take (i := 5) (oi := { dst := some 106, op := Op.fieldAddr 53 (Operand.tmp 105) 0, type := 0, pos := "law07.go:131", after := #[{ on := 4, ground := Ground.data }], guard := none }) (v := .pointer (some ⟨bf', 0, none⟩)) rfl (by kernel_rfl) (by kernel_rfl) (by kernel_rfl) (fun _ _ _ h => h) (Or.inl ⟨by kernel_rfl, fun W h => (by first | kernel_rfl | go_simp)⟩) hyk ?_
        try (simp only [Act.put, List.setIfInBounds_toArray]; dsimp only [Lif.set16, List.set_cons_zero, List.set_cons_succ])
        refine wpAnyH_take (i := 6) (oi := { dst := some 107, op := Op.load 51 (Operand.tmp 106), type := 51, pos := "law07.go:131", after := #[{ on := 5, ground := Ground.data }], guard := none }) (v := .pointer (some ⟨bc', 0, none⟩)) rfl (by kernel_rfl) (by kernel_rfl) (by kernel_rfl) (fun _ _ _ h => h) (Or.inl ⟨by kernel_rfl, fun W h => Lif.ld_cache (.tmp 106) (by kernel_rfl) (by kernel_rfl) W h.p1⟩) hyk ?_
        try (simp only [Act.put, List.setIfInBounds_toArray]; dsimp only [Lif.set16, List.set_cons_zero, List.set_cons_succ])
        refine wpAnyH_take (i := 7) (oi := { dst := some 108, op := Op.nilCheck (Operand.tmp 107), type := 0, pos := "law07.go:131", after := #[{ on := 6, ground := Ground.data }], guard := none }) (v := .pointer (some ⟨bc', 0, none⟩)) rfl (by kernel_rfl) (by kernel_rfl) (by kernel_rfl) (fun _ _ _ h => h) (Or.inl ⟨by kernel_rfl, fun W h => (by first | kernel_rfl | go_simp)⟩) hyk ?_
        try (simp only [Act.put, List.setIfInBounds_toArray]; dsimp only [Lif.set16, List.set_cons_zero, List.set_cons_succ])
        refine wpAnyH_take (i := 8) (oi := { dst := some 109, op := Op.fieldAddr 57 (Operand.tmp 108) 0, type := 0, pos := "law07.go:131", after := #[{ on := 7, ground := Ground.data }], guard := none }) (v := .pointer (some ⟨bc', 0, none⟩)) rfl (by kernel_rfl) (by kernel_rfl) (by kernel_rfl) (fun _ _ _ h => h) (Or.inl ⟨by kernel_rfl, fun W h => (by first | kernel_rfl | go_simp)⟩) hyk ?_
        try (simp only [Act.put, List.setIfInBounds_toArray]; dsimp only [Lif.set16, List.set_cons_zero, List.set_cons_succ])
        refine wpAnyH_take (i := 9) (oi := { dst := some 110, op := Op.fieldAddr 31 (Operand.tmp 7) 1, type := 0, pos := "law07.go:131", after := #[], guard := none }) (v := .pointer (some ⟨g7, 1, none⟩)) rfl (by kernel_rfl) (by kernel_rfl) (by kernel_rfl) (fun _ _ _ h => h) (Or.inl ⟨by kernel_rfl, fun W h => (by first | kernel_rfl | go_simp)⟩) hyk ?_
        try (simp only [Act.put, List.setIfInBounds_toArray]; dsimp only [Lif.set16, List.set_cons_zero, List.set_cons_succ])
        refine wpAnyH_take (i := 10) (oi := { dst := some 111, op := Op.load 3 (Operand.tmp 110), type := 3, pos := "law07.go:131", after := #[{ on := 9, ground := Ground.data }], guard := none }) (v := .int .i64 x.dir) rfl (by kernel_rfl) (by kernel_rfl) (by kernel_rfl) (fun _ _ _ h => h) (Or.inl ⟨by kernel_rfl, fun W h => Lif.ld_int (.tmp 110) (by kernel_rfl) (by kernel_rfl) W h.dir⟩) hyk ?_
        try (simp only [Act.put, List.setIfInBounds_toArray]; dsimp only [Lif.set16, List.set_cons_zero, List.set_cons_succ])
        refine wpAnyH_take (i := 11) (oi := { dst := some 112, op := Op.fieldAddr 31 (Operand.tmp 7) 4, type := 0, pos := "law07.go:131", after := #[], guard := none }) (v := .pointer (some ⟨g7, 4, none⟩)) rfl (by kernel_rfl) (by kernel_rfl) (by kernel_rfl) (fun _ _ _ h => h) (Or.inl ⟨by kernel_rfl, fun W h => (by first | kernel_rfl | go_simp)⟩) hyk ?_
        try (simp only [Act.put, List.setIfInBounds_toArray]; dsimp only [Lif.set16, List.set_cons_zero, List.set_cons_succ])
        refine wpAnyH_take (i := 12) (oi := { dst := some 113, op := Op.load 9 (Operand.tmp 112), type := 9, pos := "law07.go:131", after := #[{ on := 11, ground := Ground.data }], guard := none }) (v := .string x.name) rfl (by kernel_rfl) (by kernel_rfl) (by kernel_rfl) (fun _ _ _ h => h) (Or.inl ⟨by kernel_rfl, fun W h => Op1.ld_str (.tmp 112) (by kernel_rfl) (by kernel_rfl) W h.name⟩) hyk ?_
        try (simp only [Act.put, List.setIfInBounds_toArray]; dsimp only [Lif.set16, List.set_cons_zero, List.set_cons_succ])
        refine wpAnyH_ready (rs := [13]) (by kernel_rfl) (by simp) ?_
        refine AllReadyH.cons (o := { dst := some 114, op := Op.call { callee := Callee.value (Operand.func 28), args := #[Operand.tmp 109, Operand.tmp 111, Operand.tmp 113], argTypes := #[64, 3, 9] }, type := 3, pos := "law07.go:131", after := #[{ on := 8, ground := Ground.data }, { on := 10, ground := Ground.data }, { on := 12, ground := Ground.data }], guard := none }) rfl (fun K hK => ?_) AllReadyH.nil
        rw [if_pos (by kernel_rfl)]
        go_simp
        refine (unhide FI).mono ?_
        rintro e W5 ⟨rfl, rfl⟩
        go_wp2_with fail
        refine hK.out _ _ (hyk) (fun hS5 => ?_)
        clear hK K
        try (simp only [Act.put, List.setIfInBounds_toArray]; dsimp only [Lif.set16, List.set_cons_zero, List.set_cons_succ])
        refine wpAnyH_take (i := 14) (oi := { dst := some 11, op := Op.assign (Operand.tmp 114), type := 3, pos := "law07.go:131", after := #[{ on := 13, ground := Ground.data }, { on := 13, ground := Ground.chain }, { on := 0, ground := Ground.phase }, { on := 1, ground := Ground.phase }, { on := 2, ground := Ground.phase }, { on := 3, ground := Ground.phase }, { on := 4, ground := Ground.phase }, { on := 5, ground := Ground.phase }, { on := 6, ground := Ground.phase }, { on := 7, ground := Ground.phase }, { on := 8, ground := Ground.phase }, { on := 9, ground := Ground.phase }, { on := 10, ground := Ground.phase }, { on := 11, ground := Ground.phase }, { on := 12, ground := Ground.phase }, { on := 13, ground := Ground.phase }], guard := none }) (v := .int .i64 (k : Int)) rfl (by kernel_rfl) (by kernel_rfl) (by kernel_rfl) (fun _ _ _ h => h) (Or.inl ⟨by kernel_rfl, fun W h => (by first | kernel_rfl | go_simp)⟩) hS5 ?_
        try (simp only [Act.put, List.setIfInBounds_toArray]; dsimp only [Lif.set16, List.set_cons_zero, List.set_cons_succ])
        refine wpAnyH_done (by kernel_rfl) ?_ _
        clear hS hS5 FI H5 G5 R5
        generalize w5.drew = X6 at H6 G6 R6 hyk ⊢
        have k0 : decide ((k : Int) < 0) = false := by simp
        have k4 : decide (4 ≤ (k : Int)) = false := by simp; omega
        go_wp2_with fail
        go_loopw [12] (fun i wr => ∃ q : Nat, q ≤ l.length ∧ i = .int .i64 q ∧ Hid (Lo w bl bf' bc' T wr) ∧ Hid (Lif.Lg w bl bf' bc' (.slice ad1 a1.length cp1) (.slice ad2 b1.length cp2) ((Img.forgetTo l (la + 1) q).map (·.1)) (l.map (·.2)) wr) ∧ Hid (wr.heap[g7]? = some (.cells (stpA x) 31))) (fun i _ => l.length - (intOf i).toNat)
        case atStart => exact ⟨0, Nat.zero_le _, rfl, H6, by rw [← unhide ELB]; show Hid (Lif.Lg w bl bf' bc' _ _ (l.map (·.1)) b1 X6); rw [← unhide ELA]; exact G6, R6⟩
        case round =>
          clear H6 G6 R6 hyk hi hk1
          obtain ⟨q, hq, rfl, H6, G6, R6⟩ := hrel
          have EAL := hide (show a1.length = l.length by rw [unhide ELA, List.length_map])
          by_cases hql : q < l.length
          case neg =>
            have eq : q = l.length := by omega
            subst eq
            have tq : ¬ (l.length : Int) < (a1.length : Int) := by rw [unhide EAL]; omega
            have G7 := hide (show Lif.Lg w bl bf' bc' (.slice ad1 a1.length cp1) (.slice ad2 b1.length cp2) (l2.map (·.1)) (l2.map (·.2)) wr by
              have := unhide G6
              rw [← Img.forgetTo_snd l (la + 1) l.length, Img.forgetTo_all, ← unhide EL] at this
              exact this)
            clear G6
            go_wp2_with fail
            go_meet
            exact ⟨rfl, rfl, H6, G7⟩
          have jq : (q : Int) < (a1.length : Int) := by rw [unhide EAL]; omega
          rcases Lif.nums_cell (unhide G6).own1 with ⟨_, ez⟩ | ⟨g, cc, ev, _, gl, kc⟩
          · have := congrArg List.length ez
            rw [List.length_map, Img.forgetTo_len, List.length_nil] at this
            omega
          have hqn : q < ((Img.forgetTo l (la + 1) q).map (·.1)).length := by rw [List.length_map, Img.forgetTo_len]; exact hql
          have kq := kc q hqn
          have ey : ((Img.forgetTo l (la + 1) q).map (·.1))[q] = l[q].1 := by
            have h1 := Img.forgetTo_next l (la + 1) q hql
            have h2 : ((Img.forgetTo l (la + 1) q).map (·.1))[q]? = some (l[q].1) := by rw [List.getElem?_map, h1]; rfl
            rw [List.getElem?_eq_getElem hqn] at h2
            exact Option.some.inj h2
          rw [ey] at kq
          injection ev with ev1 ev2 ev3
          subst ev1 ev3
          have HY := hide (show l[q].1 = l[q].1 from rfl)
          obtain ⟨y, hy⟩ : ∃ i : Int, i = l[q].1 := ⟨_, rfl⟩
          rw [← hy] at kq
          have EY2 := hide hy
          clear hy HY kc ey ev2 hqn
          have H7 := hide ((unhide H6).call (Below.refl _ wr).drew)
          have G7 := hide ((unhide G6).below (Below.refl _ wr).drew)
          have R7 : Hid (wr.drew.heap[g7]? = some (.cells (stpA x) 31)) := R6
          have kd : wr.drew.cell? ⟨g, q, none⟩ = some (.int .i64 y) := kq
          obtain ⟨cs, ds, hyk, hi, hk1⟩ := Lif.Yk.of (unhide H7) (unhide R7)
          have hsd := And.intro hyk kd
          have hqa : q < a1.length := by rw [unhide EAL]; exact hql
          obtain ⟨bq, hbq⟩ : ∃ b : Bool, b = (y == la + 1) := ⟨_, rfl⟩
          have HBQ := hide hbq
          go_upto_region 26 with fail
          go_cut [148] from 127 to 148 (fun q wx => q = .bool bq ∧ wx = wr.drew)
          case first =>
            refine wp_region_held_drew (S := fun (V : World) => Lif.Yk bl bf' bc' g7 cs ds x V ∧ V.cell? ⟨g, q, none⟩ = some (.int .i64 y)) (by kernel_rfl) (hsd) (fun hS => ?_)
            refine wpAnyH_take (i := 0) (oi := { dst := some 127, op := Op.move (Operand.tmp 4), type := 65, pos := "law07.go:136", after := #[], guard := none }) (v := .slice (some ⟨g, 0, none⟩) a1.length cp1) rfl (by kernel_rfl) (by kernel_rfl) (by kernel_rfl) (fun _ _ _ h => h) (Or.inl ⟨by kernel_rfl, fun W h => (by first | kernel_rfl | go_simp)⟩) hsd ?_
            try (simp only [Act.put, List.setIfInBounds_toArray]; dsimp only [Lif.set16, List.set_cons_zero, List.set_cons_succ])
            refine wpAnyH_take (i := 1) (oi := { dst := some 128, op := Op.move (Operand.tmp 12), type := 3, pos := "law07.go:136", after := #[], guard := none }) (v := .int .i64 (q : Int)) rfl (by kernel_rfl) (by kernel_rfl) (by kernel_rfl) (fun _ _ _ h => h) (Or.inl ⟨by kernel_rfl, fun W h => (by first | kernel_rfl | go_simp)⟩) hsd ?_
            try (simp only [Act.put, List.setIfInBounds_toArray]; dsimp only [Lif.set16, List.set_cons_zero, List.set_cons_succ])
            refine wpAnyH_take (i := 2) (oi := { dst := some 129, op := Op.indexAddr 65 (Operand.tmp 127) (Operand.tmp 128), type := 0, pos := "law07.go:136", after := #[{ on := 0, ground := Ground.data }, { on := 1, ground := Ground.data }], guard := none }) (v := .pointer (some ⟨g, q, none⟩)) rfl (by kernel_rfl) (by kernel_rfl) (by kernel_rfl) (fun _ _ _ h => h) (Or.inl ⟨by kernel_rfl, fun W h => Lif.ix_nums (c := cp1) (.tmp 127) (.tmp 128) (by kernel_rfl) (by kernel_rfl) (by kernel_rfl) hqa W⟩) hsd ?_
            try (simp only [Act.put, List.setIfInBounds_toArray]; dsimp only [Lif.set16, List.set_cons_zero, List.set_cons_succ])
            refine wpAnyH_take (i := 3) (oi := { dst := some 130, op := Op.load 3 (Operand.tmp 129), type := 3, pos := "law07.go:136", after := #[{ on := 2, ground := Ground.data }], guard := none }) (v := .int .i64 y) rfl (by kernel_rfl) (by kernel_rfl) (by kernel_rfl) (fun _ _ _ h => h) (Or.inl ⟨by kernel_rfl, fun W h => Lif.ld_int (.tmp 129) (by kernel_rfl) (by kernel_rfl) W h.2⟩) hsd ?_
            try (simp only [Act.put, List.setIfInBounds_toArray]; dsimp only [Lif.set16, List.set_cons_zero, List.set_cons_succ])
            refine wpAnyH_take (i := 4) (oi := { dst := some 131, op := Op.move (Operand.tmp 3), type := 25, pos := "law07.go:136", after := #[], guard := none }) (v := .pointer (some ⟨bl, 0, none⟩)) rfl (by kernel_rfl) (by kernel_rfl) (by kernel_rfl) (fun _ _ _ h => h) (Or.inl ⟨by kernel_rfl, fun W h => (by first | kernel_rfl | go_simp)⟩) hsd ?_
            try (simp only [Act.put, List.setIfInBounds_toArray]; dsimp only [Lif.set16, List.set_cons_zero, List.set_cons_succ])
            refine wpAnyH_take (i := 5) (oi := { dst := some 132, op := Op.nilCheck (Operand.tmp 131), type := 0, pos := "law07.go:136", after := #[{ on := 4, ground := Ground.data }], guard := none }) (v := .pointer (some ⟨bl, 0, none⟩)) rfl (by kernel_rfl) (by kernel_rfl) (by kernel_rfl) (fun _ _ _ h => h) (Or.inl ⟨by kernel_rfl, fun W h => (by first | kernel_rfl | go_simp)⟩) hsd ?_
            try (simp only [Act.put, List.setIfInBounds_toArray]; dsimp only [Lif.set16, List.set_cons_zero, List.set_cons_succ])
            refine wpAnyH_take (i := 6) (oi := { dst := some 133, op := Op.fieldAddr 50 (Operand.tmp 132) 0, type := 0, pos := "law07.go:136", after := #[{ on := 5, ground := Ground.data }], guard := none }) (v := .pointer (some ⟨bl, 0, none⟩)) rfl (by kernel_rfl) (by kernel_rfl) (by kernel_rfl) (fun _ _ _ h => h) (Or.inl ⟨by kernel_rfl, fun W h => (by first | kernel_rfl | go_simp)⟩) hsd ?_
            try (simp only [Act.put, List.setIfInBounds_toArray]; dsimp only [Lif.set16, List.set_cons_zero, List.set_cons_succ])
            refine wpAnyH_take (i := 7) (oi := { dst := some 134, op := Op.load 46 (Operand.tmp 133), type := 46, pos := "law07.go:136", after := #[{ on := 6, ground := Ground.data }], guard := none }) (v := .pointer (some ⟨bf', 0, none⟩)) rfl (by kernel_rfl) (by kernel_rfl) (by kernel_rfl) (fun _ _ _ h => h) (Or.inl ⟨by kernel_rfl, fun W h => Op1.ld_files (.tmp 133) (by kernel_rfl) (by kernel_rfl) W h.1.p0⟩) hsd ?_
            try (simp only [Act.put, List.setIfInBounds_toArray]; dsimp only [Lif.set16, List.set_cons_zero, List.set_cons_succ])
            refine wpAnyH_take (i := 8) (oi := { dst := some 135, op := Op.nilCheck (Operand.tmp 134), type := 0, pos := "law07.go:136", after := #[{ on := 7, ground := Ground.data }], guard := none }) (v := .pointer (some ⟨bf', 0, none⟩)) rfl (by kernel_rfl) (by kernel_rfl) (by kernel_rfl) (fun _ _ _ h => h) (Or.inl ⟨by kernel_rfl, fun W h => (by first | kernel_rfl | go_simp)⟩) hsd ?_
            try (simp only [Act.put, List.setIfInBounds_toArray]; dsimp only [Lif.set16, List.set_cons_zero, List.set_cons_succ])
            refine wpAnyH_take (i := 9) (oi := { dst := some 136, op := Op.fieldAddr 53 (Operand.tmp 135) 0, type := 0, pos := "law07.go:136", after := #[{ on := 8, ground := Ground.data }], guard := none }) (v := .pointer (some ⟨bf', 0, none⟩)) rfl (by kernel_rfl) (by kernel_rfl) (by kernel_rfl) (fun _ _ _ h => h) (Or.inl ⟨by kernel_rfl, fun W h => (by first | kernel_rfl | go_simp)⟩) hsd ?_
            try (simp only [Act.put, List.setIfInBounds_toArray]; dsimp only [Lif.set16, List.set_cons_zero, List.set_cons_succ])
            refine wpAnyH_take (i := 10) (oi := { dst := some 137, op := Op.load 51 (Operand.tmp 136), type := 51, pos := "law07.go:136", after := #[{ on := 9, ground := Ground.data }], guard := none }) (v := .pointer (some ⟨bc', 0, none⟩)) rfl (by kernel_rfl) (by kernel_rfl) (by kernel_rfl) (fun _ _ _ h => h) (Or.inl ⟨by kernel_rfl, fun W h => Lif.ld_cache (.tmp 136) (by kernel_rfl) (by kernel_rfl) W h.1.p1⟩) hsd ?_
            try (simp only [Act.put, List.setIfInBounds_toArray]; dsimp only [Lif.set16, List.set_cons_zero, List.set_cons_succ])
            refine wpAnyH_take (i := 11) (oi := { dst := some 138, op := Op.fieldAddr 31 (Operand.tmp 7) 1, type := 0, pos := "law07.go:136", after := #[], guard := none }) (v := .pointer (some ⟨g7, 1, none⟩)) rfl (by kernel_rfl) (by kernel_rfl) (by kernel_rfl) (fun _ _ _ h => h) (Or.inl ⟨by kernel_rfl, fun W h => (by first | kernel_rfl | go_simp)⟩) hsd ?_
            try (simp only [Act.put, List.setIfInBounds_toArray]; dsimp only [Lif.set16, List.set_cons_zero, List.set_cons_succ])
            refine wpAnyH_take (i := 12) (oi := { dst := some 139, op := Op.load 3 (Operand.tmp 138), type := 3, pos := "law07.go:136", after := #[{ on := 11, ground := Ground.data }], guard := none }) (v := .int .i64 (d : Int)) rfl (by kernel_rfl) (by kernel_rfl) (by kernel_rfl) (fun _ _ _ h => h) (Or.inl ⟨by kernel_rfl, fun W h => Lif.ld_int (.tmp 138) (by kernel_rfl) (by kernel_rfl) W (by rw [h.1.dir, unhide XD])⟩) hsd ?_
            try (simp only [Act.put, List.setIfInBounds_toArray]; dsimp only [Lif.set16, List.set_cons_zero, List.set_cons_succ])
            refine wpAnyH_take (i := 13) (oi := { dst := some 140, op := Op.move (Operand.tmp 11), type := 3, pos := "law07.go:136", after := #[], guard := none }) (v := .int .i64 (k : Int)) rfl (by kernel_rfl) (by kernel_rfl) (by kernel_rfl) (fun _ _ _ h => h) (Or.inl ⟨by kernel_rfl, fun W h => (by first | kernel_rfl | go_simp)⟩) hsd ?_
            try (simp only [Act.put, List.setIfInBounds_toArray]; dsimp only [Lif.set16, List.set_cons_zero, List.set_cons_succ])
            refine wpAnyH_take (i := 14) (oi := { dst := some 141, op := Op.nilCheck (Operand.tmp 137), type := 0, pos := "law07.go:136", after := #[{ on := 10, ground := Ground.data }], guard := none }) (v := .pointer (some ⟨bc', 0, none⟩)) rfl (by kernel_rfl) (by kernel_rfl) (by kernel_rfl) (fun _ _ _ h => h) (Or.inl ⟨by kernel_rfl, fun W h => (by first | kernel_rfl | go_simp)⟩) hsd ?_
            try (simp only [Act.put, List.setIfInBounds_toArray]; dsimp only [Lif.set16, List.set_cons_zero, List.set_cons_succ])
            refine wpAnyH_take (i := 15) (oi := { dst := some 142, op := Op.fieldAddr 57 (Operand.tmp 141) 0, type := 0, pos := "law07.go:136", after := #[{ on := 14, ground := Ground.data }], guard := none }) (v := .pointer (some ⟨bc', 0, none⟩)) rfl (by kernel_rfl) (by kernel_rfl) (by kernel_rfl) (fun _ _ _ h => h) (Or.inl ⟨by kernel_rfl, fun W h => (by first | kernel_rfl | go_simp)⟩) hsd ?_
            try (simp only [Act.put, List.setIfInBounds_toArray]; dsimp only [Lif.set16, List.set_cons_zero, List.set_cons_succ])
            refine wpAnyH_take (i := 16) (oi := { dst := some 143, op := Op.fieldAddr 44 (Operand.tmp 142) 1, type := 0, pos := "law07.go:136", after := #[{ on := 15, ground := Ground.data }], guard := none }) (v := .pointer (some ⟨bc', 40, none⟩)) rfl (by kernel_rfl) (by kernel_rfl) (by kernel_rfl) (fun _ _ _ h => h) (Or.inl ⟨by kernel_rfl, fun W h => (by first | kernel_rfl | go_simp)⟩) hsd ?_
            try (simp only [Act.put, List.setIfInBounds_toArray]; dsimp only [Lif.set16, List.set_cons_zero, List.set_cons_succ])
            refine wpAnyH_take (i := 17) (oi := { dst := some 144, op := Op.indexAddr 39 (Operand.tmp 143) (Operand.tmp 139), type := 0, pos := "law07.go:136", after := #[{ on := 16, ground := Ground.data }, { on := 12, ground := Ground.data }], guard := none }) (v := .pointer (some ⟨bc', 40 + d * 12, none⟩)) rfl (by kernel_rfl) (by kernel_rfl) (by kernel_rfl) (fun _ _ _ h => h) (Or.inl ⟨by kernel_rfl, fun W h => Op1.ix_dir (.tmp 143) (.tmp 139) (by kernel_rfl) (by kernel_rfl) (by kernel_rfl) hd3 W⟩) hsd ?_
            try (simp only [Act.put, List.setIfInBounds_toArray]; dsimp only [Lif.set16, List.set_cons_zero, List.set_cons_succ])
            refine wpAnyH_take (i := 18) (oi := { dst := some 145, op := Op.indexAddr 38 (Operand.tmp 144) (Operand.tmp 140), type := 0, pos := "law07.go:136", after := #[{ on := 17, ground := Ground.data }, { on := 13, ground := Ground.data }], guard := none }) (v := .pointer (some ⟨bc', 40 + d * 12 + k * 3, none⟩)) rfl (by kernel_rfl) (by kernel_rfl) (by kernel_rfl) (fun _ _ _ h => h) (Or.inl ⟨by kernel_rfl, fun W h => Op1.ix_slot (.tmp 144) (.tmp 140) (by kernel_rfl) (by kernel_rfl) (by kernel_rfl) hk4 W⟩) hsd ?_
            try (simp only [Act.put, List.setIfInBounds_toArray]; dsimp only [Lif.set16, List.set_cons_zero, List.set_cons_succ])
            refine wpAnyH_take (i := 19) (oi := { dst := some 146, op := Op.fieldAddr 37 (Operand.tmp 145) 2, type := 0, pos := "law07.go:136", after := #[{ on := 18, ground := Ground.data }], guard := none }) (v := .pointer (some ⟨bc', 40 + d * 12 + k * 3 + 2, none⟩)) rfl (by kernel_rfl) (by kernel_rfl) (by kernel_rfl) (fun _ _ _ h => h) (Or.inl ⟨by kernel_rfl, fun W h => (by first | kernel_rfl | go_simp)⟩) hsd ?_
            try (simp only [Act.put, List.setIfInBounds_toArray]; dsimp only [Lif.set16, List.set_cons_zero, List.set_cons_succ])
            refine wpAnyH_take (i := 20) (oi := { dst := some 147, op := Op.load 3 (Operand.tmp 146), type := 3, pos := "law07.go:136", after := #[{ on := 19, ground := Ground.data }], guard := none }) (v := .int .i64 (la + 1)) rfl (by kernel_rfl) (by kernel_rfl) (by kernel_rfl) (fun _ _ _ h => h) (Or.inl ⟨by kernel_rfl, fun W h => Lif.ld_int (.tmp 146) (by kernel_rfl) (by kernel_rfl) W (by rw [h.1.est hi hd3 hk4, unhide HE])⟩) hsd ?_
            try (simp only [Act.put, List.setIfInBounds_toArray]; dsimp only [Lif.set16, List.set_cons_zero, List.set_cons_succ])
            refine wpAnyH_take (i := 21) (oi := { dst := some 148, op := Op.binOp BinOp.eql 3 (Operand.tmp 130) (Operand.tmp 147) 3, type := 4, pos := "law07.go:136", after := #[{ on := 3, ground := Ground.data }, { on := 20, ground := Ground.data }], guard := none }) (v := .bool bq) rfl (by kernel_rfl) (by kernel_rfl) (by kernel_rfl) (fun _ _ _ h => h) (Or.inl ⟨by kernel_rfl, fun W h => Lif.eqib2 (.tmp 130) (.tmp 147) (by kernel_rfl) (by kernel_rfl) (by kernel_rfl) hbq.symm W⟩) hsd ?_
            try (simp only [Act.put, List.setIfInBounds_toArray]; dsimp only [Lif.set16, List.set_cons_zero, List.set_cons_succ])
            refine wpAnyH_done (by kernel_rfl) ?_ _
            clear hS
            go_wp2_with fail
            go_meet
            exact ⟨rfl, rfl⟩
          case rest =>
          obtain ⟨rfl, hwc⟩ := hcut
          rw [hwc]
          clear hwc wc hsd hyk hi hk1 kq H6 G6 R6 hbq
          generalize wr.drew = X7 at H7 G7 R7 kd ⊢
          go_upto_if 148 with fail
          cases bq
          case false =>
            have EK := hide (show Img.forgetTo l (la + 1) (q + 1) = Img.forgetTo l (la + 1) q from Img.forgetTo_keep l (la + 1) q hql (by rw [← unhide EY2]; intro z; have := unhide HBQ; rw [z] at this; simp at this))
            go_wp2_with fail
            go_roundw
            case rel => exact ⟨q + 1, by omega, by go_num, H7, by rw [unhide EK]; exact G7, R7⟩
            case measure => simp [intOf]; omega
          have EK := hide (show (Img.forgetTo l (la + 1) (q + 1)).map (·.1) = ((Img.forgetTo l (la + 1) q).map (·.1)).set q 0 from Img.forgetTo_set l (la + 1) q hql (by rw [← unhide EY2]; have := unhide HBQ; simpa using this.symm))
          have LE : ((Img.forgetTo l (la + 1) q).map (·.1)).length = a1.length := by rw [List.length_map, Img.forgetTo_len, unhide EAL]
          have fz : X7.frozen? ⟨g, q, none⟩ = false := by
            rcases (unhide G7).own1.2 with ⟨z, _⟩ | ⟨g', cap, cur, z, _, e3, _⟩
            · cases z
            · injection z with z1 _ _
              injection z1 with z1
              injection z1 with z1
              subst z1
              exact frozen_of_row _ _ _ _ _ e3
          have G7' : Lif.Lg w bl bf' bc' (.slice (some ⟨g, 0, none⟩) ((Img.forgetTo l (la + 1) q).map (·.1)).length cp1) (.slice ad2 b1.length cp2) ((Img.forgetTo l (la + 1) q).map (·.1)) (l.map (·.2)) X7 := by rw [LE]; exact unhide G7
          have PS := Lif.Lg.set1 (s := 0) (k := q) (unhide H7) G7' (by rw [LE]; exact hqa)
          rw [LE, ← unhide EK] at PS
          have G8 := hide PS.1
          have H8 := hide PS.2.1
          have R8 := hide (show (X7.setCell ⟨g, q, none⟩ (.int .i64 0)).heap[g7]? = some (.cells (stpA x) 31) by
            rw [heap_setCell_other X7 ⟨g, q, none⟩ g7 _ (fun e => (unhide N5).a (by rw [e]; rfl))]; exact unhide R7)
          clear PS G7' LE EK
          go_wp2_with fail
          go_roundw
          case rel => exact ⟨q + 1, by omega, by go_num, H8, G8, R8⟩
          case measure => simp [intOf]; omega
      case rest =>
      as_aux_lemma =>
      obtain ⟨rfl, rfl, H8, G8⟩ := hcut
      clear H5 G5 R5 N5 HBM HA1 HB1 MADE LA1
      have LL2 := hide (show l2.length ≤ j + 1 by rw [unhide HL2]; exact Img.logged_len hll _ _ _ _)
      have LA := hide (show a1.length = l2.length by
        obtain ⟨_, _, e, _⟩ := Idl.own_form (unhide G8).own1
        injection e with _ e _
        rw [List.length_map] at e
        exact e)
      clear HL2 LL hll
      have LB := hide (show b1.length = l2.length by
        obtain ⟨_, _, e, _⟩ := Idl.own_form (unhide G8).own2
        injection e with _ e _
        rw [List.length_map] at e
        exact e)
      generalize a1.length = na at LA G8 ⊢
      generalize b1.length = nb at LB G8 ⊢
      have PART := hide fun n p (hn : n < 8) (hp : p < 2) hl h0 => OwnS.part (unhide K1) (unhide O1) (n := n) (p := p) hn hp hl h0
      have DK := hide (unhide H8).fo.dsk
      have q0 := (unhide H8).ptr
      have q1 := (unhide H8).ptr2
      go_wp2_with fail
      refine (unhide DK).mono ?_
      rintro e w5 ⟨⟨dd, rfl, hdd⟩, b5⟩
      have H9 := hide ((unhide H8).call b5)
      have G9 := hide ((unhide G8).below b5)
      clear b5 DK H8 G8 q0 q1
      have s1 := hide (heap_alloc_last w5 (.cells zeroCells 44))
      have BA := hide (below_setRow ((Below.refl w5.heap.size w5).alloc (Nat.le_refl _) (.cells zeroCells 44)) (Nat.le_refl w5.heap.size) dd)
      have RA := hide (setRow_heap (w5.alloc (.cells zeroCells 44)) w5.heap.size _ dd _ _ (heap_alloc_last w5 (.cells zeroCells 44)))
      go_upto_region 29 with ((have hx := unhide s1; refine wpList_store_row rfl 44 _ _ rfl w5.heap.size dd rfl rfl 44 zeroCells hx (img_info (hdd).size) (zero_size hdd) (hdd).all ?_; clear hx s1; generalize (w5.alloc (.cells zeroCells 44)).setRow w5.heap.size dd = X6 at BA RA ⊢))
      have H10 := hide ((unhide H9).call (unhide BA))
      have G10 := hide ((unhide G9).below (unhide BA))
      have HI := hide (has_of_row (unhide RA) hdd)
      generalize w5.heap.size = g6 at RA HI ⊢
      clear BA RA H9 G9
      go_wp2_with fail
      go_loopw [14] (fun i wr => ∃ n : Nat, n ≤ 8 ∧ i = .int .i64 n ∧ Hid (Below X6.heap.size X6 wr)) (fun i _ => 8 - (intOf i).toNat)
      case atStart => exact ⟨0, Nat.zero_le _, rfl, hide (Below.refl _ _)⟩
      case round =>
        obtain ⟨n, hn, rfl, BN⟩ := hrel
        by_cases hn8 : n < 8
        case neg =>
          have tn : ¬ (n : Int) < 8 := by omega
          have H11 := hide ((unhide H10).call (unhide BN))
          have G11 := hide ((unhide G10).below (unhide BN))
          have jl := unhide LL2
          go_wp2_with fail
          go_roundw
          case rel => exact ⟨j + 1, bf', bc', T, l2, by omega, by go_num, H11, K1, G11, O1, jl⟩
          case measure => simp [intOf]; omega
        case pos =>
          have tn : (n : Int) < 8 := by omega
          go_wp2_with fail
          go_loopw [15] (fun i wr => ∃ p : Nat, p ≤ 2 ∧ i = .int .i64 p ∧ Hid (Below X6.heap.size X6 wr)) (fun i _ => 2 - (intOf i).toNat)
          case atStart => exact ⟨0, Nat.zero_le _, rfl, BN⟩
          case round =>
            clear BN
            obtain ⟨p, hp, rfl, BP⟩ := hrel
            by_cases hp2 : p < 2
            case neg =>
              have tp : ¬ (p : Int) < 2 := by omega
              go_wp2_with fail
              go_roundw
              case rel => exact ⟨n + 1, by omega, by go_num, BP⟩
              case measure => simp [intOf]; omega
            case pos =>
              have tp : (p : Int) < 2 := by omega
              have HP := hide ((unhide HI).below (unhide BP) (unhide HI).lt)
              have e0 := (unhide HP).live n hn8
              have e1 := (unhide HP).part n p hn8 hp2
              cases hlv : T.disk.live n
              case false =>
                rw [hlv] at e0
                clear HP
                generalize T.disk.part n p = k at e1
                go_wp2_with fail
                go_roundw
                case rel => exact ⟨p + 1, by omega, by go_num, BP⟩
                case measure => simp [intOf]; omega
              rw [hlv] at e0
              by_cases hk0 : T.disk.part n p < 0
              case pos =>
                clear HP hlv
                generalize T.disk.part n p = k at e1 hk0
                go_wp2_with fail
                go_roundw
                case rel => exact ⟨p + 1, by omega, by go_num, BP⟩
                case measure => simp [intOf]; omega
              obtain ⟨y, hy, hy9, hof, j0, hj0, hl0⟩ := unhide PART n p hn8 hp2 hlv (by omega)
              rw [hy] at e1
              have ty : ¬ (y : Int) < 0 := by omega
              have HC := hide (fun V (hb : Below X6.heap.size X6 V) => (unhide HI).below hb (unhide HI).lt)
              have OFF := hide (fun V (hb : Below X6.heap.size X6 V) => show V.cell? ⟨g6, 76 + y * 2, none⟩ = some (.int .i64 (T.disk.stamp n)) by rw [← hof]; exact (unhide HC V hb).of y hy9)
              have STP := hide (fun V (hb : Below X6.heap.size X6 V) => (unhide HC V hb).stamp n hn8)
              have TXT := hide (fun V (hb : Below X6.heap.size X6 V) => (unhide HC V hb).text y hy9)
              have HL0 := hide hl0
              clear hl0 hof hlv hk0 hy HP
              generalize T.disk.stamp n = st9 at OFF STP HL0
              generalize T.disk.text y = tx at TXT HL0
              go_upto_region 37 with fail
              go_cut [199] from 185 to 199 (fun q wx => q = .bool false ∧ Hid (Below X6.heap.size X6 wx))
              case first =>
                have b0 : Below X6.heap.size X6 wr.drew := (unhide BP).drew
                refine wp_region_held_drew (S := fun (V : World) => Below X6.heap.size X6 V) (by kernel_rfl) (b0) (fun hS => ?_)
                refine wpAnyH_take (i := 0) (oi := { dst := some 185, op := Op.move (Operand.tmp 16), type := 3, pos := "law07.go:148", after := #[], guard := none }) (v := .int .i64 (y : Int)) rfl (by kernel_rfl) (by kernel_rfl) (by kernel_rfl) (fun _ _ _ h => h) (Or.inl ⟨by kernel_rfl, fun W h => (by first | kernel_rfl | go_simp)⟩) b0 ?_
                try (simp only [Act.put, List.setIfInBounds_toArray]; dsimp only [Lif.set16, List.set_cons_zero, List.set_cons_succ])
                refine wpAnyH_take (i := 1) (oi := { dst := some 186, op := Op.binOp BinOp.geq 3 (Operand.tmp 185) (Operand.const (Value.int IntKind.i64 9)) 3, type := 4, pos := "law07.go:148", after := #[{ on := 0, ground := Ground.data }], guard := none }) (v := .bool false) rfl (by kernel_rfl) (by kernel_rfl) (by kernel_rfl) (fun _ _ _ h => h) (Or.inl ⟨by kernel_rfl, fun W h => Lif.geq9y (.tmp 185) (by kernel_rfl) (by kernel_rfl) (by kernel_rfl) hy9 W⟩) b0 ?_
                try (simp only [Act.put, List.setIfInBounds_toArray]; dsimp only [Lif.set16, List.set_cons_zero, List.set_cons_succ])
                refine wpAnyH_take (i := 2) (oi := { dst := some 187, op := Op.move (Operand.tmp 186), type := 4, pos := "law07.go:148", after := #[{ on := 1, ground := Ground.data }], guard := none }) (v := .bool false) rfl (by kernel_rfl) (by kernel_rfl) (by kernel_rfl) (fun _ _ _ h => h) (Or.inl ⟨by kernel_rfl, fun W h => (by first | kernel_rfl | go_simp)⟩) b0 ?_
                try (simp only [Act.put, List.setIfInBounds_toArray]; dsimp only [Lif.set16, List.set_cons_zero, List.set_cons_succ])
                refine wpAnyH_take (i := 3) (oi := { dst := some 188, op := Op.move (Operand.tmp 16), type := 3, pos := "law07.go:148", after := #[{ on := 2, ground := Ground.guard }], guard := some (2, false) }) (v := .int .i64 (y : Int)) rfl (by kernel_rfl) (by kernel_rfl) (by kernel_rfl) (fun _ _ _ h => h) (Or.inl ⟨by kernel_rfl, fun W h => (by first | kernel_rfl | go_simp)⟩) b0 ?_
                try (simp only [Act.put, List.setIfInBounds_toArray]; dsimp only [Lif.set16, List.set_cons_zero, List.set_cons_succ])
                refine wpAnyH_take (i := 4) (oi := { dst := some 189, op := Op.fieldAddr 44 (Operand.tmp 13) 2, type := 0, pos := "law07.go:148", after := #[{ on := 2, ground := Ground.guard }], guard := some (2, false) }) (v := .pointer (some ⟨g6, 76, none⟩)) rfl (by kernel_rfl) (by kernel_rfl) (by kernel_rfl) (fun _ _ _ h => h) (Or.inl ⟨by kernel_rfl, fun W h => (by first | kernel_rfl | go_simp)⟩) b0 ?_
                try (simp only [Act.put, List.setIfInBounds_toArray]; dsimp only [Lif.set16, List.set_cons_zero, List.set_cons_succ])
                refine wpAnyH_take (i := 5) (oi := { dst := some 190, op := Op.indexAddr 42 (Operand.tmp 189) (Operand.tmp 188), type := 0, pos := "law07.go:148", after := #[{ on := 4, ground := Ground.data }, { on := 3, ground := Ground.data }, { on := 2, ground := Ground.guard }], guard := some (2, false) }) (v := .pointer (some ⟨g6, 76 + y * 2, none⟩)) rfl (by kernel_rfl) (by kernel_rfl) (by kernel_rfl) (fun _ _ _ h => h) (Or.inl ⟨by kernel_rfl, fun W h => Lif.ix_dats (.tmp 189) (.tmp 188) (by kernel_rfl) (by kernel_rfl) (by kernel_rfl) hy9 W⟩) b0 ?_
                try (simp only [Act.put, List.setIfInBounds_toArray]; dsimp only [Lif.set16, List.set_cons_zero, List.set_cons_succ])
                refine wpAnyH_take (i := 6) (oi := { dst := some 191, op := Op.fieldAddr 41 (Operand.tmp 190) 0, type := 0, pos := "law07.go:148", after := #[{ on := 5, ground := Ground.data }, { on := 2, ground := Ground.guard }], guard := some (2, false) }) (v := .pointer (some ⟨g6, 76 + y * 2, none⟩)) rfl (by kernel_rfl) (by kernel_rfl) (by kernel_rfl) (fun _ _ _ h => h) (Or.inl ⟨by kernel_rfl, fun W h => (by first | kernel_rfl | go_simp)⟩) b0 ?_
                try (simp only [Act.put, List.setIfInBounds_toArray]; dsimp only [Lif.set16, List.set_cons_zero, List.set_cons_succ])
                refine wpAnyH_take (i := 7) (oi := { dst := some 192, op := Op.load 3 (Operand.tmp 191), type := 3, pos := "law07.go:148", after := #[{ on := 6, ground := Ground.data }, { on := 2, ground := Ground.guard }], guard := some (2, false) }) (v := .int .i64 st9) rfl (by kernel_rfl) (by kernel_rfl) (by kernel_rfl) (fun _ _ _ h => h) (Or.inl ⟨by kernel_rfl, fun W h => Lif.ld_int (.tmp 191) (by kernel_rfl) (by kernel_rfl) W (unhide OFF W h)⟩) b0 ?_
                try (simp only [Act.put, List.setIfInBounds_toArray]; dsimp only [Lif.set16, List.set_cons_zero, List.set_cons_succ])
                refine wpAnyH_take (i := 8) (oi := { dst := some 193, op := Op.move (Operand.tmp 14), type := 3, pos := "law07.go:148", after := #[{ on := 2, ground := Ground.guard }], guard := some (2, false) }) (v := .int .i64 (n : Int)) rfl (by kernel_rfl) (by kernel_rfl) (by kernel_rfl) (fun _ _ _ h => h) (Or.inl ⟨by kernel_rfl, fun W h => (by first | kernel_rfl | go_simp)⟩) b0 ?_
                try (simp only [Act.put, List.setIfInBounds_toArray]; dsimp only [Lif.set16, List.set_cons_zero, List.set_cons_succ])
                refine wpAnyH_take (i := 9) (oi := { dst := some 194, op := Op.fieldAddr 44 (Operand.tmp 13) 0, type := 0, pos := "law07.go:148", after := #[{ on := 2, ground := Ground.guard }], guard := some (2, false) }) (v := .pointer (some ⟨g6, 0, none⟩)) rfl (by kernel_rfl) (by kernel_rfl) (by kernel_rfl) (fun _ _ _ h => h) (Or.inl ⟨by kernel_rfl, fun W h => (by first | kernel_rfl | go_simp)⟩) b0 ?_
                try (simp only [Act.put, List.setIfInBounds_toArray]; dsimp only [Lif.set16, List.set_cons_zero, List.set_cons_succ])
                refine wpAnyH_take (i := 10) (oi := { dst := some 195, op := Op.indexAddr 35 (Operand.tmp 194) (Operand.tmp 193), type := 0, pos := "law07.go:148", after := #[{ on := 9, ground := Ground.data }, { on := 8, ground := Ground.data }, { on := 2, ground := Ground.guard }], guard := some (2, false) }) (v := .pointer (some ⟨g6, n * 5, none⟩)) rfl (by kernel_rfl) (by kernel_rfl) (by kernel_rfl) (fun _ _ _ h => h) (Or.inl ⟨by kernel_rfl, fun W h => Lif.ix_inos (.tmp 194) (.tmp 193) (by kernel_rfl) (by kernel_rfl) (by kernel_rfl) hn8 W⟩) b0 ?_
                try (simp only [Act.put, List.setIfInBounds_toArray]; dsimp only [Lif.set16, List.set_cons_zero, List.set_cons_succ])
                refine wpAnyH_take (i := 11) (oi := { dst := some 196, op := Op.fieldAddr 34 (Operand.tmp 195) 1, type := 0, pos := "law07.go:148", after := #[{ on := 10, ground := Ground.data }, { on := 2, ground := Ground.guard }], guard := some (2, false) }) (v := .pointer (some ⟨g6, n * 5 + 1, none⟩)) rfl (by kernel_rfl) (by kernel_rfl) (by kernel_rfl) (fun _ _ _ h => h) (Or.inl ⟨by kernel_rfl, fun W h => (by first | kernel_rfl | go_simp)⟩) b0 ?_
                try (simp only [Act.put, List.setIfInBounds_toArray]; dsimp only [Lif.set16, List.set_cons_zero, List.set_cons_succ])
                refine wpAnyH_take (i := 12) (oi := { dst := some 197, op := Op.load 3 (Operand.tmp 196), type := 3, pos := "law07.go:148", after := #[{ on := 11, ground := Ground.data }, { on := 2, ground := Ground.guard }], guard := some (2, false) }) (v := .int .i64 st9) rfl (by kernel_rfl) (by kernel_rfl) (by kernel_rfl) (fun _ _ _ h => h) (Or.inl ⟨by kernel_rfl, fun W h => Lif.ld_int (.tmp 196) (by kernel_rfl) (by kernel_rfl) W (unhide STP W h)⟩) b0 ?_
                try (simp only [Act.put, List.setIfInBounds_toArray]; dsimp only [Lif.set16, List.set_cons_zero, List.set_cons_succ])
                refine wpAnyH_take (i := 13) (oi := { dst := some 198, op := Op.binOp BinOp.neq 3 (Operand.tmp 192) (Operand.tmp 197) 3, type := 4, pos := "law07.go:148", after := #[{ on := 7, ground := Ground.data }, { on := 12, ground := Ground.data }, { on := 2, ground := Ground.guard }], guard := some (2, false) }) (v := .bool false) rfl (by kernel_rfl) (by kernel_rfl) (by kernel_rfl) (fun _ _ _ h => h) (Or.inl ⟨by kernel_rfl, fun W h => Lif.neqf (.tmp 192) (.tmp 197) (by kernel_rfl) (by kernel_rfl) (by kernel_rfl) (show (st9 != st9) = false by simp) W⟩) b0 ?_
                try (simp only [Act.put, List.setIfInBounds_toArray]; dsimp only [Lif.set16, List.set_cons_zero, List.set_cons_succ])
                refine wpAnyH_take (i := 14) (oi := { dst := some 199, op := Op.pick (Operand.tmp 187) (Operand.const (Value.bool true)) (Operand.tmp 198), type := 4, pos := "law07.go:148", after := #[{ on := 2, ground := Ground.data }, { on := 13, ground := Ground.data }], guard := none }) (v := .bool false) rfl (by kernel_rfl) (by kernel_rfl) (by kernel_rfl) (fun _ _ _ h => h) (Or.inl ⟨by kernel_rfl, fun W h => (by first | kernel_rfl | go_simp)⟩) b0 ?_
                try (simp only [Act.put, List.setIfInBounds_toArray]; dsimp only [Lif.set16, List.set_cons_zero, List.set_cons_succ])
                refine wpAnyH_done (by kernel_rfl) ?_ _
                clear hS
                go_wp2_with fail
                go_meet
                exact ⟨rfl, hide b0⟩
              case rest =>
              obtain ⟨rfl, BQ⟩ := hcut
              clear e0 e1 BP
              go_upto_if 199 with fail
              go_wp2_with fail
              go_loopw [17, 18] (fun o i wr => ∃ (q : Nat) (b : Bool), q ≤ l2.length ∧ o = .bool b ∧ i = .int .i64 q ∧ Hid (Below X6.heap.size X6 wr) ∧ Hid (j0 < q → b = true)) (fun _ i _ => l2.length - (intOf i).toNat)
              case atStart => exact ⟨0, false, Nat.zero_le _, rfl, rfl, BQ, hide (fun h => by omega)⟩
              case round =>
                clear BQ
                obtain ⟨q, b, hq, rfl, rfl, BR, JB⟩ := hrel
                by_cases hql : q < l2.length
                case neg =>
                  have tq : ¬ (q : Int) < (na : Int) := by rw [unhide LA]; omega
                  obtain rfl : b = true := unhide JB (by omega)
                  go_wp2_with fail
                  go_roundw
                  case rel => exact ⟨p + 1, by omega, by go_num, BR⟩
                  case measure => simp [intOf]; omega
                case pos =>
                  have tq : (q : Int) < (na : Int) := by rw [unhide LA]; omega
                  have jb : l2.length ≤ 201 := by have := unhide LL2; omega
                  obtain ⟨b', hb'⟩ : ∃ b' : Bool, b' = (b || ((l2[q]).1 == st9 && (l2[q]).2.toList == tx.toList)) := ⟨_, rfl⟩
                  have HB' := hide hb'
                  have JN := hide (show j0 < q + 1 → b' = true from fun h => by
                    rw [hb']
                    by_cases e : j0 = q
                    · subst e
                      rw [unhide HL0]
                      simp
                    · rw [unhide JB (by omega)]; rfl)
                  clear hb' JB
                  go_upto_region 43 with fail
                  focus
                    have b0 : Below X6.heap.size X6 wr.drew := (unhide BR).drew
                    rcases Lif.nums_cell (unhide G10).own1 with ⟨_, ez⟩ | ⟨ga1, cc, ev, _, gl, kc⟩
                    · have := congrArg List.length ez
                      rw [List.length_map, List.length_nil] at this
                      omega
                    rcases Lif.strs_cell (unhide G10).own2 with ⟨_, ez⟩ | ⟨gb1, cb, eu, _, gm, kb⟩
                    · have := congrArg List.length ez
                      rw [List.length_map, List.length_nil] at this
                      omega
                    injection ev with ev1 ev2 ev3
                    injection eu with eu1 eu2 eu3
                    subst ev1 ev3 eu1 eu3
                    have ka := kc q (by rw [List.length_map]; exact hql)
                    have kt := kb q (by rw [List.length_map]; exact hql)
                    rw [List.getElem_map] at ka kt
                    clear kc kb ev2 eu2
                    have qa : q < na := by rw [unhide LA]; exact hql
                    have qb : q < nb := by rw [unhide LB]; exact hql
                    generalize (l2[q]).1 = ya at ka HB'
                    generalize (l2[q]).2 = yt at kt HB'
                    cases b
                    case true =>
                      obtain rfl : b' = true := unhide HB'
                      refine wp_region_held_drew (S := fun (V : World) => Below X6.heap.size X6 V) (by kernel_rfl) (b0) (fun hS => ?_)
                      refine wpAnyH_take (i := 0) (oi := { dst := some 206, op := Op.move (Operand.tmp 17), type := 4, pos := "law07.go:153", after := #[], guard := none }) (v := .bool true) rfl (by kernel_rfl) (by kernel_rfl) (by kernel_rfl) (fun _ _ _ h => h) (Or.inl ⟨by kernel_rfl, fun W h => (by first | kernel_rfl | go_simp)⟩) b0 ?_
                      try (simp only [Act.put, List.setIfInBounds_toArray]; dsimp only [Lif.set16, List.set_cons_zero, List.set_cons_succ])
                      refine wpAnyH_take (i := 1) (oi := { dst := some 207, op := Op.move (Operand.tmp 206), type := 4, pos := "law07.go:153", after := #[{ on := 0, ground := Ground.data }], guard := none }) (v := .bool true) rfl (by kernel_rfl) (by kernel_rfl) (by kernel_rfl) (fun _ _ _ h => h) (Or.inl ⟨by kernel_rfl, fun W h => (by first | kernel_rfl | go_simp)⟩) b0 ?_
                      try (simp only [Act.put, List.setIfInBounds_toArray]; dsimp only [Lif.set16, List.set_cons_zero, List.set_cons_succ])
                      refine wpAnyH_take (i := 2) (oi := { dst := some 208, op := Op.move (Operand.tmp 4), type := 65, pos := "law07.go:153", after := #[{ on := 1, ground := Ground.guard }], guard := some (1, false) }) (v := undef) rfl (by kernel_rfl) (by kernel_rfl) (by kernel_rfl) (fun _ _ _ h => h) (Or.inr ⟨by kernel_rfl, rfl⟩) b0 ?_
                      try (simp only [Act.put, List.setIfInBounds_toArray]; dsimp only [Lif.set16, List.set_cons_zero, List.set_cons_succ])
                      refine wpAnyH_take (i := 3) (oi := { dst := some 209, op := Op.move (Operand.tmp 18), type := 3, pos := "law07.go:153", after := #[{ on := 1, ground := Ground.guard }], guard := some (1, false) }) (v := undef) rfl (by kernel_rfl) (by kernel_rfl) (by kernel_rfl) (fun _ _ _ h => h) (Or.inr ⟨by kernel_rfl, rfl⟩) b0 ?_
                      try (simp only [Act.put, List.setIfInBounds_toArray]; dsimp only [Lif.set16, List.set_cons_zero, List.set_cons_succ])
                      refine wpAnyH_take (i := 4) (oi := { dst := some 210, op := Op.indexAddr 65 (Operand.tmp 208) (Operand.tmp 209), type := 0, pos := "law07.go:153", after := #[{ on := 2, ground := Ground.data }, { on := 3, ground := Ground.data }, { on := 1, ground := Ground.guard }], guard := some (1, false) }) (v := undef) rfl (by kernel_rfl) (by kernel_rfl) (by kernel_rfl) (fun _ _ _ h => h) (Or.inr ⟨by kernel_rfl, rfl⟩) b0 ?_
                      try (simp only [Act.put, List.setIfInBounds_toArray]; dsimp only [Lif.set16, List.set_cons_zero, List.set_cons_succ])
                      refine wpAnyH_take (i := 5) (oi := { dst := some 211, op := Op.load 3 (Operand.tmp 210), type := 3, pos := "law07.go:153", after := #[{ on := 4, ground := Ground.data }, { on := 1, ground := Ground.guard }], guard := some (1, false) }) (v := undef) rfl (by kernel_rfl) (by kernel_rfl) (by kernel_rfl) (fun _ _ _ h => h) (Or.inr ⟨by kernel_rfl, rfl⟩) b0 ?_
                      try (simp only [Act.put, List.setIfInBounds_toArray]; dsimp only [Lif.set16, List.set_cons_zero, List.set_cons_succ])
                      refine wpAnyH_take (i := 6) (oi := { dst := some 212, op := Op.move (Operand.tmp 14), type := 3, pos := "law07.go:153", after := #[{ on := 1, ground := Ground.guard }], guard := some (1, false) }) (v := undef) rfl (by kernel_rfl) (by kernel_rfl) (by kernel_rfl) (fun _ _ _ h => h) (Or.inr ⟨by kernel_rfl, rfl⟩) b0 ?_
                      try (simp only [Act.put, List.setIfInBounds_toArray]; dsimp only [Lif.set16, List.set_cons_zero, List.set_cons_succ])
                      refine wpAnyH_take (i := 7) (oi := { dst := some 213, op := Op.fieldAddr 44 (Operand.tmp 13) 0, type := 0, pos := "law07.go:153", after := #[{ on := 1, ground := Ground.guard }], guard := some (1, false) }) (v := undef) rfl (by kernel_rfl) (by kernel_rfl) (by kernel_rfl) (fun _ _ _ h => h) (Or.inr ⟨by kernel_rfl, rfl⟩) b0 ?_
                      try (simp only [Act.put, List.setIfInBounds_toArray]; dsimp only [Lif.set16, List.set_cons_zero, List.set_cons_succ])
                      refine wpAnyH_take (i := 8) (oi := { dst := some 214, op := Op.indexAddr 35 (Operand.tmp 213) (Operand.tmp 212), type := 0, pos := "law07.go:153", after := #[{ on := 7, ground := Ground.data }, { on := 6, ground := Ground.data }, { on := 1, ground := Ground.guard }], guard := some (1, false) }) (v := undef) rfl (by kernel_rfl) (by kernel_rfl) (by kernel_rfl) (fun _ _ _ h => h) (Or.inr ⟨by kernel_rfl, rfl⟩) b0 ?_
                      try (simp only [Act.put, List.setIfInBounds_toArray]; dsimp only [Lif.set16, List.set_cons_zero, List.set_cons_succ])
                      refine wpAnyH_take (i := 9) (oi := { dst := some 215, op := Op.fieldAddr 34 (Operand.tmp 214) 1, type := 0, pos := "law07.go:153", after := #[{ on := 8, ground := Ground.data }, { on := 1, ground := Ground.guard }], guard := some (1, false) }) (v := undef) rfl (by kernel_rfl) (by kernel_rfl) (by kernel_rfl) (fun _ _ _ h => h) (Or.inr ⟨by kernel_rfl, rfl⟩) b0 ?_
                      try (simp only [Act.put, List.setIfInBounds_toArray]; dsimp only [Lif.set16, List.set_cons_zero, List.set_cons_succ])
                      refine wpAnyH_take (i := 10) (oi := { dst := some 216, op := Op.load 3 (Operand.tmp 215), type := 3, pos := "law07.go:153", after := #[{ on := 9, ground := Ground.data }, { on := 1, ground := Ground.guard }], guard := some (1, false) }) (v := undef) rfl (by kernel_rfl) (by kernel_rfl) (by kernel_rfl) (fun _ _ _ h => h) (Or.inr ⟨by kernel_rfl, rfl⟩) b0 ?_
                      try (simp only [Act.put, List.setIfInBounds_toArray]; dsimp only [Lif.set16, List.set_cons_zero, List.set_cons_succ])
                      refine wpAnyH_take (i := 11) (oi := { dst := some 217, op := Op.binOp BinOp.eql 3 (Operand.tmp 211) (Operand.tmp 216) 3, type := 4, pos := "law07.go:153", after := #[{ on := 5, ground := Ground.data }, { on := 10, ground := Ground.data }, { on := 1, ground := Ground.guard }], guard := some (1, false) }) (v := undef) rfl (by kernel_rfl) (by kernel_rfl) (by kernel_rfl) (fun _ _ _ h => h) (Or.inr ⟨by kernel_rfl, rfl⟩) b0 ?_
                      try (simp only [Act.put, List.setIfInBounds_toArray]; dsimp only [Lif.set16, List.set_cons_zero, List.set_cons_succ])
                      refine wpAnyH_take (i := 12) (oi := { dst := some 218, op := Op.move (Operand.tmp 217), type := 4, pos := "law07.go:153", after := #[{ on := 11, ground := Ground.data }, { on := 1, ground := Ground.chain }, { on := 1, ground := Ground.guard }], guard := some (1, false) }) (v := undef) rfl (by kernel_rfl) (by kernel_rfl) (by kernel_rfl) (fun _ _ _ h => h) (Or.inr ⟨by kernel_rfl, rfl⟩) b0 ?_
                      try (simp only [Act.put, List.setIfInBounds_toArray]; dsimp only [Lif.set16, List.set_cons_zero, List.set_cons_succ])
                      refine wpAnyH_take (i := 13) (oi := { dst := some 219, op := Op.move (Operand.tmp 5), type := 61, pos := "law07.go:153", after := #[{ on := 12, ground := Ground.guard }], guard := some (12, true) }) (v := undef) rfl (by kernel_rfl) (by kernel_rfl) (by kernel_rfl) (fun _ _ _ h => h) (Or.inr ⟨by kernel_rfl, rfl⟩) b0 ?_
                      try (simp only [Act.put, List.setIfInBounds_toArray]; dsimp only [Lif.set16, List.set_cons_zero, List.set_cons_succ])
                      refine wpAnyH_take (i := 14) (oi := { dst := some 220, op := Op.move (Operand.tmp 18), type := 3, pos := "law07.go:153", after := #[{ on := 12, ground := Ground.guard }], guard := some (12, true) }) (v := undef) rfl (by kernel_rfl) (by kernel_rfl) (by kernel_rfl) (fun _ _ _ h => h) (Or.inr ⟨by kernel_rfl, rfl⟩) b0 ?_
                      try (simp only [Act.put, List.setIfInBounds_toArray]; dsimp only [Lif.set16, List.set_cons_zero, List.set_cons_succ])
                      refine wpAnyH_take (i := 15) (oi := { dst := some 221, op := Op.indexAddr 61 (Operand.tmp 219) (Operand.tmp 220), type := 0, pos := "law07.go:153", after := #[{ on := 13, ground := Ground.data }, { on := 14, ground := Ground.data }, { on := 12, ground := Ground.guard }], guard := some (12, true) }) (v := undef) rfl (by kernel_rfl) (by kernel_rfl) (by kernel_rfl) (fun _ _ _ h => h) (Or.inr ⟨by kernel_rfl, rfl⟩) b0 ?_
                      try (simp only [Act.put, List.setIfInBounds_toArray]; dsimp only [Lif.set16, List.set_cons_zero, List.set_cons_succ])
                      refine wpAnyH_take (i := 16) (oi := { dst := some 222, op := Op.load 9 (Operand.tmp 221), type := 9, pos := "law07.go:153", after := #[{ on := 15, ground := Ground.data }, { on := 12, ground := Ground.guard }], guard := some (12, true) }) (v := undef) rfl (by kernel_rfl) (by kernel_rfl) (by kernel_rfl) (fun _ _ _ h => h) (Or.inr ⟨by kernel_rfl, rfl⟩) b0 ?_
                      try (simp only [Act.put, List.setIfInBounds_toArray]; dsimp only [Lif.set16, List.set_cons_zero, List.set_cons_succ])
                      refine wpAnyH_take (i := 17) (oi := { dst := some 223, op := Op.move (Operand.tmp 16), type := 3, pos := "law07.go:153", after := #[{ on := 12, ground := Ground.guard }], guard := some (12, true) }) (v := undef) rfl (by kernel_rfl) (by kernel_rfl) (by kernel_rfl) (fun _ _ _ h => h) (Or.inr ⟨by kernel_rfl, rfl⟩) b0 ?_
                      try (simp only [Act.put, List.setIfInBounds_toArray]; dsimp only [Lif.set16, List.set_cons_zero, List.set_cons_succ])
                      refine wpAnyH_take (i := 18) (oi := { dst := some 224, op := Op.fieldAddr 44 (Operand.tmp 13) 2, type := 0, pos := "law07.go:153", after := #[{ on := 12, ground := Ground.guard }], guard := some (12, true) }) (v := undef) rfl (by kernel_rfl) (by kernel_rfl) (by kernel_rfl) (fun _ _ _ h => h) (Or.inr ⟨by kernel_rfl, rfl⟩) b0 ?_
                      try (simp only [Act.put, List.setIfInBounds_toArray]; dsimp only [Lif.set16, List.set_cons_zero, List.set_cons_succ])
                      refine wpAnyH_take (i := 19) (oi := { dst := some 225, op := Op.indexAddr 42 (Operand.tmp 224) (Operand.tmp 223), type := 0, pos := "law07.go:153", after := #[{ on := 18, ground := Ground.data }, { on := 17, ground := Ground.data }, { on := 12, ground := Ground.guard }], guard := some (12, true) }) (v := undef) rfl (by kernel_rfl) (by kernel_rfl) (by kernel_rfl) (fun _ _ _ h => h) (Or.inr ⟨by kernel_rfl, rfl⟩) b0 ?_
                      try (simp only [Act.put, List.setIfInBounds_toArray]; dsimp only [Lif.set16, List.set_cons_zero, List.set_cons_succ])
                      refine wpAnyH_take (i := 20) (oi := { dst := some 226, op := Op.fieldAddr 41 (Operand.tmp 225) 1, type := 0, pos := "law07.go:153", after := #[{ on := 19, ground := Ground.data }, { on := 12, ground := Ground.guard }], guard := some (12, true) }) (v := undef) rfl (by kernel_rfl) (by kernel_rfl) (by kernel_rfl) (fun _ _ _ h => h) (Or.inr ⟨by kernel_rfl, rfl⟩) b0 ?_
                      try (simp only [Act.put, List.setIfInBounds_toArray]; dsimp only [Lif.set16, List.set_cons_zero, List.set_cons_succ])
                      refine wpAnyH_take (i := 21) (oi := { dst := some 227, op := Op.load 9 (Operand.tmp 226), type := 9, pos := "law07.go:153", after := #[{ on := 20, ground := Ground.data }, { on := 12, ground := Ground.guard }], guard := some (12, true) }) (v := undef) rfl (by kernel_rfl) (by kernel_rfl) (by kernel_rfl) (fun _ _ _ h => h) (Or.inr ⟨by kernel_rfl, rfl⟩) b0 ?_
                      try (simp only [Act.put, List.setIfInBounds_toArray]; dsimp only [Lif.set16, List.set_cons_zero, List.set_cons_succ])
                      refine wpAnyH_take (i := 22) (oi := { dst := some 228, op := Op.binOp BinOp.eql 9 (Operand.tmp 222) (Operand.tmp 227) 9, type := 4, pos := "law07.go:153", after := #[{ on := 16, ground := Ground.data }, { on := 21, ground := Ground.data }, { on := 12, ground := Ground.guard }], guard := some (12, true) }) (v := undef) rfl (by kernel_rfl) (by kernel_rfl) (by kernel_rfl) (fun _ _ _ h => h) (Or.inr ⟨by kernel_rfl, rfl⟩) b0 ?_
                      try (simp only [Act.put, List.setIfInBounds_toArray]; dsimp only [Lif.set16, List.set_cons_zero, List.set_cons_succ])
                      refine wpAnyH_take (i := 23) (oi := { dst := some 229, op := Op.pick (Operand.tmp 218) (Operand.tmp 228) (Operand.const (Value.bool false)), type := 4, pos := "law07.go:153", after := #[{ on := 12, ground := Ground.data }, { on := 22, ground := Ground.data }, { on := 1, ground := Ground.guard }], guard := some (1, false) }) (v := undef) rfl (by kernel_rfl) (by kernel_rfl) (by kernel_rfl) (fun _ _ _ h => h) (Or.inr ⟨by kernel_rfl, rfl⟩) b0 ?_
                      try (simp only [Act.put, List.setIfInBounds_toArray]; dsimp only [Lif.set16, List.set_cons_zero, List.set_cons_succ])
                      refine wpAnyH_take (i := 24) (oi := { dst := some 230, op := Op.pick (Operand.tmp 207) (Operand.const (Value.bool true)) (Operand.tmp 229), type := 4, pos := "law07.go:153", after := #[{ on := 1, ground := Ground.data }, { on := 23, ground := Ground.data }], guard := none }) (v := .bool true) rfl (by kernel_rfl) (by kernel_rfl) (by kernel_rfl) (fun _ _ _ h => h) (Or.inl ⟨by kernel_rfl, fun W h => (by first | kernel_rfl | go_simp)⟩) b0 ?_
                      try (simp only [Act.put, List.setIfInBounds_toArray]; dsimp only [Lif.set16, List.set_cons_zero, List.set_cons_succ])
                      refine wpAnyH_take (i := 25) (oi := { dst := some 17, op := Op.assign (Operand.tmp 230), type := 4, pos := "law07.go:153", after := #[{ on := 24, ground := Ground.data }, { on := 12, ground := Ground.chain }, { on := 0, ground := Ground.phase }, { on := 1, ground := Ground.phase }, { on := 2, ground := Ground.phase }, { on := 3, ground := Ground.phase }, { on := 4, ground := Ground.phase }, { on := 5, ground := Ground.phase }, { on := 6, ground := Ground.phase }, { on := 7, ground := Ground.phase }, { on := 8, ground := Ground.phase }, { on := 9, ground := Ground.phase }, { on := 10, ground := Ground.phase }, { on := 11, ground := Ground.phase }, { on := 12, ground := Ground.phase }, { on := 13, ground := Ground.phase }, { on := 14, ground := Ground.phase }, { on := 15, ground := Ground.phase }, { on := 16, ground := Ground.phase }, { on := 17, ground := Ground.phase }, { on := 18, ground := Ground.phase }, { on := 19, ground := Ground.phase }, { on := 20, ground := Ground.phase }, { on := 21, ground := Ground.phase }, { on := 22, ground := Ground.phase }, { on := 23, ground := Ground.phase }, { on := 24, ground := Ground.phase }], guard := none }) (v := .bool true) rfl (by kernel_rfl) (by kernel_rfl) (by kernel_rfl) (fun _ _ _ h => h) (Or.inl ⟨by kernel_rfl, fun W h => (by first | kernel_rfl | go_simp)⟩) b0 ?_
                      try (simp only [Act.put, List.setIfInBounds_toArray]; dsimp only [Lif.set16, List.set_cons_zero, List.set_cons_succ])
                      refine wpAnyH_done (by kernel_rfl) ?_ _
                      clear hS
                      have BS := hide b0
                      go_wp2_with fail
                      go_roundw
                      case rel => exact ⟨q + 1, _, by omega, rfl, by go_num, BS, JN⟩
                      case measure => simp [intOf]; omega
                    case false =>
                      obtain ⟨c1, hc1⟩ : ∃ v : Bool, (ya == st9) = v := ⟨_, rfl⟩
                      cases c1
                      case false =>
                        obtain rfl : b' = false := by rw [unhide HB', hc1]; rfl
                        refine wp_region_held_drew (S := fun (V : World) => Below X6.heap.size X6 V) (by kernel_rfl) (b0) (fun hS => ?_)
                        refine wpAnyH_take (i := 0) (oi := { dst := some 206, op := Op.move (Operand.tmp 17), type := 4, pos := "law07.go:153", after := #[], guard := none }) (v := .bool false) rfl (by kernel_rfl) (by kernel_rfl) (by kernel_rfl) (fun _ _ _ h => h) (Or.inl ⟨by kernel_rfl, fun W h => (by first | kernel_rfl | go_simp)⟩) b0 ?_
                        try (simp only [Act.put, List.setIfInBounds_toArray]; dsimp only [Lif.set16, List.set_cons_zero, List.set_cons_succ])
                        refine wpAnyH_take (i := 1) (oi := { dst := some 207, op := Op.move (Operand.tmp 206), type := 4, pos := "law07.go:153", after := #[{ on := 0, ground := Ground.data }], guard := none }) (v := .bool false) rfl (by kernel_rfl) (by kernel_rfl) (by kernel_rfl) (fun _ _ _ h => h) (Or.inl ⟨by kernel_rfl, fun W h => (by first | kernel_rfl | go_simp)⟩) b0 ?_
                        try (simp only [Act.put, List.setIfInBounds_toArray]; dsimp only [Lif.set16, List.set_cons_zero, List.set_cons_succ])
                        refine wpAnyH_take (i := 2) (oi := { dst := some 208, op := Op.move (Operand.tmp 4), type := 65, pos := "law07.go:153", after := #[{ on := 1, ground := Ground.guard }], guard := some (1, false) }) (v := .slice (some ⟨ga1, 0, none⟩) na cp1) rfl (by kernel_rfl) (by kernel_rfl) (by kernel_rfl) (fun _ _ _ h => h) (Or.inl ⟨by kernel_rfl, fun W h => (by first | kernel_rfl | go_simp)⟩) b0 ?_
                        try (simp only [Act.put, List.setIfInBounds_toArray]; dsimp only [Lif.set16, List.set_cons_zero, List.set_cons_succ])
                        refine wpAnyH_take (i := 3) (oi := { dst := some 209, op := Op.move (Operand.tmp 18), type := 3, pos := "law07.go:153", after := #[{ on := 1, ground := Ground.guard }], guard := some (1, false) }) (v := .int .i64 (q : Int)) rfl (by kernel_rfl) (by kernel_rfl) (by kernel_rfl) (fun _ _ _ h => h) (Or.inl ⟨by kernel_rfl, fun W h => (by first | kernel_rfl | go_simp)⟩) b0 ?_
                        try (simp only [Act.put, List.setIfInBounds_toArray]; dsimp only [Lif.set16, List.set_cons_zero, List.set_cons_succ])
                        refine wpAnyH_take (i := 4) (oi := { dst := some 210, op := Op.indexAddr 65 (Operand.tmp 208) (Operand.tmp 209), type := 0, pos := "law07.go:153", after := #[{ on := 2, ground := Ground.data }, { on := 3, ground := Ground.data }, { on := 1, ground := Ground.guard }], guard := some (1, false) }) (v := .pointer (some ⟨ga1, q, none⟩)) rfl (by kernel_rfl) (by kernel_rfl) (by kernel_rfl) (fun _ _ _ h => h) (Or.inl ⟨by kernel_rfl, fun W h => Lif.ix_nums (c := cp1) (.tmp 208) (.tmp 209) (by kernel_rfl) (by kernel_rfl) (by kernel_rfl) qa W⟩) b0 ?_
                        try (simp only [Act.put, List.setIfInBounds_toArray]; dsimp only [Lif.set16, List.set_cons_zero, List.set_cons_succ])
                        refine wpAnyH_take (i := 5) (oi := { dst := some 211, op := Op.load 3 (Operand.tmp 210), type := 3, pos := "law07.go:153", after := #[{ on := 4, ground := Ground.data }, { on := 1, ground := Ground.guard }], guard := some (1, false) }) (v := .int .i64 ya) rfl (by kernel_rfl) (by kernel_rfl) (by kernel_rfl) (fun _ _ _ h => h) (Or.inl ⟨by kernel_rfl, fun W h => Lif.ld_int (.tmp 210) (by kernel_rfl) (by kernel_rfl) W (Lif.cell_keep h gl ka)⟩) b0 ?_
                        try (simp only [Act.put, List.setIfInBounds_toArray]; dsimp only [Lif.set16, List.set_cons_zero, List.set_cons_succ])
                        refine wpAnyH_take (i := 6) (oi := { dst := some 212, op := Op.move (Operand.tmp 14), type := 3, pos := "law07.go:153", after := #[{ on := 1, ground := Ground.guard }], guard := some (1, false) }) (v := .int .i64 (n : Int)) rfl (by kernel_rfl) (by kernel_rfl) (by kernel_rfl) (fun _ _ _ h => h) (Or.inl ⟨by kernel_rfl, fun W h => (by first | kernel_rfl | go_simp)⟩) b0 ?_
                        try (simp only [Act.put, List.setIfInBounds_toArray]; dsimp only [Lif.set16, List.set_cons_zero, List.set_cons_succ])
                        refine wpAnyH_take (i := 7) (oi := { dst := some 213, op := Op.fieldAddr 44 (Operand.tmp 13) 0, type := 0, pos := "law07.go:153", after := #[{ on := 1, ground := Ground.guard }], guard := some (1, false) }) (v := .pointer (some ⟨g6, 0, none⟩)) rfl (by kernel_rfl) (by kernel_rfl) (by kernel_rfl) (fun _ _ _ h => h) (Or.inl ⟨by kernel_rfl, fun W h => (by first | kernel_rfl | go_simp)⟩) b0 ?_
                        try (simp only [Act.put, List.setIfInBounds_toArray]; dsimp only [Lif.set16, List.set_cons_zero, List.set_cons_succ])
                        refine wpAnyH_take (i := 8) (oi := { dst := some 214, op := Op.indexAddr 35 (Operand.tmp 213) (Operand.tmp 212), type := 0, pos := "law07.go:153", after := #[{ on := 7, ground := Ground.data }, { on := 6, ground := Ground.data }, { on := 1, ground := Ground.guard }], guard := some (1, false) }) (v := .pointer (some ⟨g6, n * 5, none⟩)) rfl (by kernel_rfl) (by kernel_rfl) (by kernel_rfl) (fun _ _ _ h => h) (Or.inl ⟨by kernel_rfl, fun W h => Lif.ix_inos (.tmp 213) (.tmp 212) (by kernel_rfl) (by kernel_rfl) (by kernel_rfl) hn8 W⟩) b0 ?_
                        try (simp only [Act.put, List.setIfInBounds_toArray]; dsimp only [Lif.set16, List.set_cons_zero, List.set_cons_succ])
                        refine wpAnyH_take (i := 9) (oi := { dst := some 215, op := Op.fieldAddr 34 (Operand.tmp 214) 1, type := 0, pos := "law07.go:153", after := #[{ on := 8, ground := Ground.data }, { on := 1, ground := Ground.guard }], guard := some (1, false) }) (v := .pointer (some ⟨g6, n * 5 + 1, none⟩)) rfl (by kernel_rfl) (by kernel_rfl) (by kernel_rfl) (fun _ _ _ h => h) (Or.inl ⟨by kernel_rfl, fun W h => (by first | kernel_rfl | go_simp)⟩) b0 ?_
                        try (simp only [Act.put, List.setIfInBounds_toArray]; dsimp only [Lif.set16, List.set_cons_zero, List.set_cons_succ])
                        refine wpAnyH_take (i := 10) (oi := { dst := some 216, op := Op.load 3 (Operand.tmp 215), type := 3, pos := "law07.go:153", after := #[{ on := 9, ground := Ground.data }, { on := 1, ground := Ground.guard }], guard := some (1, false) }) (v := .int .i64 st9) rfl (by kernel_rfl) (by kernel_rfl) (by kernel_rfl) (fun _ _ _ h => h) (Or.inl ⟨by kernel_rfl, fun W h => Lif.ld_int (.tmp 215) (by kernel_rfl) (by kernel_rfl) W (unhide STP W h)⟩) b0 ?_
                        try (simp only [Act.put, List.setIfInBounds_toArray]; dsimp only [Lif.set16, List.set_cons_zero, List.set_cons_succ])
                        refine wpAnyH_take (i := 11) (oi := { dst := some 217, op := Op.binOp BinOp.eql 3 (Operand.tmp 211) (Operand.tmp 216) 3, type := 4, pos := "law07.go:153", after := #[{ on := 5, ground := Ground.data }, { on := 10, ground := Ground.data }, { on := 1, ground := Ground.guard }], guard := some (1, false) }) (v := .bool false) rfl (by kernel_rfl) (by kernel_rfl) (by kernel_rfl) (fun _ _ _ h => h) (Or.inl ⟨by kernel_rfl, fun W h => Lif.eqib2 (.tmp 211) (.tmp 216) (by kernel_rfl) (by kernel_rfl) (by kernel_rfl) hc1 W⟩) b0 ?_
                        try (simp only [Act.put, List.setIfInBounds_toArray]; dsimp only [Lif.set16, List.set_cons_zero, List.set_cons_succ])
                        refine wpAnyH_take (i := 12) (oi := { dst := some 218, op := Op.move (Operand.tmp 217), type := 4, pos := "law07.go:153", after := #[{ on := 11, ground := Ground.data }, { on := 1, ground := Ground.chain }, { on := 1, ground := Ground.guard }], guard := some (1, false) }) (v := .bool false) rfl (by kernel_rfl) (by kernel_rfl) (by kernel_rfl) (fun _ _ _ h => h) (Or.inl ⟨by kernel_rfl, fun W h => (by first | kernel_rfl | go_simp)⟩) b0 ?_
                        try (simp only [Act.put, List.setIfInBounds_toArray]; dsimp only [Lif.set16, List.set_cons_zero, List.set_cons_succ])
                        refine wpAnyH_take (i := 13) (oi := { dst := some 219, op := Op.move (Operand.tmp 5), type := 61, pos := "law07.go:153", after := #[{ on := 12, ground := Ground.guard }], guard := some (12, true) }) (v := undef) rfl (by kernel_rfl) (by kernel_rfl) (by kernel_rfl) (fun _ _ _ h => h) (Or.inr ⟨by kernel_rfl, rfl⟩) b0 ?_
                        try (simp only [Act.put, List.setIfInBounds_toArray]; dsimp only [Lif.set16, List.set_cons_zero, List.set_cons_succ])
                        refine wpAnyH_take (i := 14) (oi := { dst := some 220, op := Op.move (Operand.tmp 18), type := 3, pos := "law07.go:153", after := #[{ on := 12, ground := Ground.guard }], guard := some (12, true) }) (v := undef) rfl (by kernel_rfl) (by kernel_rfl) (by kernel_rfl) (fun _ _ _ h => h) (Or.inr ⟨by kernel_rfl, rfl⟩) b0 ?_
                        try (simp only [Act.put, List.setIfInBounds_toArray]; dsimp only [Lif.set16, List.set_cons_zero, List.set_cons_succ])
                        refine wpAnyH_take (i := 15) (oi := { dst := some 221, op := Op.indexAddr 61 (Operand.tmp 219) (Operand.tmp 220), type := 0, pos := "law07.go:153", after := #[{ on := 13, ground := Ground.data }, { on := 14, ground := Ground.data }, { on := 12, ground := Ground.guard }], guard := some (12, true) }) (v := undef) rfl (by kernel_rfl) (by kernel_rfl) (by kernel_rfl) (fun _ _ _ h => h) (Or.inr ⟨by kernel_rfl, rfl⟩) b0 ?_
                        try (simp only [Act.put, List.setIfInBounds_toArray]; dsimp only [Lif.set16, List.set_cons_zero, List.set_cons_succ])
                        refine wpAnyH_take (i := 16) (oi := { dst := some 222, op := Op.load 9 (Operand.tmp 221), type := 9, pos := "law07.go:153", after := #[{ on := 15, ground := Ground.data }, { on := 12, ground := Ground.guard }], guard := some (12, true) }) (v := undef) rfl (by kernel_rfl) (by kernel_rfl) (by kernel_rfl) (fun _ _ _ h => h) (Or.inr ⟨by kernel_rfl, rfl⟩) b0 ?_
                        try (simp only [Act.put, List.setIfInBounds_toArray]; dsimp only [Lif.set16, List.set_cons_zero, List.set_cons_succ])
                        refine wpAnyH_take (i := 17) (oi := { dst := some 223, op := Op.move (Operand.tmp 16), type := 3, pos := "law07.go:153", after := #[{ on := 12, ground := Ground.guard }], guard := some (12, true) }) (v := undef) rfl (by kernel_rfl) (by kernel_rfl) (by kernel_rfl) (fun _ _ _ h => h) (Or.inr ⟨by kernel_rfl, rfl⟩) b0 ?_
                        try (simp only [Act.put, List.setIfInBounds_toArray]; dsimp only [Lif.set16, List.set_cons_zero, List.set_cons_succ])
                        refine wpAnyH_take (i := 18) (oi := { dst := some 224, op := Op.fieldAddr 44 (Operand.tmp 13) 2, type := 0, pos := "law07.go:153", after := #[{ on := 12, ground := Ground.guard }], guard := some (12, true) }) (v := undef) rfl (by kernel_rfl) (by kernel_rfl) (by kernel_rfl) (fun _ _ _ h => h) (Or.inr ⟨by kernel_rfl, rfl⟩) b0 ?_
                        try (simp only [Act.put, List.setIfInBounds_toArray]; dsimp only [Lif.set16, List.set_cons_zero, List.set_cons_succ])
                        refine wpAnyH_take (i := 19) (oi := { dst := some 225, op := Op.indexAddr 42 (Operand.tmp 224) (Operand.tmp 223), type := 0, pos := "law07.go:153", after := #[{ on := 18, ground := Ground.data }, { on := 17, ground := Ground.data }, { on := 12, ground := Ground.guard }], guard := some (12, true) }) (v := undef) rfl (by kernel_rfl) (by kernel_rfl) (by kernel_rfl) (fun _ _ _ h => h) (Or.inr ⟨by kernel_rfl, rfl⟩) b0 ?_
                        try (simp only [Act.put, List.setIfInBounds_toArray]; dsimp only [Lif.set16, List.set_cons_zero, List.set_cons_succ])
                        refine wpAnyH_take (i := 20) (oi := { dst := some 226, op := Op.fieldAddr 41 (Operand.tmp 225) 1, type := 0, pos := "law07.go:153", after := #[{ on := 19, ground := Ground.data }, { on := 12, ground := Ground.guard }], guard := some (12, true) }) (v := undef) rfl (by kernel_rfl) (by kernel_rfl) (by kernel_rfl) (fun _ _ _ h => h) (Or.inr ⟨by kernel_rfl, rfl⟩) b0 ?_
                        try (simp only [Act.put, List.setIfInBounds_toArray]; dsimp only [Lif.set16, List.set_cons_zero, List.set_cons_succ])
                        refine wpAnyH_take (i := 21) (oi := { dst := some 227, op := Op.load 9 (Operand.tmp 226), type := 9, pos := "law07.go:153", after := #[{ on := 20, ground := Ground.data }, { on := 12, ground := Ground.guard }], guard := some (12, true) }) (v := undef) rfl (by kernel_rfl) (by kernel_rfl) (by kernel_rfl) (fun _ _ _ h => h) (Or.inr ⟨by kernel_rfl, rfl⟩) b0 ?_
                        try (simp only [Act.put, List.setIfInBounds_toArray]; dsimp only [Lif.set16, List.set_cons_zero, List.set_cons_succ])
                        refine wpAnyH_take (i := 22) (oi := { dst := some 228, op := Op.binOp BinOp.eql 9 (Operand.tmp 222) (Operand.tmp 227) 9, type := 4, pos := "law07.go:153", after := #[{ on := 16, ground := Ground.data }, { on := 21, ground := Ground.data }, { on := 12, ground := Ground.guard }], guard := some (12, true) }) (v := undef) rfl (by kernel_rfl) (by kernel_rfl) (by kernel_rfl) (fun _ _ _ h => h) (Or.inr ⟨by kernel_rfl, rfl⟩) b0 ?_
                        try (simp only [Act.put, List.setIfInBounds_toArray]; dsimp only [Lif.set16, List.set_cons_zero, List.set_cons_succ])
                        refine wpAnyH_take (i := 23) (oi := { dst := some 229, op := Op.pick (Operand.tmp 218) (Operand.tmp 228) (Operand.const (Value.bool false)), type := 4, pos := "law07.go:153", after := #[{ on := 12, ground := Ground.data }, { on := 22, ground := Ground.data }, { on := 1, ground := Ground.guard }], guard := some (1, false) }) (v := .bool false) rfl (by kernel_rfl) (by kernel_rfl) (by kernel_rfl) (fun _ _ _ h => h) (Or.inl ⟨by kernel_rfl, fun W h => (by first | kernel_rfl | go_simp)⟩) b0 ?_
                        try (simp only [Act.put, List.setIfInBounds_toArray]; dsimp only [Lif.set16, List.set_cons_zero, List.set_cons_succ])
                        refine wpAnyH_take (i := 24) (oi := { dst := some 230, op := Op.pick (Operand.tmp 207) (Operand.const (Value.bool true)) (Operand.tmp 229), type := 4, pos := "law07.go:153", after := #[{ on := 1, ground := Ground.data }, { on := 23, ground := Ground.data }], guard := none }) (v := .bool false) rfl (by kernel_rfl) (by kernel_rfl) (by kernel_rfl) (fun _ _ _ h => h) (Or.inl ⟨by kernel_rfl, fun W h => (by first | kernel_rfl | go_simp)⟩) b0 ?_
                        try (simp only [Act.put, List.setIfInBounds_toArray]; dsimp only [Lif.set16, List.set_cons_zero, List.set_cons_succ])
                        refine wpAnyH_take (i := 25) (oi := { dst := some 17, op := Op.assign (Operand.tmp 230), type := 4, pos := "law07.go:153", after := #[{ on := 24, ground := Ground.data }, { on := 12, ground := Ground.chain }, { on := 0, ground := Ground.phase }, { on := 1, ground := Ground.phase }, { on := 2, ground := Ground.phase }, { on := 3, ground := Ground.phase }, { on := 4, ground := Ground.phase }, { on := 5, ground := Ground.phase }, { on := 6, ground := Ground.phase }, { on := 7, ground := Ground.phase }, { on := 8, ground := Ground.phase }, { on := 9, ground := Ground.phase }, { on := 10, ground := Ground.phase }, { on := 11, ground := Ground.phase }, { on := 12, ground := Ground.phase }, { on := 13, ground := Ground.phase }, { on := 14, ground := Ground.phase }, { on := 15, ground := Ground.phase }, { on := 16, ground := Ground.phase }, { on := 17, ground := Ground.phase }, { on := 18, ground := Ground.phase }, { on := 19, ground := Ground.phase }, { on := 20, ground := Ground.phase }, { on := 21, ground := Ground.phase }, { on := 22, ground := Ground.phase }, { on := 23, ground := Ground.phase }, { on := 24, ground := Ground.phase }], guard := none }) (v := .bool false) rfl (by kernel_rfl) (by kernel_rfl) (by kernel_rfl) (fun _ _ _ h => h) (Or.inl ⟨by kernel_rfl, fun W h => (by first | kernel_rfl | go_simp)⟩) b0 ?_
                        try (simp only [Act.put, List.setIfInBounds_toArray]; dsimp only [Lif.set16, List.set_cons_zero, List.set_cons_succ])
                        refine wpAnyH_done (by kernel_rfl) ?_ _
                        clear hS
                        have BS := hide b0
                        go_wp2_with fail
                        go_roundw
                        case rel => exact ⟨q + 1, _, by omega, rfl, by go_num, BS, JN⟩
                        case measure => simp [intOf]; omega
                      case true =>
                        have hc2 : (yt.toList == tx.toList) = b' := by rw [unhide HB', hc1]; rfl
                        refine wp_region_held_drew (S := fun (V : World) => Below X6.heap.size X6 V) (by kernel_rfl) (b0) (fun hS => ?_)
                        refine wpAnyH_take (i := 0) (oi := { dst := some 206, op := Op.move (Operand.tmp 17), type := 4, pos := "law07.go:153", after := #[], guard := none }) (v := .bool false) rfl (by kernel_rfl) (by kernel_rfl) (by kernel_rfl) (fun _ _ _ h => h) (Or.inl ⟨by kernel_rfl, fun W h => (by first | kernel_rfl | go_simp)⟩) b0 ?_
                        try (simp only [Act.put, List.setIfInBounds_toArray]; dsimp only [Lif.set16, List.set_cons_zero, List.set_cons_succ])
                        refine wpAnyH_take (i := 1) (oi := { dst := some 207, op := Op.move (Operand.tmp 206), type := 4, pos := "law07.go:153", after := #[{ on := 0, ground := Ground.data }], guard := none }) (v := .bool false) rfl (by kernel_rfl) (by kernel_rfl) (by kernel_rfl) (fun _ _ _ h => h) (Or.inl ⟨by kernel_rfl, fun W h => (by first | kernel_rfl | go_simp)⟩) b0 ?_
                        try (simp only [Act.put, List.setIfInBounds_toArray]; dsimp only [Lif.set16, List.set_cons_zero, List.set_cons_succ])
                        refine wpAnyH_take (i := 2) (oi := { dst := some 208, op := Op.move (Operand.tmp 4), type := 65, pos := "law07.go:153", after := #[{ on := 1, ground := Ground.guard }], guard := some (1, false) }) (v := .slice (some ⟨ga1, 0, none⟩) na cp1) rfl (by kernel_rfl) (by kernel_rfl) (by kernel_rfl) (fun _ _ _ h => h) (Or.inl ⟨by kernel_rfl, fun W h => (by first | kernel_rfl | go_simp)⟩) b0 ?_
                        try (simp only [Act.put, List.setIfInBounds_toArray]; dsimp only [Lif.set16, List.set_cons_zero, List.set_cons_succ])
                        refine wpAnyH_take (i := 3) (oi := { dst := some 209, op := Op.move (Operand.tmp 18), type := 3, pos := "law07.go:153", after := #[{ on := 1, ground := Ground.guard }], guard := some (1, false) }) (v := .int .i64 (q : Int)) rfl (by kernel_rfl) (by kernel_rfl) (by kernel_rfl) (fun _ _ _ h => h) (Or.inl ⟨by kernel_rfl, fun W h => (by first | kernel_rfl | go_simp)⟩) b0 ?_
                        try (simp only [Act.put, List.setIfInBounds_toArray]; dsimp only [Lif.set16, List.set_cons_zero, List.set_cons_succ])
                        refine wpAnyH_take (i := 4) (oi := { dst := some 210, op := Op.indexAddr 65 (Operand.tmp 208) (Operand.tmp 209), type := 0, pos := "law07.go:153", after := #[{ on := 2, ground := Ground.data }, { on := 3, ground := Ground.data }, { on := 1, ground := Ground.guard }], guard := some (1, false) }) (v := .pointer (some ⟨ga1, q, none⟩)) rfl (by kernel_rfl) (by kernel_rfl) (by kernel_rfl) (fun _ _ _ h => h) (Or.inl ⟨by kernel_rfl, fun W h => Lif.ix_nums (c := cp1) (.tmp 208) (.tmp 209) (by kernel_rfl) (by kernel_rfl) (by kernel_rfl) qa W⟩) b0 ?_
                        try (simp only [Act.put, List.setIfInBounds_toArray]; dsimp only [Lif.set16, List.set_cons_zero, List.set_cons_succ])
                        refine wpAnyH_take (i := 5) (oi := { dst := some 211, op := Op.load 3 (Operand.tmp 210), type := 3, pos := "law07.go:153", after := #[{ on := 4, ground := Ground.data }, { on := 1, ground := Ground.guard }], guard := some (1, false) }) (v := .int .i64 ya) rfl (by kernel_rfl) (by kernel_rfl) (by kernel_rfl) (fun _ _ _ h => h) (Or.inl ⟨by kernel_rfl, fun W h => Lif.ld_int (.tmp 210) (by kernel_rfl) (by kernel_rfl) W (Lif.cell_keep h gl ka)⟩) b0 ?_
                        try (simp only [Act.put, List.setIfInBounds_toArray]; dsimp only [Lif.set16, List.set_cons_zero, List.set_cons_succ])
                        refine wpAnyH_take (i := 6) (oi := { dst := some 212, op := Op.move (Operand.tmp 14), type := 3, pos := "law07.go:153", after := #[{ on := 1, ground := Ground.guard }], guard := some (1, false) }) (v := .int .i64 (n : Int)) rfl (by kernel_rfl) (by kernel_rfl) (by kernel_rfl) (fun _ _ _ h => h) (Or.inl ⟨by kernel_rfl, fun W h => (by first | kernel_rfl | go_simp)⟩) b0 ?_
                        try (simp only [Act.put, List.setIfInBounds_toArray]; dsimp only [Lif.set16, List.set_cons_zero, List.set_cons_succ])
                        refine wpAnyH_take (i := 7) (oi := { dst := some 213, op := Op.fieldAddr 44 (Operand.tmp 13) 0, type := 0, pos := "law07.go:153", after := #[{ on := 1, ground := Ground.guard }], guard := some (1, false) }) (v := .pointer (some ⟨g6, 0, none⟩)) rfl (by kernel_rfl) (by kernel_rfl) (by kernel_rfl) (fun _ _ _ h => h) (Or.inl ⟨by kernel_rfl, fun W h => (by first | kernel_rfl | go_simp)⟩) b0 ?_
                        try (simp only [Act.put, List.setIfInBounds_toArray]; dsimp only [Lif.set16, List.set_cons_zero, List.set_cons_succ])
                        refine wpAnyH_take (i := 8) (oi := { dst := some 214, op := Op.indexAddr 35 (Operand.tmp 213) (Operand.tmp 212), type := 0, pos := "law07.go:153", after := #[{ on := 7, ground := Ground.data }, { on := 6, ground := Ground.data }, { on := 1, ground := Ground.guard }], guard := some (1, false) }) (v := .pointer (some ⟨g6, n * 5, none⟩)) rfl (by kernel_rfl) (by kernel_rfl) (by kernel_rfl) (fun _ _ _ h => h) (Or.inl ⟨by kernel_rfl, fun W h => Lif.ix_inos (.tmp 213) (.tmp 212) (by kernel_rfl) (by kernel_rfl) (by kernel_rfl) hn8 W⟩) b0 ?_
                        try (simp only [Act.put, List.setIfInBounds_toArray]; dsimp only [Lif.set16, List.set_cons_zero, List.set_cons_succ])
                        refine wpAnyH_take (i := 9) (oi := { dst := some 215, op := Op.fieldAddr 34 (Operand.tmp 214) 1, type := 0, pos := "law07.go:153", after := #[{ on := 8, ground := Ground.data }, { on := 1, ground := Ground.guard }], guard := some (1, false) }) (v := .pointer (some ⟨g6, n * 5 + 1, none⟩)) rfl (by kernel_rfl) (by kernel_rfl) (by kernel_rfl) (fun _ _ _ h => h) (Or.inl ⟨by kernel_rfl, fun W h => (by first | kernel_rfl | go_simp)⟩) b0 ?_
                        try (simp only [Act.put, List.setIfInBounds_toArray]; dsimp only [Lif.set16, List.set_cons_zero, List.set_cons_succ])
                        refine wpAnyH_take (i := 10) (oi := { dst := some 216, op := Op.load 3 (Operand.tmp 215), type := 3, pos := "law07.go:153", after := #[{ on := 9, ground := Ground.data }, { on := 1, ground := Ground.guard }], guard := some (1, false) }) (v := .int .i64 st9) rfl (by kernel_rfl) (by kernel_rfl) (by kernel_rfl) (fun _ _ _ h => h) (Or.inl ⟨by kernel_rfl, fun W h => Lif.ld_int (.tmp 215) (by kernel_rfl) (by kernel_rfl) W (unhide STP W h)⟩) b0 ?_
                        try (simp only [Act.put, List.setIfInBounds_toArray]; dsimp only [Lif.set16, List.set_cons_zero, List.set_cons_succ])
                        refine wpAnyH_take (i := 11) (oi := { dst := some 217, op := Op.binOp BinOp.eql 3 (Operand.tmp 211) (Operand.tmp 216) 3, type := 4, pos := "law07.go:153", after := #[{ on := 5, ground := Ground.data }, { on := 10, ground := Ground.data }, { on := 1, ground := Ground.guard }], guard := some (1, false) }) (v := .bool true) rfl (by kernel_rfl) (by kernel_rfl) (by kernel_rfl) (fun _ _ _ h => h) (Or.inl ⟨by kernel_rfl, fun W h => Lif.eqib2 (.tmp 211) (.tmp 216) (by kernel_rfl) (by kernel_rfl) (by kernel_rfl) hc1 W⟩) b0 ?_
                        try (simp only [Act.put, List.setIfInBounds_toArray]; dsimp only [Lif.set16, List.set_cons_zero, List.set_cons_succ])
                        refine wpAnyH_take (i := 12) (oi := { dst := some 218, op := Op.move (Operand.tmp 217), type := 4, pos := "law07.go:153", after := #[{ on := 11, ground := Ground.data }, { on := 1, ground := Ground.chain }, { on := 1, ground := Ground.guard }], guard := some (1, false) }) (v := .bool true) rfl (by kernel_rfl) (by kernel_rfl) (by kernel_rfl) (fun _ _ _ h => h) (Or.inl ⟨by kernel_rfl, fun W h => (by first | kernel_rfl | go_simp)⟩) b0 ?_
                        try (simp only [Act.put, List.setIfInBounds_toArray]; dsimp only [Lif.set16, List.set_cons_zero, List.set_cons_succ])
                        refine wpAnyH_take (i := 13) (oi := { dst := some 219, op := Op.move (Operand.tmp 5), type := 61, pos := "law07.go:153", after := #[{ on := 12, ground := Ground.guard }], guard := some (12, true) }) (v := .slice (some ⟨gb1, 0, none⟩) nb cp2) rfl (by kernel_rfl) (by kernel_rfl) (by kernel_rfl) (fun _ _ _ h => h) (Or.inl ⟨by kernel_rfl, fun W h => (by first | kernel_rfl | go_simp)⟩) b0 ?_
                        try (simp only [Act.put, List.setIfInBounds_toArray]; dsimp only [Lif.set16, List.set_cons_zero, List.set_cons_succ])
                        refine wpAnyH_take (i := 14) (oi := { dst := some 220, op := Op.move (Operand.tmp 18), type := 3, pos := "law07.go:153", after := #[{ on := 12, ground := Ground.guard }], guard := some (12, true) }) (v := .int .i64 (q : Int)) rfl (by kernel_rfl) (by kernel_rfl) (by kernel_rfl) (fun _ _ _ h => h) (Or.inl ⟨by kernel_rfl, fun W h => (by first | kernel_rfl | go_simp)⟩) b0 ?_
                        try (simp only [Act.put, List.setIfInBounds_toArray]; dsimp only [Lif.set16, List.set_cons_zero, List.set_cons_succ])
                        refine wpAnyH_take (i := 15) (oi := { dst := some 221, op := Op.indexAddr 61 (Operand.tmp 219) (Operand.tmp 220), type := 0, pos := "law07.go:153", after := #[{ on := 13, ground := Ground.data }, { on := 14, ground := Ground.data }, { on := 12, ground := Ground.guard }], guard := some (12, true) }) (v := .pointer (some ⟨gb1, q, none⟩)) rfl (by kernel_rfl) (by kernel_rfl) (by kernel_rfl) (fun _ _ _ h => h) (Or.inl ⟨by kernel_rfl, fun W h => Lif.ix_strs (c := cp2) (.tmp 219) (.tmp 220) (by kernel_rfl) (by kernel_rfl) (by kernel_rfl) qb W⟩) b0 ?_
                        try (simp only [Act.put, List.setIfInBounds_toArray]; dsimp only [Lif.set16, List.set_cons_zero, List.set_cons_succ])
                        refine wpAnyH_take (i := 16) (oi := { dst := some 222, op := Op.load 9 (Operand.tmp 221), type := 9, pos := "law07.go:153", after := #[{ on := 15, ground := Ground.data }, { on := 12, ground := Ground.guard }], guard := some (12, true) }) (v := .string yt) rfl (by kernel_rfl) (by kernel_rfl) (by kernel_rfl) (fun _ _ _ h => h) (Or.inl ⟨by kernel_rfl, fun W h => Op1.ld_str (.tmp 221) (by kernel_rfl) (by kernel_rfl) W (Lif.cell_keep h gm kt)⟩) b0 ?_
                        try (simp only [Act.put, List.setIfInBounds_toArray]; dsimp only [Lif.set16, List.set_cons_zero, List.set_cons_succ])
                        refine wpAnyH_take (i := 17) (oi := { dst := some 223, op := Op.move (Operand.tmp 16), type := 3, pos := "law07.go:153", after := #[{ on := 12, ground := Ground.guard }], guard := some (12, true) }) (v := .int .i64 (y : Int)) rfl (by kernel_rfl) (by kernel_rfl) (by kernel_rfl) (fun _ _ _ h => h) (Or.inl ⟨by kernel_rfl, fun W h => (by first | kernel_rfl | go_simp)⟩) b0 ?_
                        try (simp only [Act.put, List.setIfInBounds_toArray]; dsimp only [Lif.set16, List.set_cons_zero, List.set_cons_succ])
                        refine wpAnyH_take (i := 18) (oi := { dst := some 224, op := Op.fieldAddr 44 (Operand.tmp 13) 2, type := 0, pos := "law07.go:153", after := #[{ on := 12, ground := Ground.guard }], guard := some (12, true) }) (v := .pointer (some ⟨g6, 76, none⟩)) rfl (by kernel_rfl) (by kernel_rfl) (by kernel_rfl) (fun _ _ _ h => h) (Or.inl ⟨by kernel_rfl, fun W h => (by first | kernel_rfl | go_simp)⟩) b0 ?_
                        try (simp only [Act.put, List.setIfInBounds_toArray]; dsimp only [Lif.set16, List.set_cons_zero, List.set_cons_succ])
                        refine wpAnyH_take (i := 19) (oi := { dst := some 225, op := Op.indexAddr 42 (Operand.tmp 224) (Operand.tmp 223), type := 0, pos := "law07.go:153", after := #[{ on := 18, ground := Ground.data }, { on := 17, ground := Ground.data }, { on := 12, ground := Ground.guard }], guard := some (12, true) }) (v := .pointer (some ⟨g6, 76 + y * 2, none⟩)) rfl (by kernel_rfl) (by kernel_rfl) (by kernel_rfl) (fun _ _ _ h => h) (Or.inl ⟨by kernel_rfl, fun W h => Lif.ix_dats (.tmp 224) (.tmp 223) (by kernel_rfl) (by kernel_rfl) (by kernel_rfl) hy9 W⟩) b0 ?_
                        try (simp only [Act.put, List.setIfInBounds_toArray]; dsimp only [Lif.set16, List.set_cons_zero, List.set_cons_succ])
                        refine wpAnyH_take (i := 20) (oi := { dst := some 226, op := Op.fieldAddr 41 (Operand.tmp 225) 1, type := 0, pos := "law07.go:153", after := #[{ on := 19, ground := Ground.data }, { on := 12, ground := Ground.guard }], guard := some (12, true) }) (v := .pointer (some ⟨g6, 76 + y * 2 + 1, none⟩)) rfl (by kernel_rfl) (by kernel_rfl) (by kernel_rfl) (fun _ _ _ h => h) (Or.inl ⟨by kernel_rfl, fun W h => (by first | kernel_rfl | go_simp)⟩) b0 ?_
                        try (simp only [Act.put, List.setIfInBounds_toArray]; dsimp only [Lif.set16, List.set_cons_zero, List.set_cons_succ])
                        refine wpAnyH_take (i := 21) (oi := { dst := some 227, op := Op.load 9 (Operand.tmp 226), type := 9, pos := "law07.go:153", after := #[{ on := 20, ground := Ground.data }, { on := 12, ground := Ground.guard }], guard := some (12, true) }) (v := .string tx) rfl (by kernel_rfl) (by kernel_rfl) (by kernel_rfl) (fun _ _ _ h => h) (Or.inl ⟨by kernel_rfl, fun W h => Op1.ld_str (.tmp 226) (by kernel_rfl) (by kernel_rfl) W (unhide TXT W h)⟩) b0 ?_
                        try (simp only [Act.put, List.setIfInBounds_toArray]; dsimp only [Lif.set16, List.set_cons_zero, List.set_cons_succ])
                        refine wpAnyH_take (i := 22) (oi := { dst := some 228, op := Op.binOp BinOp.eql 9 (Operand.tmp 222) (Operand.tmp 227) 9, type := 4, pos := "law07.go:153", after := #[{ on := 16, ground := Ground.data }, { on := 21, ground := Ground.data }, { on := 12, ground := Ground.guard }], guard := some (12, true) }) (v := .bool b') rfl (by kernel_rfl) (by kernel_rfl) (by kernel_rfl) (fun _ _ _ h => h) (Or.inl ⟨by kernel_rfl, fun W h => Lif.eq_strb (.tmp 222) (.tmp 227) (by kernel_rfl) (by kernel_rfl) (by kernel_rfl) hc2 W⟩) b0 ?_
                        try (simp only [Act.put, List.setIfInBounds_toArray]; dsimp only [Lif.set16, List.set_cons_zero, List.set_cons_succ])
                        refine wpAnyH_take (i := 23) (oi := { dst := some 229, op := Op.pick (Operand.tmp 218) (Operand.tmp 228) (Operand.const (Value.bool false)), type := 4, pos := "law07.go:153", after := #[{ on := 12, ground := Ground.data }, { on := 22, ground := Ground.data }, { on := 1, ground := Ground.guard }], guard := some (1, false) }) (v := .bool b') rfl (by kernel_rfl) (by kernel_rfl) (by kernel_rfl) (fun _ _ _ h => h) (Or.inl ⟨by kernel_rfl, fun W h => (by first | kernel_rfl | go_simp)⟩) b0 ?_
                        try (simp only [Act.put, List.setIfInBounds_toArray]; dsimp only [Lif.set16, List.set_cons_zero, List.set_cons_succ])
                        refine wpAnyH_take (i := 24) (oi := { dst := some 230, op := Op.pick (Operand.tmp 207) (Operand.const (Value.bool true)) (Operand.tmp 229), type := 4, pos := "law07.go:153", after := #[{ on := 1, ground := Ground.data }, { on := 23, ground := Ground.data }], guard := none }) (v := .bool b') rfl (by kernel_rfl) (by kernel_rfl) (by kernel_rfl) (fun _ _ _ h => h) (Or.inl ⟨by kernel_rfl, fun W h => (by first | kernel_rfl | go_simp)⟩) b0 ?_
                        try (simp only [Act.put, List.setIfInBounds_toArray]; dsimp only [Lif.set16, List.set_cons_zero, List.set_cons_succ])
                        refine wpAnyH_take (i := 25) (oi := { dst := some 17, op := Op.assign (Operand.tmp 230), type := 4, pos := "law07.go:153", after := #[{ on := 24, ground := Ground.data }, { on := 12, ground := Ground.chain }, { on := 0, ground := Ground.phase }, { on := 1, ground := Ground.phase }, { on := 2, ground := Ground.phase }, { on := 3, ground := Ground.phase }, { on := 4, ground := Ground.phase }, { on := 5, ground := Ground.phase }, { on := 6, ground := Ground.phase }, { on := 7, ground := Ground.phase }, { on := 8, ground := Ground.phase }, { on := 9, ground := Ground.phase }, { on := 10, ground := Ground.phase }, { on := 11, ground := Ground.phase }, { on := 12, ground := Ground.phase }, { on := 13, ground := Ground.phase }, { on := 14, ground := Ground.phase }, { on := 15, ground := Ground.phase }, { on := 16, ground := Ground.phase }, { on := 17, ground := Ground.phase }, { on := 18, ground := Ground.phase }, { on := 19, ground := Ground.phase }, { on := 20, ground := Ground.phase }, { on := 21, ground := Ground.phase }, { on := 22, ground := Ground.phase }, { on := 23, ground := Ground.phase }, { on := 24, ground := Ground.phase }], guard := none }) (v := .bool b') rfl (by kernel_rfl) (by kernel_rfl) (by kernel_rfl) (fun _ _ _ h => h) (Or.inl ⟨by kernel_rfl, fun W h => (by first | kernel_rfl | go_simp)⟩) b0 ?_
                        try (simp only [Act.put, List.setIfInBounds_toArray]; dsimp only [Lif.set16, List.set_cons_zero, List.set_cons_succ])
                        refine wpAnyH_done (by kernel_rfl) ?_ _
                        clear hS
                        have BS := hide b0
                        go_wp2_with fail
                        go_roundw
                        case rel => exact ⟨q + 1, _, by omega, rfl, by go_num, BS, JN⟩
                        case measure => simp [intOf]; omega
end Lif
end Go.Proofs.YtlbgkpibaahglacGreat
