/-
  The walk of safe.Entry.
-/
import Derived.Test.YtmbpckmpnnmnmacGreatTc
import Derived.RegionTactic
import Derived.BigRegion
import Derived.ChangeAlike
namespace Go.Proofs.YtmbpckmpnnmnmacGreat
open Go.RowKit
theorem eqEnt (na : ByteArray) (ia sa : Int) (nb : ByteArray) (ib sb : Int) (w : World) : (binOp .eql 37 (.agg #[.string na, .int .i64 ia, .int .i64 sa]) (.agg #[.string nb, .int .i64 ib, .int .i64 sb])).run Tryz.prog w = .ok (.bool (na.toList == nb.toList && ia == ib && sa == sb)) w := by
  have u1 := Tryz.underlying3
  have u2 := Tryz.underlying9
  go_simp
  cases h1 : na.toList == nb.toList <;> cases h2 : ia == ib <;> cases h3 : sa == sb <;> simp_all
theorem neqEnt (na : ByteArray) (ia sa : Int) (nb : ByteArray) (ib sb : Int) (w : World) : (binOp .neq 37 (.agg #[.string na, .int .i64 ia, .int .i64 sa]) (.agg #[.string nb, .int .i64 ib, .int .i64 sb])).run Tryz.prog w = .ok (.bool (!(na.toList == nb.toList && ia == ib && sa == sb))) w := by
  have u1 := Tryz.underlying3
  have u2 := Tryz.underlying9
  go_simp
  cases h1 : na.toList == nb.toList <;> cases h2 : ia == ib <;> cases h3 : sa == sb <;> simp_all
def entC (e : Ent) : Array Value := #[.string e.name, .int .i64 e.ino, .int .i64 e.est]
/-- the slots of both, and the answer's, in boxes -/
structure Ents (w W : World) (g1 g2 : Nat) (a b r : Ent) : Prop where
  below : Below w.heap.size w W
  b0 : W.heap[w.heap.size]? = some (.cells (entC r) 37)
  b1 : W.heap[g1]? = some (.cells (entC a) 37)
  b2 : W.heap[g2]? = some (.cells (entC b) 37)
  gt1 : w.heap.size < g1
  gt2 : w.heap.size < g2
theorem Ents.ab (w : World) (a b : Ent) : Ents w (((w.alloc (.cells (entC Ent.none) 37)).alloc (.cells (entC a) 37)).alloc (.cells (entC b) 37)).drew (w.alloc (.cells (entC Ent.none) 37)).heap.size ((w.alloc (.cells (entC Ent.none) 37)).heap.size + 1) a b Ent.none := by
  refine ⟨((((Below.refl _ _).alloc (Nat.le_refl _) _).alloc (by simp) _).alloc (by simp; omega) _).drew, ?_, ?_, ?_, by simp, by simp; omega⟩
  · show ((w.alloc _).alloc _ |>.alloc _).heap[w.heap.size]? = _
    rw [Below.heap_alloc _ _ _ (by simp; omega), Below.heap_alloc _ _ _ (by simp)]; exact heap_alloc_last _ _
  · show ((w.alloc _).alloc _ |>.alloc _).heap[_]? = _
    rw [Below.heap_alloc _ _ _ (by simp)]; exact heap_alloc_last _ _
  · show ((w.alloc _).alloc _ |>.alloc _).heap[_]? = _
    have := heap_alloc_last ((w.alloc (.cells (entC Ent.none) 37)).alloc (.cells (entC a) 37)) (.cells (entC b) 37)
    simpa using this
theorem Ents.ba (w : World) (a b : Ent) : Ents w (((w.alloc (.cells (entC Ent.none) 37)).alloc (.cells (entC b) 37)).alloc (.cells (entC a) 37)).drew ((w.alloc (.cells (entC Ent.none) 37)).heap.size + 1) (w.alloc (.cells (entC Ent.none) 37)).heap.size a b Ent.none :=
  have h := Ents.ab w b a
  ⟨h.below, h.b0, h.b2, h.b1, h.gt2, h.gt1⟩
theorem Ents.call {w W W1 : World} {g1 g2 : Nat} {a b r : Ent} (h : Ents w W g1 g2 a b r) (hb : Below W.heap.size W W1) : Ents w W1 g1 g2 a b r :=
  have l1 := (Array.getElem?_eq_some_iff.1 h.b1).1
  have l2 := (Array.getElem?_eq_some_iff.1 h.b2).1
  have l0 := (Array.getElem?_eq_some_iff.1 h.b0).1
  ⟨h.below.trans (hb.mono h.below.size), by rw [hb.block _ l0]; exact h.b0, by rw [hb.block _ l1]; exact h.b1, by rw [hb.block _ l2]; exact h.b2, h.gt1, h.gt2⟩
theorem Ents.draw {w W : World} {g1 g2 : Nat} {a b r : Ent} (h : Ents w W g1 g2 a b r) (q : Nat) : Ents w (W.drewN q) g1 g2 a b r := h.call (belowN (Below.refl _ _))
theorem Ents.cell1 {w W : World} {g1 g2 : Nat} {a b r : Ent} (h : Ents w W g1 g2 a b r) : W.cell? ⟨g1, 0, none⟩ = some (.string a.name) ∧ W.cell? ⟨g1, 1, none⟩ = some (.int .i64 a.ino) ∧ W.cell? ⟨g1, 2, none⟩ = some (.int .i64 a.est) :=
  ⟨by rw [cell_of_row _ _ _ _ _ _ h.b1]; rfl, by rw [cell_of_row _ _ _ _ _ _ h.b1]; rfl, by rw [cell_of_row _ _ _ _ _ _ h.b1]; rfl⟩
theorem Ents.cell2 {w W : World} {g1 g2 : Nat} {a b r : Ent} (h : Ents w W g1 g2 a b r) : W.cell? ⟨g2, 0, none⟩ = some (.string b.name) ∧ W.cell? ⟨g2, 1, none⟩ = some (.int .i64 b.ino) ∧ W.cell? ⟨g2, 2, none⟩ = some (.int .i64 b.est) :=
  ⟨by rw [cell_of_row _ _ _ _ _ _ h.b2]; rfl, by rw [cell_of_row _ _ _ _ _ _ h.b2]; rfl, by rw [cell_of_row _ _ _ _ _ _ h.b2]; rfl⟩
theorem Ents.cell0 {w W : World} {g1 g2 : Nat} {a b r : Ent} (h : Ents w W g1 g2 a b r) : W.cell? ⟨w.heap.size, 0, none⟩ = some (.string r.name) ∧ W.cell? ⟨w.heap.size, 1, none⟩ = some (.int .i64 r.ino) ∧ W.cell? ⟨w.heap.size, 2, none⟩ = some (.int .i64 r.est) ∧ ∀ i, W.frozen? ⟨w.heap.size, i, none⟩ = false :=
  ⟨by rw [cell_of_row _ _ _ _ _ _ h.b0]; rfl, by rw [cell_of_row _ _ _ _ _ _ h.b0]; rfl, by rw [cell_of_row _ _ _ _ _ _ h.b0]; rfl, fun i => frozen_of_row _ _ _ _ _ h.b0⟩
theorem Ents.ret {w W : World} {g1 g2 : Nat} {a b r : Ent} (h : Ents w W g1 g2 a b r) (e : Ent) :
    Below w.heap.size w (((W.setCell ⟨w.heap.size, 0, none⟩ (.string e.name)).setCell ⟨w.heap.size, 1, none⟩ (.int .i64 e.ino)).setCell ⟨w.heap.size, 2, none⟩ (.int .i64 e.est)) ∧
    (((W.setCell ⟨w.heap.size, 0, none⟩ (.string e.name)).setCell ⟨w.heap.size, 1, none⟩ (.int .i64 e.ino)).setCell ⟨w.heap.size, 2, none⟩ (.int .i64 e.est)).heap[w.heap.size]? = some (.cells (entC e) 37) :=
  ⟨((h.below.setCell (by simp) _).setCell (by simp) _).setCell (by simp) _, heap_setCell_same _ _ _ _ _ _ (heap_setCell_same _ _ _ _ _ _ (heap_setCell_same _ _ _ _ _ _ h.b0))⟩
set_option maxHeartbeats 2000000 in
theorem entry_same (b c : Nat) (m k : Img) (d s : Nat) (hd : d < 3) (hs : s < 4) (w : World) (hm : HasImg w b m) (hk : HasImg w c k) (h : Img.sameEnt m k d s = true) :
    Calls Tryz.prog 126 #[.pointer (some ⟨b, 0, none⟩), .pointer (some ⟨c, 0, none⟩), .int .i64 d, .int .i64 s] w fun e w' => e = .returned (entV (Img.entryAs m k d s)) ∧ Below w.heap.size w w' := by
  have E := hide (show Img.entryAs m k d s = k.entry d s by unfold Img.entryAs; rw [if_pos h])
  have hlb := hm.lt
  have hlc := hk.lt
  have q := eqEnt (m.name d s) (m.ino d s) (m.est d s) (k.name d s) (k.ino d s) (k.est d s)
  rw [show ((m.name d s).toList == (k.name d s).toList && m.ino d s == k.ino d s && m.est d s == k.est d s) = _ from h] at q
  clear h
  have hA := hide (Ents.ab w (m.entry d s) (k.entry d s))
  have hB := hide (Ents.ba w (m.entry d s) (k.entry d s))
  have hb1 : Below w.heap.size w (w.alloc (.cells (entC Ent.none) 37)) := (Below.refl _ _).alloc (Nat.le_refl _) _
  have hm1 := hm.below hb1 hlb
  have hk1 := hk.below hb1 hlc
  clear hb1
  simp only [entC, Ent.none, Img.entry] at hA hB hm1 hk1
  go_enter Tryz.func126, Tryz.ntmps126
  go_wp2_with fail
  have n1 := hm1.name d s hd hs
  have i1 := hm1.ino d s hd hs
  have s1 := hm1.est d s hd hs
  have n2 := hk1.name d s hd hs
  have i2 := hk1.ino d s hd hs
  have s2 := hk1.est d s hd hs
  have hlb1 := hm1.lt
  have hlc1 := hk1.lt
  generalize w.alloc (.cells #[.string ⟨#[]⟩, .int .i64 0, .int .i64 0] 37) = W at *
  go_region
  all_goals
    clear n1 i1 s1 n2 i2 s2 hlb1 hlc1 hm1 hk1
    first
      | (clear hB; generalize (((W.alloc (.cells #[.string (m.name d s), .int .i64 (m.ino d s), .int .i64 (m.est d s)] 37)).alloc (.cells #[.string (k.name d s), .int .i64 (k.ino d s), .int .i64 (k.est d s)] 37)).drew) = X at hA ⊢; generalize W.heap.size + 1 = g2 at hA ⊢; generalize W.heap.size = g1 at hA ⊢; clear W)
      | (clear hA; have hA := hB; clear hB; generalize (((W.alloc (.cells #[.string (k.name d s), .int .i64 (k.ino d s), .int .i64 (k.est d s)] 37)).alloc (.cells #[.string (m.name d s), .int .i64 (m.ino d s), .int .i64 (m.est d s)] 37)).drew) = X at hA ⊢; generalize W.heap.size + 1 = g1 at hA ⊢; generalize W.heap.size = g2 at hA ⊢; clear W)
  all_goals
    have hX : Ents w X g1 g2 (m.entry d s) (k.entry d s) Ent.none := unhide hA
    clear hA
    have HX := hide hX
    have hmX := hide (hm.below hX.below hlb)
    have hkX := hide (hk.below hX.below hlc)
    have hszX := hX.below.size
    obtain ⟨c10, c11, c12⟩ := hX.cell1
    obtain ⟨c20, c21, c22⟩ := hX.cell2
    obtain ⟨c00, c01, c02, fz⟩ := hX.cell0
    clear hX
    dsimp only [Img.entry] at c10 c11 c12 c20 c21 c22
    go_wp2_with fail
    have T := (unhide HX).ret (k.entry d s)
    rw [unhide E]
    refine bodyPost_ret (v := entV (k.entry d s)) ?_ rfl ⟨rfl, T.1⟩
    exact results_cell_row (P := Tryz.prog) Tryz.results126 _ _ w.heap.size 37 _ (0, 0) _ rfl T.2 ent_under rfl ent_info
set_option maxHeartbeats 2000000 in
theorem entry_come (b c : Nat) (m k : Img) (d s : Nat) (hd : d < 3) (hs : s < 4) (w : World) (hm : HasImg w b m) (hk : HasImg w c k) (h : Img.sameEnt m k d s = false) (hn : k.named d s = false) :
    Calls Tryz.prog 126 #[.pointer (some ⟨b, 0, none⟩), .pointer (some ⟨c, 0, none⟩), .int .i64 d, .int .i64 s] w fun e w' => e = .returned (entV (Img.entryAs m k d s)) ∧ Below w.heap.size w w' := by
  have E := hide (show Img.entryAs m k d s = if Img.mayCome k (m.ino d s) (m.est d s) = true then m.entry d s else k.entry d s by unfold Img.entryAs; rw [if_neg (by rw [h]; simp), if_pos hn])
  have hE : (k.name d s).toList.isEmpty = true := by simpa [Img.named] using hn
  clear hn
  have hlb := hm.lt
  have hlc := hk.lt
  have q := eqEnt (m.name d s) (m.ino d s) (m.est d s) (k.name d s) (k.ino d s) (k.est d s)
  rw [show ((m.name d s).toList == (k.name d s).toList && m.ino d s == k.ino d s && m.est d s == k.est d s) = _ from h] at q
  clear h
  have hA := hide (Ents.ab w (m.entry d s) (k.entry d s))
  have hB := hide (Ents.ba w (m.entry d s) (k.entry d s))
  have hb1 : Below w.heap.size w (w.alloc (.cells (entC Ent.none) 37)) := (Below.refl _ _).alloc (Nat.le_refl _) _
  have hm1 := hm.below hb1 hlb
  have hk1 := hk.below hb1 hlc
  clear hb1
  simp only [entC, Ent.none, Img.entry] at hA hB hm1 hk1
  go_enter Tryz.func126, Tryz.ntmps126
  go_wp2_with fail
  have n1 := hm1.name d s hd hs
  have i1 := hm1.ino d s hd hs
  have s1 := hm1.est d s hd hs
  have n2 := hk1.name d s hd hs
  have i2 := hk1.ino d s hd hs
  have s2 := hk1.est d s hd hs
  have hlb1 := hm1.lt
  have hlc1 := hk1.lt
  generalize w.alloc (.cells #[.string ⟨#[]⟩, .int .i64 0, .int .i64 0] 37) = W at *
  go_region
  all_goals
    clear n1 i1 s1 n2 i2 s2 hlb1 hlc1 hm1 hk1
    first
      | (clear hB; generalize (((W.alloc (.cells #[.string (m.name d s), .int .i64 (m.ino d s), .int .i64 (m.est d s)] 37)).alloc (.cells #[.string (k.name d s), .int .i64 (k.ino d s), .int .i64 (k.est d s)] 37)).drew) = X at hA ⊢; generalize W.heap.size + 1 = g2 at hA ⊢; generalize W.heap.size = g1 at hA ⊢; clear W)
      | (clear hA; have hA := hB; clear hB; generalize (((W.alloc (.cells #[.string (k.name d s), .int .i64 (k.ino d s), .int .i64 (k.est d s)] 37)).alloc (.cells #[.string (m.name d s), .int .i64 (m.ino d s), .int .i64 (m.est d s)] 37)).drew) = X at hA ⊢; generalize W.heap.size + 1 = g1 at hA ⊢; generalize W.heap.size = g2 at hA ⊢; clear W)
  all_goals
    have hX : Ents w X g1 g2 (m.entry d s) (k.entry d s) Ent.none := unhide hA
    clear hA
    have HX := hide hX
    have hmX := hide (hm.below hX.below hlb)
    have hkX := hide (hk.below hX.below hlc)
    have hszX := hX.below.size
    obtain ⟨c10, c11, c12⟩ := hX.cell1
    obtain ⟨c20, c21, c22⟩ := hX.cell2
    obtain ⟨c00, c01, c02, fz⟩ := hX.cell0
    clear hX
    dsimp only [Img.entry] at c10 c11 c12 c20 c21 c22
    go_wp2_with fail
    refine (mayCome_any g1 c 0 k (m.ino d s) (m.est d s) _ (unhide hkX) c11 c12).mono ?_
    rintro e w1 ⟨rfl, qd, rfl⟩
    cases hc : Img.mayCome k (m.ino d s) (m.est d s)
    · go_wp2_with fail
      have T := ((unhide HX).draw qd).ret (k.entry d s)
      rw [unhide E, hc, if_neg (by simp)]
      refine bodyPost_ret (v := entV (k.entry d s)) ?_ rfl ⟨rfl, T.1⟩
      exact results_cell_row (P := Tryz.prog) Tryz.results126 _ _ w.heap.size 37 _ (0, 0) _ rfl T.2 ent_under rfl ent_info
    · go_wp2_with fail
      have T := ((unhide HX).draw qd).ret (m.entry d s)
      rw [unhide E, hc, if_pos rfl]
      refine bodyPost_ret (v := entV (m.entry d s)) ?_ rfl ⟨rfl, T.1⟩
      exact results_cell_row (P := Tryz.prog) Tryz.results126 _ _ w.heap.size 37 _ (0, 0) _ rfl T.2 ent_under rfl ent_info
set_option maxHeartbeats 2000000 in
theorem entry_go (b c : Nat) (m k : Img) (d s : Nat) (hd : d < 3) (hs : s < 4) (w : World) (hm : HasImg w b m) (hk : HasImg w c k) (h : Img.sameEnt m k d s = false) (hn : k.named d s = true) :
    Calls Tryz.prog 126 #[.pointer (some ⟨b, 0, none⟩), .pointer (some ⟨c, 0, none⟩), .int .i64 d, .int .i64 s] w fun e w' => e = .returned (entV (Img.entryAs m k d s)) ∧ Below w.heap.size w w' := by
  have E := hide (show Img.entryAs m k d s = if Img.mayGo m k (k.ino d s) = true then Ent.none else k.entry d s by unfold Img.entryAs; rw [if_neg (by rw [h]; simp), if_neg (by rw [hn]; simp)])
  have hE : (k.name d s).toList.isEmpty = false := by simpa [Img.named] using hn
  clear hn
  have hlb := hm.lt
  have hlc := hk.lt
  have q := eqEnt (m.name d s) (m.ino d s) (m.est d s) (k.name d s) (k.ino d s) (k.est d s)
  rw [show ((m.name d s).toList == (k.name d s).toList && m.ino d s == k.ino d s && m.est d s == k.est d s) = _ from h] at q
  clear h
  have hA := hide (Ents.ab w (m.entry d s) (k.entry d s))
  have hB := hide (Ents.ba w (m.entry d s) (k.entry d s))
  have hb1 : Below w.heap.size w (w.alloc (.cells (entC Ent.none) 37)) := (Below.refl _ _).alloc (Nat.le_refl _) _
  have hm1 := hm.below hb1 hlb
  have hk1 := hk.below hb1 hlc
  clear hb1
  simp only [entC, Ent.none, Img.entry] at hA hB hm1 hk1
  go_enter Tryz.func126, Tryz.ntmps126
  go_wp2_with fail
  have n1 := hm1.name d s hd hs
  have i1 := hm1.ino d s hd hs
  have s1 := hm1.est d s hd hs
  have n2 := hk1.name d s hd hs
  have i2 := hk1.ino d s hd hs
  have s2 := hk1.est d s hd hs
  have hlb1 := hm1.lt
  have hlc1 := hk1.lt
  generalize w.alloc (.cells #[.string ⟨#[]⟩, .int .i64 0, .int .i64 0] 37) = W at *
  go_region
  all_goals
    clear n1 i1 s1 n2 i2 s2 hlb1 hlc1 hm1 hk1
    first
      | (clear hB; generalize (((W.alloc (.cells #[.string (m.name d s), .int .i64 (m.ino d s), .int .i64 (m.est d s)] 37)).alloc (.cells #[.string (k.name d s), .int .i64 (k.ino d s), .int .i64 (k.est d s)] 37)).drew) = X at hA ⊢; generalize W.heap.size + 1 = g2 at hA ⊢; generalize W.heap.size = g1 at hA ⊢; clear W)
      | (clear hA; have hA := hB; clear hB; generalize (((W.alloc (.cells #[.string (k.name d s), .int .i64 (k.ino d s), .int .i64 (k.est d s)] 37)).alloc (.cells #[.string (m.name d s), .int .i64 (m.ino d s), .int .i64 (m.est d s)] 37)).drew) = X at hA ⊢; generalize W.heap.size + 1 = g1 at hA ⊢; generalize W.heap.size = g2 at hA ⊢; clear W)
  all_goals
    have hX : Ents w X g1 g2 (m.entry d s) (k.entry d s) Ent.none := unhide hA
    clear hA
    have HX := hide hX
    have hmX := hide (hm.below hX.below hlb)
    have hkX := hide (hk.below hX.below hlc)
    have hszX := hX.below.size
    obtain ⟨c10, c11, c12⟩ := hX.cell1
    obtain ⟨c20, c21, c22⟩ := hX.cell2
    obtain ⟨c00, c01, c02, fz⟩ := hX.cell0
    clear hX
    dsimp only [Img.entry] at c10 c11 c12 c20 c21 c22
    go_wp2_with fail
    refine (mayGo_any b c m k _ _ (unhide hmX) (unhide hkX)).mono ?_
    rintro e w1 ⟨rfl, e1⟩
    rw [e1]
    clear e1 w1
    cases hc : Img.mayGo m k (k.ino d s)
    · go_wp2_with fail
      have T := (unhide HX).ret (k.entry d s)
      rw [unhide E, hc, if_neg (by simp)]
      refine bodyPost_ret (v := entV (k.entry d s)) ?_ rfl ⟨rfl, T.1⟩
      exact results_cell_row (P := Tryz.prog) Tryz.results126 _ _ w.heap.size 37 _ (0, 0) _ rfl T.2 ent_under rfl ent_info
    · go_wp2_with fail
      have T := (unhide HX).ret Ent.none
      rw [unhide E, hc, if_pos rfl]
      refine bodyPost_ret (v := entV Ent.none) ?_ rfl ⟨rfl, T.1⟩
      exact results_cell_row (P := Tryz.prog) Tryz.results126 _ _ w.heap.size 37 _ (0, 0) _ rfl T.2 ent_under rfl ent_info
theorem entry_of (b c : Nat) (m k : Img) (d s : Nat) (hd : d < 3) (hs : s < 4) (w : World) (hm : HasImg w b m) (hk : HasImg w c k) :
    Calls Tryz.prog 126 #[.pointer (some ⟨b, 0, none⟩), .pointer (some ⟨c, 0, none⟩), .int .i64 d, .int .i64 s] w fun e w' => e = .returned (entV (Img.entryAs m k d s)) ∧ Below w.heap.size w w' := by
  cases h : Img.sameEnt m k d s
  · cases hn : k.named d s
    · exact entry_come b c m k d s hd hs w hm hk h hn
    · exact entry_go b c m k d s hd hs w hm hk h hn
  · exact entry_same b c m k d s hd hs w hm hk h
end Go.Proofs.YtmbpckmpnnmnmacGreat
