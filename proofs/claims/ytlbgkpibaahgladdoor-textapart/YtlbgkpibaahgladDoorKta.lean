/-
  The walks of safe.isInode, isData, leads, Union, Block.
-/
import Derived.Test.YtlbgkpibaahgladDoorQWm
import Derived.Test.YtlbgkpibaahgladDoorSi
import Derived.RegionTactic
import Derived.BigRegion
import Derived.ChangeAlike
namespace Go.Proofs.YtlbgkpibaahgladDoor
open Go.RowKit
/-- the kind of a block, as it is told -/
def kindS (b : Int) : ByteArray := if Img.inB b = false then ⟨#[]⟩ else if b < 2 then ⟨#[105, 110, 111, 100, 101, 115]⟩ else if b < 5 then ⟨#[100, 105, 114]⟩ else ⟨#[100, 97, 116, 97]⟩
def kindN (b : Int) : Int := if Img.inB b = false then 0 else if b < 2 then b * 4 else if b < 5 then b - 2 else b - 5
theorem kind_out {b : Int} (h : Img.inB b = false) : kindS b = ⟨#[]⟩ ∧ kindN b = 0 := ⟨if_pos h, if_pos h⟩
theorem kind_ino {k : Nat} (h : k < 2) : kindS (k : Int) = ⟨#[105, 110, 111, 100, 101, 115]⟩ ∧ kindN (k : Int) = k * 4 := by
  have e : Img.inB (k : Int) = true := by simp [Img.inB]; omega
  unfold kindS kindN
  rw [e, if_neg (by simp), if_pos (by omega), if_neg (by simp), if_pos (by omega)]; exact ⟨rfl, rfl⟩
theorem kind_dir {d : Nat} (h : d < 3) : kindS ((d + 2 : Nat) : Int) = ⟨#[100, 105, 114]⟩ ∧ kindN ((d + 2 : Nat) : Int) = (d : Nat) := by
  have e : Img.inB ((d + 2 : Nat) : Int) = true := by simp [Img.inB]; omega
  unfold kindS kindN
  rw [e, if_neg (by simp), if_neg (by omega), if_pos (by omega), if_neg (by simp), if_neg (by omega), if_pos (by omega)]; exact ⟨rfl, by omega⟩
theorem kind_data {x : Nat} (h : x < 9) : kindS ((x + 5 : Nat) : Int) = ⟨#[100, 97, 116, 97]⟩ ∧ kindN ((x + 5 : Nat) : Int) = (x : Nat) := by
  have e : Img.inB ((x + 5 : Nat) : Int) = true := by simp [Img.inB]; omega
  unfold kindS kindN
  rw [e, if_neg (by simp), if_neg (by omega), if_neg (by omega), if_neg (by simp), if_neg (by omega), if_neg (by omega)]; exact ⟨rfl, by omega⟩
end Go.Proofs.YtlbgkpibaahgladDoor
namespace Go.Proofs.YtlbgkpibaahgladDoor
open Go.RowKit
theorem drewNs {w : World} {a b : Nat} : (w.drewN a).drewN b = w.drewN (a + b) := drewNN w a b
theorem drewN3 {w : World} {a b c : Nat} : ((w.drewN a).drewN b).drewN c = w.drewN (a + (b + c)) := by rw [drewNN, drewNN]
theorem quiet_same2 {P : Program} {f : FuncId} {args : Array Value} {w : World} {a n : Nat} {v : Value}
    (h : Calls P f args (w.drewN (a + n)) fun e w' => e = .returned v ∧ w' = w.drewN (a + n)) : Calls P f args (w.drewN (a + n)) fun e w'' => e = .returned v ∧ ∃ m, w'' = w.drewN (a + m) :=
  h.mono fun _ _ ⟨he, hm⟩ => ⟨he, n, hm⟩
end Go.Proofs.YtlbgkpibaahgladDoor
namespace Go.Proofs.YtlbgkpibaahgladDoor
open Go.RowKit
def inoV (i : Ino) : Value := .agg #[.bool i.live, .int .i64 i.stamp, .int .i64 i.links, .int .i64 i.p0, .int .i64 i.p1]
def entV (e : Ent) : Value := .agg #[.string e.name, .int .i64 e.ino, .int .i64 e.est]
structure TwoT (t0 t1 : TypeId) (w wr : World) (g : Nat) (c0 c1 : Array Value) : Prop where
  below : Below w.heap.size w wr
  gt : w.heap.size < g
  size : g < wr.heap.size
  b0 : wr.heap[w.heap.size]? = some (.cells c0 t0)
  b1 : wr.heap[g]? = some (.cells c1 t1)
section
variable {t0 t1 : TypeId} {w wr w1 : World} {g : Nat} {c0 c1 : Array Value}
theorem TwoT.start (w : World) (t0 t1 : TypeId) (c0 c1 : Array Value) : TwoT t0 t1 w ((w.alloc (.cells c0 t0)).alloc (.cells c1 t1)) (w.heap.size + 1) c0 c1 :=
  ⟨((Below.refl _ _).alloc (Nat.le_refl _) _).alloc (by simp) _, by simp, by simp, heap_alloc2_old _ _ _, heap_alloc2_new _ _ _⟩
theorem TwoT.call (h : TwoT t0 t1 w wr g c0 c1) (hb : Below wr.heap.size wr w1) : TwoT t0 t1 w w1 g c0 c1 :=
  have := h.size
  have := h.gt
  have := hb.size
  ⟨h.below.trans (hb.mono (by omega)), h.gt, by omega, by rw [hb.block _ (by omega)]; exact h.b0, by rw [hb.block _ (by omega)]; exact h.b1⟩
theorem TwoT.draw (h : TwoT t0 t1 w wr g c0 c1) (q : Nat) : TwoT t0 t1 w (wr.drewN q) g c0 c1 := h.call (belowN (Below.refl _ _))
theorem TwoT.set (h : TwoT t0 t1 w wr g c0 c1) (i : Nat) (v : Value) : TwoT t0 t1 w (wr.setCell ⟨g, i, none⟩ v) g c0 (c1.setIfInBounds i v) :=
  have := h.gt
  ⟨h.below.setCell (by simp; omega) _, h.gt, by simpa using h.size, by rw [heap_setCell_other _ _ _ _ (by simp; omega)]; exact h.b0, heap_setCell_same _ _ _ _ _ _ h.b1⟩
theorem TwoT.res (h : TwoT t0 t1 w wr g c0 c1) (i : Nat) (v : Value) : TwoT t0 t1 w (wr.setCell ⟨w.heap.size, i, none⟩ v) g (c0.setIfInBounds i v) c1 :=
  have := h.gt
  ⟨h.below.setCell (by simp) _, h.gt, by simpa using h.size, heap_setCell_same _ _ _ _ _ _ h.b0, by rw [heap_setCell_other _ _ _ _ (by simp; omega)]; exact h.b1⟩
end
theorem ino_under : Tryd.prog.underlying 24 = some (.struct (Tryd.prog.fieldsOf 24)) := by kernel_rfl
theorem ino_info : (Tryd.prog.info? 24).map (·.size) = some 5 := by kernel_rfl
theorem ent_under : Tryd.prog.underlying 27 = some (.struct (Tryd.prog.fieldsOf 27)) := by kernel_rfl
theorem ent_info : (Tryd.prog.info? 27).map (·.size) = some 3 := by kernel_rfl
def ino0 : Array Value := #[.bool false, .int .i64 0, .int .i64 0, .int .i64 0, .int .i64 0]
theorem TwoT.ret5 {t1 : TypeId} {w wr : World} {g : Nat} {c1 : Array Value} (h : TwoT 24 t1 w wr g ino0 c1) (v0 v1 v2 v3 v4 : Value) :
    TwoT 24 t1 w (((((wr.setCell ⟨w.heap.size, 0, none⟩ v0).setCell ⟨w.heap.size, 1, none⟩ v1).setCell ⟨w.heap.size, 2, none⟩ v2).setCell ⟨w.heap.size, 3, none⟩ v3).setCell ⟨w.heap.size, 4, none⟩ v4) g #[v0, v1, v2, v3, v4] c1 :=
  ((((h.res 0 v0).res 1 v1).res 2 v2).res 3 v3).res 4 v4
end Go.Proofs.YtlbgkpibaahgladDoor
namespace Go.Proofs.YtlbgkpibaahgladDoor
open Go.RowKit
theorem eqEnt (na : ByteArray) (ia sa : Int) (nb : ByteArray) (ib sb : Int) (w : World) : (binOp .eql 27 (.agg #[.string na, .int .i64 ia, .int .i64 sa]) (.agg #[.string nb, .int .i64 ib, .int .i64 sb])).run Tryd.prog w = .ok (.bool (na.toList == nb.toList && ia == ib && sa == sb)) w := by
  have u1 := Tryd.underlying3
  have u2 := Tryd.underlying9
  go_simp
  cases h1 : na.toList == nb.toList <;> cases h2 : ia == ib <;> cases h3 : sa == sb <;> simp_all
theorem neqEnt (na : ByteArray) (ia sa : Int) (nb : ByteArray) (ib sb : Int) (w : World) : (binOp .neq 27 (.agg #[.string na, .int .i64 ia, .int .i64 sa]) (.agg #[.string nb, .int .i64 ib, .int .i64 sb])).run Tryd.prog w = .ok (.bool (!(na.toList == nb.toList && ia == ib && sa == sb))) w := by
  have u1 := Tryd.underlying3
  have u2 := Tryd.underlying9
  go_simp
  cases h1 : na.toList == nb.toList <;> cases h2 : ia == ib <;> cases h3 : sa == sb <;> simp_all
def entC (e : Ent) : Array Value := #[.string e.name, .int .i64 e.ino, .int .i64 e.est]
/-- the slots of both, and the answer's, in boxes -/
structure Ents (w W : World) (g1 g2 : Nat) (a b r : Ent) : Prop where
  below : Below w.heap.size w W
  b0 : W.heap[w.heap.size]? = some (.cells (entC r) 27)
  b1 : W.heap[g1]? = some (.cells (entC a) 27)
  b2 : W.heap[g2]? = some (.cells (entC b) 27)
  gt1 : w.heap.size < g1
  gt2 : w.heap.size < g2
theorem Ents.ab (w : World) (a b : Ent) : Ents w (((w.alloc (.cells (entC Ent.none) 27)).alloc (.cells (entC a) 27)).alloc (.cells (entC b) 27)).drew (w.alloc (.cells (entC Ent.none) 27)).heap.size ((w.alloc (.cells (entC Ent.none) 27)).heap.size + 1) a b Ent.none := by
  refine ⟨((((Below.refl _ _).alloc (Nat.le_refl _) _).alloc (by simp) _).alloc (by simp; omega) _).drew, ?_, ?_, ?_, by simp, by simp; omega⟩
  · show ((w.alloc _).alloc _ |>.alloc _).heap[w.heap.size]? = _
    rw [Below.heap_alloc _ _ _ (by simp; omega), Below.heap_alloc _ _ _ (by simp)]; exact heap_alloc_last _ _
  · show ((w.alloc _).alloc _ |>.alloc _).heap[_]? = _
    rw [Below.heap_alloc _ _ _ (by simp)]; exact heap_alloc_last _ _
  · show ((w.alloc _).alloc _ |>.alloc _).heap[_]? = _
    have := heap_alloc_last ((w.alloc (.cells (entC Ent.none) 27)).alloc (.cells (entC a) 27)) (.cells (entC b) 27)
    simpa using this
theorem Ents.ba (w : World) (a b : Ent) : Ents w (((w.alloc (.cells (entC Ent.none) 27)).alloc (.cells (entC b) 27)).alloc (.cells (entC a) 27)).drew ((w.alloc (.cells (entC Ent.none) 27)).heap.size + 1) (w.alloc (.cells (entC Ent.none) 27)).heap.size a b Ent.none :=
  have h := Ents.ab w b a
  ⟨h.below, h.b0, h.b2, h.b1, h.gt2, h.gt1⟩
theorem Ents.call {w W W1 : World} {g1 g2 : Nat} {a b r : Ent} (h : Ents w W g1 g2 a b r) (hb : Below W.heap.size W W1) : Ents w W1 g1 g2 a b r :=
  have l1 := (Array.getElem?_eq_some_iff.1 h.b1).1
  have l2 := (Array.getElem?_eq_some_iff.1 h.b2).1
  have l0 := (Array.getElem?_eq_some_iff.1 h.b0).1
  ⟨h.below.trans (hb.mono h.below.size), by rw [hb.block _ l0]; exact h.b0, by rw [hb.block _ l1]; exact h.b1, by rw [hb.block _ l2]; exact h.b2, h.gt1, h.gt2⟩
theorem Ents.draw {w W : World} {g1 g2 : Nat} {a b r : Ent} (h : Ents w W g1 g2 a b r) (q : Nat) : Ents w (W.drewN q) g1 g2 a b r := h.call (belowN (Below.refl _ _))
theorem Ents.cell1 {w W : World} {g1 g2 : Nat} {a b r : Ent} (h : Ents w W g1 g2 a b r) : W.cell? ⟨g1, 0, none⟩ = some (.string a.name) ∧ W.cell? ⟨g1, 1, none⟩ = some (.int .i64 a.ino) ∧ W.cell? ⟨g1, 2, none⟩ = some (.int .i64 a.est) :=
  ⟨by rw [cell_of_row _ _ _ _ _ _ h.b1]; rfl, by rw [cell_of_row _ _ _ _ _ _ h.b1]; rfl, by rw [cell_of_row _ _ _ _ _ _ h.b1]; rfl⟩
theorem Ents.cell2 {w W : World} {g1 g2 : Nat} {a b r : Ent} (h : Ents w W g1 g2 a b r) : W.cell? ⟨g2, 0, none⟩ = some (.string b.name) ∧ W.cell? ⟨g2, 1, none⟩ = some (.int .i64 b.ino) ∧ W.cell? ⟨g2, 2, none⟩ = some (.int .i64 b.est) :=
  ⟨by rw [cell_of_row _ _ _ _ _ _ h.b2]; rfl, by rw [cell_of_row _ _ _ _ _ _ h.b2]; rfl, by rw [cell_of_row _ _ _ _ _ _ h.b2]; rfl⟩
theorem Ents.cell0 {w W : World} {g1 g2 : Nat} {a b r : Ent} (h : Ents w W g1 g2 a b r) : W.cell? ⟨w.heap.size, 0, none⟩ = some (.string r.name) ∧ W.cell? ⟨w.heap.size, 1, none⟩ = some (.int .i64 r.ino) ∧ W.cell? ⟨w.heap.size, 2, none⟩ = some (.int .i64 r.est) ∧ ∀ i, W.frozen? ⟨w.heap.size, i, none⟩ = false :=
  ⟨by rw [cell_of_row _ _ _ _ _ _ h.b0]; rfl, by rw [cell_of_row _ _ _ _ _ _ h.b0]; rfl, by rw [cell_of_row _ _ _ _ _ _ h.b0]; rfl, fun i => frozen_of_row _ _ _ _ _ h.b0⟩
theorem Ents.ret {w W : World} {g1 g2 : Nat} {a b r : Ent} (h : Ents w W g1 g2 a b r) (e : Ent) :
    Below w.heap.size w (((W.setCell ⟨w.heap.size, 0, none⟩ (.string e.name)).setCell ⟨w.heap.size, 1, none⟩ (.int .i64 e.ino)).setCell ⟨w.heap.size, 2, none⟩ (.int .i64 e.est)) ∧
    (((W.setCell ⟨w.heap.size, 0, none⟩ (.string e.name)).setCell ⟨w.heap.size, 1, none⟩ (.int .i64 e.ino)).setCell ⟨w.heap.size, 2, none⟩ (.int .i64 e.est)).heap[w.heap.size]? = some (.cells (entC e) 27) :=
  ⟨((h.below.setCell (by simp) _).setCell (by simp) _).setCell (by simp) _, heap_setCell_same _ _ _ _ _ _ (heap_setCell_same _ _ _ _ _ _ (heap_setCell_same _ _ _ _ _ _ h.b0))⟩
end Go.Proofs.YtlbgkpibaahgladDoor
namespace Go.Proofs.YtlbgkpibaahgladDoor
open Go.RowKit
theorem set5_get {cs : Array Value} {o : Nat} {v0 v1 v2 v3 v4 : Value} (h : o + 5 ≤ cs.size) (j : Nat) :
    (((((cs.setIfInBounds o v0).setIfInBounds (o + 1) v1).setIfInBounds (o + 2) v2).setIfInBounds (o + 3) v3).setIfInBounds (o + 4) v4)[j]? =
      if j = o then some v0 else if j = o + 1 then some v1 else if j = o + 2 then some v2 else if j = o + 3 then some v3 else if j = o + 4 then some v4 else cs[j]? := by
  simp only [Array.getElem?_setIfInBounds, Array.size_setIfInBounds]
  repeat' split
  all_goals first | rfl | omega
theorem set3_get {cs : Array Value} {o : Nat} {v0 v1 v2 : Value} (h : o + 3 ≤ cs.size) (j : Nat) :
    (((cs.setIfInBounds o v0).setIfInBounds (o + 1) v1).setIfInBounds (o + 2) v2)[j]? =
      if j = o then some v0 else if j = o + 1 then some v1 else if j = o + 2 then some v2 else cs[j]? := by
  simp only [Array.getElem?_setIfInBounds, Array.size_setIfInBounds]
  repeat' split
  all_goals first | rfl | omega
theorem set2_get {cs : Array Value} {o : Nat} {v0 v1 : Value} (h : o + 2 ≤ cs.size) (j : Nat) :
    ((cs.setIfInBounds o v0).setIfInBounds (o + 1) v1)[j]? = if j = o then some v0 else if j = o + 1 then some v1 else cs[j]? := by
  simp only [Array.getElem?_setIfInBounds, Array.size_setIfInBounds]
  repeat' split
  all_goals first | rfl | omega
def put5v (cs : Array Value) (n : Nat) (i : Ino) : Array Value := ((((cs.setIfInBounds (n * 5) (.bool i.live)).setIfInBounds (n * 5 + 1) (.int .i64 i.stamp)).setIfInBounds (n * 5 + 2) (.int .i64 i.links)).setIfInBounds (n * 5 + 3) (.int .i64 i.p0)).setIfInBounds (n * 5 + 4) (.int .i64 i.p1)
def put3v (cs : Array Value) (d s : Nat) (e : Ent) : Array Value := ((cs.setIfInBounds (40 + d * 12 + s * 3) (.string e.name)).setIfInBounds (40 + d * 12 + s * 3 + 1) (.int .i64 e.ino)).setIfInBounds (40 + d * 12 + s * 3 + 2) (.int .i64 e.est)
def put2v (cs : Array Value) (x : Nat) (o : Int) (t : ByteArray) : Array Value := (cs.setIfInBounds (76 + x * 2) (.int .i64 o)).setIfInBounds (76 + x * 2 + 1) (.string t)
theorem IsImg.putIno {cs : Array Value} {m : Img} (h : IsImg cs m) {n : Nat} (hn : n < 8) (i : Ino) : IsImg (put5v cs n i) (m.putIno n i) := by
  have hs := h.size
  have g := fun j => set5_get (cs := cs) (o := n * 5) (v0 := .bool i.live) (v1 := .int .i64 i.stamp) (v2 := .int .i64 i.links) (v3 := .int .i64 i.p0) (v4 := .int .i64 i.p1) (by omega) j
  unfold put5v
  refine ⟨by simp [hs], fun k hk => ?_, fun k hk => ?_, fun k hk => ?_, fun k p hk hp => ?_, fun d s h1 h2 => ?_, fun d s h1 h2 => ?_, fun d s h1 h2 => ?_, fun x h1 => ?_, fun x h1 => ?_, h.small, h.short⟩
  · rw [g]
    by_cases e : k = n
    · subst e; rw [if_pos rfl]; simp [Img.putIno]
    · rw [if_neg (by omega), if_neg (by omega), if_neg (by omega), if_neg (by omega), if_neg (by omega), h.live k hk]; simp [Img.putIno, e]
  · rw [g]
    by_cases e : k = n
    · subst e; rw [if_neg (by omega), if_pos rfl]; simp [Img.putIno]
    · rw [if_neg (by omega), if_neg (by omega), if_neg (by omega), if_neg (by omega), if_neg (by omega), h.stamp k hk]; simp [Img.putIno, e]
  · rw [g]
    by_cases e : k = n
    · subst e; rw [if_neg (by omega), if_neg (by omega), if_pos rfl]; simp [Img.putIno]
    · rw [if_neg (by omega), if_neg (by omega), if_neg (by omega), if_neg (by omega), if_neg (by omega), h.links k hk]; simp [Img.putIno, e]
  · rw [g]
    by_cases e : k = n
    · subst e
      match p, hp with
      | 0, _ => rw [if_neg (by omega), if_neg (by omega), if_neg (by omega), if_pos rfl]; simp [Img.putIno]
      | 1, _ => rw [if_neg (by omega), if_neg (by omega), if_neg (by omega), if_neg (by omega), if_pos rfl]; simp [Img.putIno]
    · rw [if_neg (by omega), if_neg (by omega), if_neg (by omega), if_neg (by omega), if_neg (by omega), h.part k p hk hp]; simp [Img.putIno, e]
  · rw [g, if_neg (by omega), if_neg (by omega), if_neg (by omega), if_neg (by omega), if_neg (by omega)]; exact h.name d s h1 h2
  · rw [g, if_neg (by omega), if_neg (by omega), if_neg (by omega), if_neg (by omega), if_neg (by omega)]; exact h.ino d s h1 h2
  · rw [g, if_neg (by omega), if_neg (by omega), if_neg (by omega), if_neg (by omega), if_neg (by omega)]; exact h.est d s h1 h2
  · rw [g, if_neg (by omega), if_neg (by omega), if_neg (by omega), if_neg (by omega), if_neg (by omega)]; exact h.of x h1
  · rw [g, if_neg (by omega), if_neg (by omega), if_neg (by omega), if_neg (by omega), if_neg (by omega)]; exact h.text x h1
theorem IsImg.putEnt {cs : Array Value} {m : Img} (h : IsImg cs m) {d s : Nat} (hd : d < 3) (hs : s < 4) (e : Ent) (he : e.name.size ≤ maxLen) : IsImg (put3v cs d s e) (m.putEnt d s e) := by
  have hz := h.size
  have g := fun j => set3_get (cs := cs) (o := 40 + d * 12 + s * 3) (v0 := .string e.name) (v1 := .int .i64 e.ino) (v2 := .int .i64 e.est) (by omega) j
  unfold put3v
  refine ⟨by simp [hz], fun k hk => ?_, fun k hk => ?_, fun k hk => ?_, fun k p hk hp => ?_, fun d' s' h1 h2 => ?_, fun d' s' h1 h2 => ?_, fun d' s' h1 h2 => ?_, fun x h1 => ?_, fun x h1 => ?_, fun d' s' => ?_, h.short⟩
  · rw [g, if_neg (by omega), if_neg (by omega), if_neg (by omega)]; exact h.live k hk
  · rw [g, if_neg (by omega), if_neg (by omega), if_neg (by omega)]; exact h.stamp k hk
  · rw [g, if_neg (by omega), if_neg (by omega), if_neg (by omega)]; exact h.links k hk
  · rw [g, if_neg (by omega), if_neg (by omega), if_neg (by omega)]; exact h.part k p hk hp
  · rw [g]
    by_cases c : d' = d ∧ s' = s
    · obtain ⟨rfl, rfl⟩ := c; rw [if_pos rfl]; simp [Img.putEnt]
    · rw [if_neg (by omega), if_neg (by omega), if_neg (by omega), h.name d' s' h1 h2]; simp [Img.putEnt, c]
  · rw [g]
    by_cases c : d' = d ∧ s' = s
    · obtain ⟨rfl, rfl⟩ := c; rw [if_neg (by omega), if_pos rfl]; simp [Img.putEnt]
    · rw [if_neg (by omega), if_neg (by omega), if_neg (by omega), h.ino d' s' h1 h2]; simp [Img.putEnt, c]
  · rw [g]
    by_cases c : d' = d ∧ s' = s
    · obtain ⟨rfl, rfl⟩ := c; rw [if_neg (by omega), if_neg (by omega), if_pos rfl]; simp [Img.putEnt]
    · rw [if_neg (by omega), if_neg (by omega), if_neg (by omega), h.est d' s' h1 h2]; simp [Img.putEnt, c]
  · rw [g, if_neg (by omega), if_neg (by omega), if_neg (by omega)]; exact h.of x h1
  · rw [g, if_neg (by omega), if_neg (by omega), if_neg (by omega)]; exact h.text x h1
  · show (if d' = d ∧ s' = s then e.name else m.name d' s').size ≤ maxLen
    split
    · exact he
    · exact h.small d' s'
theorem IsImg.putData {cs : Array Value} {m : Img} (h : IsImg cs m) {x : Nat} (hx : x < 9) (o : Int) (t : ByteArray) (ht : t.size ≤ maxLen) : IsImg (put2v cs x o t) (m.putData x o t) := by
  have hz := h.size
  have g := fun j => set2_get (cs := cs) (o := 76 + x * 2) (v0 := .int .i64 o) (v1 := .string t) (by omega) j
  unfold put2v
  refine ⟨by simp [hz], fun k hk => ?_, fun k hk => ?_, fun k hk => ?_, fun k p hk hp => ?_, fun d' s' h1 h2 => ?_, fun d' s' h1 h2 => ?_, fun d' s' h1 h2 => ?_, fun y h1 => ?_, fun y h1 => ?_, h.small, fun y => ?_⟩
  · rw [g, if_neg (by omega), if_neg (by omega)]; exact h.live k hk
  · rw [g, if_neg (by omega), if_neg (by omega)]; exact h.stamp k hk
  · rw [g, if_neg (by omega), if_neg (by omega)]; exact h.links k hk
  · rw [g, if_neg (by omega), if_neg (by omega)]; exact h.part k p hk hp
  · rw [g, if_neg (by omega), if_neg (by omega)]; exact h.name d' s' h1 h2
  · rw [g, if_neg (by omega), if_neg (by omega)]; exact h.ino d' s' h1 h2
  · rw [g, if_neg (by omega), if_neg (by omega)]; exact h.est d' s' h1 h2
  · rw [g]
    by_cases c : y = x
    · subst c; rw [if_pos rfl]; simp [Img.putData]
    · rw [if_neg (by omega), if_neg (by omega), h.of y h1]; simp [Img.putData, c]
  · rw [g]
    by_cases c : y = x
    · subst c; rw [if_neg (by omega), if_pos rfl]; simp [Img.putData]
    · rw [if_neg (by omega), if_neg (by omega), h.text y h1]; simp [Img.putData, c]
  · show (if y = x then t else m.text y).size ≤ maxLen
    split
    · exact ht
    · exact h.short y
/-- every cell is one -/
theorem IsImg.cell_at {cs : Array Value} {m : Img} (h : IsImg cs m) (i : Nat) (hi : i < 94) : (∃ b, cs[i]? = some (.bool b)) ∨ (∃ n, cs[i]? = some (.int .i64 n)) ∨ ∃ s, cs[i]? = some (.string s) := by
  by_cases h1 : i < 40
  · have e : i = i / 5 * 5 + i % 5 := by omega
    rcases (show i % 5 = 0 ∨ i % 5 = 1 ∨ i % 5 = 2 ∨ i % 5 = 3 ∨ i % 5 = 4 by omega) with r | r | r | r | r <;> rw [e, r]
    · exact .inl ⟨_, h.live (i / 5) (by omega)⟩
    · exact .inr (.inl ⟨_, h.stamp (i / 5) (by omega)⟩)
    · exact .inr (.inl ⟨_, h.links (i / 5) (by omega)⟩)
    · exact .inr (.inl ⟨_, h.part (i / 5) 0 (by omega) (by omega)⟩)
    · exact .inr (.inl ⟨_, h.part (i / 5) 1 (by omega) (by omega)⟩)
  · by_cases h2 : i < 76
    · have e : i = 40 + (i - 40) / 12 * 12 + (i - 40) % 12 / 3 * 3 + (i - 40) % 3 := by omega
      rcases (show (i - 40) % 3 = 0 ∨ (i - 40) % 3 = 1 ∨ (i - 40) % 3 = 2 by omega) with r | r | r <;> rw [e, r]
      · exact .inr (.inr ⟨_, h.name ((i - 40) / 12) ((i - 40) % 12 / 3) (by omega) (by omega)⟩)
      · exact .inr (.inl ⟨_, h.ino ((i - 40) / 12) ((i - 40) % 12 / 3) (by omega) (by omega)⟩)
      · exact .inr (.inl ⟨_, h.est ((i - 40) / 12) ((i - 40) % 12 / 3) (by omega) (by omega)⟩)
    · have e : i = 76 + (i - 76) / 2 * 2 + (i - 76) % 2 := by omega
      rcases (show (i - 76) % 2 = 0 ∨ (i - 76) % 2 = 1 by omega) with r | r <;> rw [e, r]
      · exact .inr (.inl ⟨_, h.of ((i - 76) / 2) (by omega)⟩)
      · exact .inr (.inr ⟨_, h.text ((i - 76) / 2) (by omega)⟩)
theorem IsImg.all {cs : Array Value} {m : Img} (h : IsImg cs m) : cs.all (·.oneCell') = true := by
  rw [Array.all_eq_true]
  intro i hi
  have hg : cs[i]? = some cs[i] := by simp [hi]
  rcases h.cell_at i (by rw [h.size] at hi; exact hi) with ⟨b, e⟩ | ⟨b, e⟩ | ⟨b, e⟩
  all_goals
    rw [hg] at e
    rw [Option.some.inj e]; rfl
theorem IsImg.agree {cs ds : Array Value} {m k : Img} (h : IsImg cs m) (h' : IsImg ds k) (a : Img.Agree m k) : cs = ds := by
  refine Array.ext_getElem? fun i => ?_
  by_cases hi : i < 94
  · by_cases h1 : i < 40
    · have e : i = i / 5 * 5 + i % 5 := by omega
      have hn : i / 5 < 8 := by omega
      rcases (show i % 5 = 0 ∨ i % 5 = 1 ∨ i % 5 = 2 ∨ i % 5 = 3 ∨ i % 5 = 4 by omega) with r | r | r | r | r <;> rw [e, r]
      · exact (h.live _ hn).trans (by rw [a.live _ hn]; exact (h'.live _ hn).symm)
      · exact (h.stamp _ hn).trans (by rw [a.stamp _ hn]; exact (h'.stamp _ hn).symm)
      · exact (h.links _ hn).trans (by rw [a.links _ hn]; exact (h'.links _ hn).symm)
      · exact (h.part _ 0 hn (by omega)).trans (by rw [a.part _ _ hn (by omega)]; exact (h'.part _ 0 hn (by omega)).symm)
      · exact (h.part _ 1 hn (by omega)).trans (by rw [a.part _ _ hn (by omega)]; exact (h'.part _ 1 hn (by omega)).symm)
    · by_cases h2 : i < 76
      · have e : i = 40 + (i - 40) / 12 * 12 + (i - 40) % 12 / 3 * 3 + (i - 40) % 3 := by omega
        have hd : (i - 40) / 12 < 3 := by omega
        have hs : (i - 40) % 12 / 3 < 4 := by omega
        rcases (show (i - 40) % 3 = 0 ∨ (i - 40) % 3 = 1 ∨ (i - 40) % 3 = 2 by omega) with r | r | r <;> rw [e, r]
        · exact (h.name _ _ hd hs).trans (by rw [a.name _ _ hd hs]; exact (h'.name _ _ hd hs).symm)
        · exact (h.ino _ _ hd hs).trans (by rw [a.ino _ _ hd hs]; exact (h'.ino _ _ hd hs).symm)
        · exact (h.est _ _ hd hs).trans (by rw [a.est _ _ hd hs]; exact (h'.est _ _ hd hs).symm)
      · have e : i = 76 + (i - 76) / 2 * 2 + (i - 76) % 2 := by omega
        have hx : (i - 76) / 2 < 9 := by omega
        rcases (show (i - 76) % 2 = 0 ∨ (i - 76) % 2 = 1 by omega) with r | r <;> rw [e, r]
        · exact (h.of _ hx).trans (by rw [a.of _ hx]; exact (h'.of _ hx).symm)
        · exact (h.text _ hx).trans (by rw [a.text _ hx]; exact (h'.text _ hx).symm)
  · rw [Array.getElem?_eq_none (by rw [h.size]; omega), Array.getElem?_eq_none (by rw [h'.size]; omega)]
end Go.Proofs.YtlbgkpibaahgladDoor
