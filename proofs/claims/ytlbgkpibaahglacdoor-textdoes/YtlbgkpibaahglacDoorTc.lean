/-
  The walk of safe.Inode.
-/
import Derived.Test.YtlbgkpibaahglacDoorTb
namespace Go.Proofs.YtlbgkpibaahglacDoor
open Go.RowKit
def inoV (i : Ino) : Value := .agg #[.bool i.live, .int .i64 i.stamp, .int .i64 i.links, .int .i64 i.p0, .int .i64 i.p1]
def entV (e : Ent) : Value := .agg #[.string e.name, .int .i64 e.ino, .int .i64 e.est]
structure TwoT (t0 t1 : TypeId) (w wr : World) (g : Nat) (c0 c1 : Array Value) : Prop where
  below : Below w.heap.size w wr
  gt : w.heap.size < g
  size : g < wr.heap.size
  b0 : wr.heap[w.heap.size]? = some (.cells c0 t0)
  b1 : wr.heap[g]? = some (.cells c1 t1)
section
variable {t0 t1 : TypeId} {w wr w1 : World} {g : Nat} {c0 c1 : Array Value}
theorem TwoT.start (w : World) (t0 t1 : TypeId) (c0 c1 : Array Value) : TwoT t0 t1 w ((w.alloc (.cells c0 t0)).alloc (.cells c1 t1)) (w.heap.size + 1) c0 c1 :=
  ⟨((Below.refl _ _).alloc (Nat.le_refl _) _).alloc (by simp) _, by simp, by simp, heap_alloc2_old _ _ _, heap_alloc2_new _ _ _⟩
theorem TwoT.call (h : TwoT t0 t1 w wr g c0 c1) (hb : Below wr.heap.size wr w1) : TwoT t0 t1 w w1 g c0 c1 :=
  have := h.size
  have := h.gt
  have := hb.size
  ⟨h.below.trans (hb.mono (by omega)), h.gt, by omega, by rw [hb.block _ (by omega)]; exact h.b0, by rw [hb.block _ (by omega)]; exact h.b1⟩
theorem TwoT.draw (h : TwoT t0 t1 w wr g c0 c1) (q : Nat) : TwoT t0 t1 w (wr.drewN q) g c0 c1 := h.call (belowN (Below.refl _ _))
theorem TwoT.set (h : TwoT t0 t1 w wr g c0 c1) (i : Nat) (v : Value) : TwoT t0 t1 w (wr.setCell ⟨g, i, none⟩ v) g c0 (c1.setIfInBounds i v) :=
  have := h.gt
  ⟨h.below.setCell (by simp; omega) _, h.gt, by simpa using h.size, by rw [heap_setCell_other _ _ _ _ (by simp; omega)]; exact h.b0, heap_setCell_same _ _ _ _ _ _ h.b1⟩
theorem TwoT.res (h : TwoT t0 t1 w wr g c0 c1) (i : Nat) (v : Value) : TwoT t0 t1 w (wr.setCell ⟨w.heap.size, i, none⟩ v) g (c0.setIfInBounds i v) c1 :=
  have := h.gt
  ⟨h.below.setCell (by simp) _, h.gt, by simpa using h.size, heap_setCell_same _ _ _ _ _ _ h.b0, by rw [heap_setCell_other _ _ _ _ (by simp; omega)]; exact h.b1⟩
end
theorem ino_under : Tryd.prog.underlying 24 = some (.struct (Tryd.prog.fieldsOf 24)) := by kernel_rfl
theorem ino_info : (Tryd.prog.info? 24).map (·.size) = some 5 := by kernel_rfl
theorem ent_under : Tryd.prog.underlying 27 = some (.struct (Tryd.prog.fieldsOf 27)) := by kernel_rfl
theorem ent_info : (Tryd.prog.info? 27).map (·.size) = some 3 := by kernel_rfl
def ino0 : Array Value := #[.bool false, .int .i64 0, .int .i64 0, .int .i64 0, .int .i64 0]
theorem TwoT.ret5 {t1 : TypeId} {w wr : World} {g : Nat} {c1 : Array Value} (h : TwoT 24 t1 w wr g ino0 c1) (v0 v1 v2 v3 v4 : Value) :
    TwoT 24 t1 w (((((wr.setCell ⟨w.heap.size, 0, none⟩ v0).setCell ⟨w.heap.size, 1, none⟩ v1).setCell ⟨w.heap.size, 2, none⟩ v2).setCell ⟨w.heap.size, 3, none⟩ v3).setCell ⟨w.heap.size, 4, none⟩ v4) g #[v0, v1, v2, v3, v4] c1 :=
  ((((h.res 0 v0).res 1 v1).res 2 v2).res 3 v3).res 4 v4
end Go.Proofs.YtlbgkpibaahglacDoor
