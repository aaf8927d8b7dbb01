/-
  An image is like itself: '==' of whole images, and of inodes.
-/
import Derived.Test.YtmbpckmpnnmnmabGreatQTh
import Derived.ChangeKeysEq
namespace Go.Proofs.YtmbpckmpnnmnmabGreat
open Go.RowKit
section
variable {P : Program}
end
theorem part_inode (xs : Array Value) (off : Nat) (w : World) : (part 24 xs off).run Tryz.prog w = .ok (.agg (xs.extract off (off + 5))) w := by
  have u := run_underlying (w := w) Tryz.underlying24
  simp [part, isAgg, u]
theorem part_entry (xs : Array Value) (off : Nat) (w : World) : (part 27 xs off).run Tryz.prog w = .ok (.agg (xs.extract off (off + 3))) w := by
  have u := run_underlying (w := w) Tryz.underlying27
  simp [part, isAgg, u]
theorem part_data (xs : Array Value) (off : Nat) (w : World) : (part 31 xs off).run Tryz.prog w = .ok (.agg (xs.extract off (off + 2))) w := by
  have u := run_underlying (w := w) Tryz.underlying31
  simp [part, isAgg, u]
theorem part_dir (xs : Array Value) (off : Nat) (w : World) : (part 28 xs off).run Tryz.prog w = .ok (.agg (xs.extract off (off + 12))) w := by
  have u := run_underlying (w := w) Tryz.underlying28
  simp [part, isAgg, u]
theorem part_inodes (xs : Array Value) (off : Nat) (w : World) : (part 25 xs off).run Tryz.prog w = .ok (.agg (xs.extract off (off + 40))) w := by
  have u := run_underlying (w := w) Tryz.underlying25
  simp [part, isAgg, u]
theorem part_dirs (xs : Array Value) (off : Nat) (w : World) : (part 29 xs off).run Tryz.prog w = .ok (.agg (xs.extract off (off + 36))) w := by
  have u := run_underlying (w := w) Tryz.underlying29
  simp [part, isAgg, u]
theorem part_datas (xs : Array Value) (off : Nat) (w : World) : (part 32 xs off).run Tryz.prog w = .ok (.agg (xs.extract off (off + 18))) w := by
  have u := run_underlying (w := w) Tryz.underlying32
  simp [part, isAgg, u]
theorem ext_at {xs : Array Value} {a b j : Nat} {v : Value} (hj : a + j < b) (h : xs[a + j]? = some v) : (xs.extract a b)[j]? = some v := by
  have hs : a + j < xs.size := (Array.getElem?_eq_some_iff.1 h).1
  rw [Array.getElem?_extract, if_pos (by omega)]; exact h
theorem cut5 {xs : Array Value} {o : Nat} {v0 v1 v2 v3 v4 : Value} (h0 : xs[o]? = some v0) (h1 : xs[o + 1]? = some v1) (h2 : xs[o + 2]? = some v2) (h3 : xs[o + 3]? = some v3) (h4 : xs[o + 4]? = some v4) : xs.extract o (o + 5) = #[v0, v1, v2, v3, v4] := by
  have hs : o + 4 < xs.size := (Array.getElem?_eq_some_iff.1 h4).1
  refine Array.ext_getElem? fun j => ?_
  rw [Array.getElem?_extract]
  by_cases hj : j < 5
  · rw [if_pos (by omega)]
    match j, hj with
    | 0, _ => exact h0
    | 1, _ => exact h1
    | 2, _ => exact h2
    | 3, _ => exact h3
    | 4, _ => exact h4
  · rw [if_neg (by omega), Array.getElem?_eq_none (by simp; omega)]
theorem cut3 {xs : Array Value} {o : Nat} {v0 v1 v2 : Value} (h0 : xs[o]? = some v0) (h1 : xs[o + 1]? = some v1) (h2 : xs[o + 2]? = some v2) : xs.extract o (o + 3) = #[v0, v1, v2] := by
  have hs : o + 2 < xs.size := (Array.getElem?_eq_some_iff.1 h2).1
  refine Array.ext_getElem? fun j => ?_
  rw [Array.getElem?_extract]
  by_cases hj : j < 3
  · rw [if_pos (by omega)]
    match j, hj with
    | 0, _ => exact h0
    | 1, _ => exact h1
    | 2, _ => exact h2
  · rw [if_neg (by omega), Array.getElem?_eq_none (by simp; omega)]
theorem cut2 {xs : Array Value} {o : Nat} {v0 v1 : Value} (h0 : xs[o]? = some v0) (h1 : xs[o + 1]? = some v1) : xs.extract o (o + 2) = #[v0, v1] := by
  have hs : o + 1 < xs.size := (Array.getElem?_eq_some_iff.1 h1).1
  refine Array.ext_getElem? fun j => ?_
  rw [Array.getElem?_extract]
  by_cases hj : j < 2
  · rw [if_pos (by omega)]
    match j, hj with
    | 0, _ => exact h0
    | 1, _ => exact h1
  · rw [if_neg (by omega), Array.getElem?_eq_none (by simp; omega)]
theorem cells_ino : Tryz.prog.cellsOf 24 = 5 := by kernel_rfl
theorem cells_ent : Tryz.prog.cellsOf 27 = 3 := by kernel_rfl
theorem cells_dat : Tryz.prog.cellsOf 31 = 2 := by kernel_rfl
theorem cells_dir : Tryz.prog.cellsOf 28 = 12 := by kernel_rfl
theorem info_ino : ∃ i, Tryz.prog.info? 24 = some i := info_of_underlying Tryz.underlying24
theorem info_ent : ∃ i, Tryz.prog.info? 27 = some i := info_of_underlying Tryz.underlying27
theorem info_dat : ∃ i, Tryz.prog.info? 31 = some i := info_of_underlying Tryz.underlying31
theorem info_dir : ∃ i, Tryz.prog.info? 28 = some i := info_of_underlying Tryz.underlying28
variable {cs : Array Value} {m : Img}
def fieldT (f : Field) : Bool × TypeId × Nat := (f.name != "_", f.type, f.offset)
theorem img_fields : (Tryz.prog.fieldsOf 34).toList.map fieldT = [(true, 25, 0), (true, 29, 40), (true, 32, 76)] := by kernel_rfl
theorem img_stood : Tryz.prog.stoodInHeld 34 = false := by kernel_rfl
end Go.Proofs.YtmbpckmpnnmnmabGreat
