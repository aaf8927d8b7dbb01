/-
  The walks of eiderdownref.None, image.New, eiderdownref.Blank.
-/
import Derived.Test.YtlbgkpibaahglacDoorWi
namespace Go.Proofs.YtlbgkpibaahglacDoor
open Go.RowKit
set_option maxHeartbeats 400000 in
theorem none_any (w : World) :
    Calls Tryd.prog 28 #[] w fun e w' => e = .returned (.agg #[.bool false, .int .i64 0, .int .i64 0, .int .i64 (-1), .int .i64 (-1)]) ∧ Below w.heap.size w w' := by
  go_enter Tryd.func28, Tryd.ntmps28
  go_wp2
  refine wp_loop_rounds 3 ?_
  rw [rounds_succ]; go_wp2
  rw [rounds_succ]; go_wp2
  rw [rounds_succ]; go_wp2
  exact bodyPost_ret (v := .agg #[.bool false, .int .i64 0, .int .i64 0, .int .i64 (-1), .int .i64 (-1)]) (by simp [results, Tryd.results28, go_sem]) rfl ⟨rfl, ((Below.refl _ _).alloc (Nat.le_refl _) _).alloc (by simp) _⟩
def inodeZ : List Value := [.bool false, .int .i64 0, .int .i64 0, .int .i64 0, .int .i64 0]
def entryZ : List Value := [.string ⟨#[]⟩, .int .i64 0, .int .i64 0]
def dataZ : List Value := [.int .i64 0, .string ⟨#[]⟩]
def times (n : Nat) (l : List Value) : List Value := match n with
  | 0 => []
  | n + 1 => l ++ times n l
def zeroCells : Array Value := (times 8 inodeZ ++ times 12 entryZ ++ times 9 dataZ).toArray
def put5 (cs : Array Value) (n : Nat) : Array Value := ((((cs.setIfInBounds (n * 5) (.bool false)).setIfInBounds (n * 5 + 1) (.int .i64 0)).setIfInBounds (n * 5 + 1 + 1) (.int .i64 0)).setIfInBounds (n * 5 + 1 + 1 + 1) (.int .i64 (-1))).setIfInBounds (n * 5 + 1 + 1 + 1 + 1) (.int .i64 (-1))
def newTo : Nat → Array Value
  | 0 => zeroCells
  | n + 1 => put5 (newTo n) n
def blankCells : Array Value := newTo 8
theorem size_newTo : ∀ n, (newTo n).size = 94
  | 0 => by decide +kernel
  | n + 1 => by simp [newTo, put5, size_newTo n]
theorem zero_img : (∀ w, (zeroValue 34).run Tryd.prog w = .ok (.agg zeroCells) w) ∧ (Tryd.prog.info? 34).map (·.size) = some 94 := zero_of_info (by kernel_rfl)
structure Two (w wr : World) (g : Nat) (c0 c1 : Array Value) : Prop where
  below : Below w.heap.size w wr
  gt : w.heap.size < g
  size : g < wr.heap.size
  b0 : wr.heap[w.heap.size]? = some (.cells c0 34)
  b1 : wr.heap[g]? = some (.cells c1 34)
theorem Two.start (w : World) (c0 c1 : Array Value) : Two w ((w.alloc (.cells c0 34)).alloc (.cells c1 34)) (w.heap.size + 1) c0 c1 :=
  ⟨((Below.refl _ _).alloc (Nat.le_refl _) _).alloc (by simp) _, by simp, by simp, heap_alloc2_old _ _ _, heap_alloc2_new _ _ _⟩
theorem Two.call {w wr w1 : World} {g : Nat} {c0 c1 : Array Value} (h : Two w wr g c0 c1) (hb : Below wr.heap.size wr w1) : Two w w1 g c0 c1 :=
  have := h.size
  have := h.gt
  have := hb.size
  ⟨h.below.trans (hb.mono (by omega)), h.gt, by omega, by rw [hb.block _ (by omega)]; exact h.b0, by rw [hb.block _ (by omega)]; exact h.b1⟩
theorem Two.set {w wr : World} {g : Nat} {c0 c1 : Array Value} (h : Two w wr g c0 c1) (i : Nat) (v : Value) : Two w (wr.setCell ⟨g, i, none⟩ v) g c0 (c1.setIfInBounds i v) :=
  have := h.gt
  ⟨h.below.setCell (by simp; omega) _, h.gt, by simpa using h.size, by rw [heap_setCell_other _ _ _ _ (by simp; omega)]; exact h.b0, heap_setCell_same _ _ _ _ _ _ h.b1⟩
theorem Two.cell {w wr : World} {g : Nat} {c0 c1 : Array Value} (h : Two w wr g c0 c1) {i : Nat} (hi : i < c1.size) : ∃ v, wr.cell? ⟨g, i, none⟩ = some v :=
  ⟨c1[i], by rw [cell_of_row _ _ _ _ _ _ h.b1]; simp [hi]⟩
theorem Two.frozen {w wr : World} {g : Nat} {c0 c1 : Array Value} (h : Two w wr g c0 c1) (i : Nat) : wr.frozen? ⟨g, i, none⟩ = false := frozen_of_row _ _ _ _ _ h.b1
theorem Two.put5 {w wr : World} {g : Nat} {c0 c1 : Array Value} (h : Two w wr g c0 c1) (n : Nat) :
    Two w (((((wr.setCell ⟨g, n * 5, none⟩ (.bool false)).setCell ⟨g, n * 5 + 1, none⟩ (.int .i64 0)).setCell ⟨g, n * 5 + 1 + 1, none⟩ (.int .i64 0)).setCell ⟨g, n * 5 + 1 + 1 + 1, none⟩ (.int .i64 (-1))).setCell ⟨g, n * 5 + 1 + 1 + 1 + 1, none⟩ (.int .i64 (-1))) g c0 (put5 c1 n) :=
  ((((h.set _ _).set _ _).set _ _).set _ _).set _ _
theorem below_setRow {B : Nat} {a w : World} (h : Below B a w) {g : Nat} (hg : B ≤ g) (cs : Array Value) : Below B a (w.setRow g cs) :=
  h.trans ⟨rfl, rfl, rfl, by simp, fun k hk => setRow_other w g k cs (by omega)⟩
theorem Two.row {w wr : World} {g : Nat} {c0 c1 : Array Value} (h : Two w wr g c0 c1) (c : Array Value) : Two w (wr.setRow g c) g c0 c :=
  have := h.gt
  ⟨below_setRow h.below (by omega) _, h.gt, by simpa using h.size, by rw [setRow_other _ _ _ _ (by omega)]; exact h.b0, setRow_heap _ _ _ _ _ _ h.b1⟩
theorem img_under : Tryd.prog.underlying 34 = some (.struct (Tryd.prog.fieldsOf 34)) := by kernel_rfl
theorem new_all : (newTo 8).all (·.oneCell') = true := by kernel_rfl
theorem zero_all : zeroCells.all (·.oneCell') = true := by kernel_rfl
theorem img_info {cs : Array Value} (h : cs.size = 94) : (Tryd.prog.info? 34).map (·.size) = some cs.size := by rw [h]; exact zero_img.2
theorem build_img (w : World) : (Instr.build 34 #[]).run Tryd.prog w = .ok (.agg zeroCells) w := run_build w 34 _ _ (by kernel_rfl)
set_option maxRecDepth 100000 in
set_option maxHeartbeats 400000 in
theorem blank_any (w : World) :
    Calls Tryd.prog 22 #[] w fun e w' => e = .returned (.agg blankCells) ∧ Below w.heap.size w w' := by
  have z := zero_img.1
  have bld := build_img
  have hz0 := img_info (size_newTo 0)
  have ht0 := Two.start w zeroCells zeroCells
  have HT := hide ht0
  clear ht0
  go_enter Tryd.func22, Tryd.ntmps22
  go_wp2_with (refine wpList_store_row rfl 34 _ _ rfl (w.heap.size + 1) zeroCells rfl rfl 34 zeroCells (unhide HT).b1 hz0 rfl zero_all ?_)
  go_loopw [2] (fun i wr => ∃ n : Nat, n ≤ 8 ∧ i = .int .i64 n ∧ Two w wr (w.heap.size + 1) zeroCells (newTo n)) (fun i _ => 8 - (intOf i).toNat)
  case atStart => exact ⟨0, by omega, rfl, (Two.start w zeroCells zeroCells).row _⟩
  case round =>
    obtain ⟨n, hn, rfl, ht⟩ := hrel
    by_cases hlt : n < 8
    · go_wp2_with (go_at_call 28; refine (none_any _).mono ?_; rintro e w1 ⟨rfl, hb1⟩; have ht1 := ht.call hb1; obtain ⟨v0, f0⟩ := ht1.cell (i := n * 5) (by rw [size_newTo]; omega); obtain ⟨v1, f1⟩ := ht1.cell (i := n * 5 + 1) (by rw [size_newTo]; omega); obtain ⟨v2, f2⟩ := ht1.cell (i := n * 5 + 1 + 1) (by rw [size_newTo]; omega); obtain ⟨v3, f3⟩ := ht1.cell (i := n * 5 + 1 + 1 + 1) (by rw [size_newTo]; omega); obtain ⟨v4, f4⟩ := ht1.cell (i := n * 5 + 1 + 1 + 1 + 1) (by rw [size_newTo]; omega); have fz := ht1.frozen)
      go_roundw
      case rel => exact ⟨n + 1, by omega, by go_num, ht1.put5 n⟩
      case measure => simp [intOf]; omega
    · have e : n = 8 := by omega
      subst e
      have hi := img_info (size_newTo 8)
      have hz : zeroCells.size = (newTo 8).size := by rw [size_newTo]; exact size_newTo 0
      go_wp2_with (first | (refine wpList_load_row rfl 34 _ rfl (w.heap.size + 1) rfl 34 (newTo 8) (0, 0) _ ht.b1 img_under rfl hi ?_) | (refine wpList_store_row rfl 34 _ _ rfl w.heap.size (newTo 8) rfl rfl 34 zeroCells ht.b0 hi hz new_all ?_))
      refine bodyPost_ret (v := .agg blankCells) ?_ rfl ⟨rfl, below_setRow ht.below (Nat.le_refl _) _⟩
      exact results_cell_row (P := Tryd.prog) Tryd.results22 _ _ w.heap.size 34 blankCells (0, 0) _ rfl (setRow_heap _ _ _ _ _ _ ht.b0) img_under rfl hi
end Go.Proofs.YtlbgkpibaahglacDoor
