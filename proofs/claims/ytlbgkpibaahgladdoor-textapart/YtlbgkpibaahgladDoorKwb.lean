/-
  The walks of image.Check and image.Exact.
-/
import Derived.Test.YtlbgkpibaahgladDoorKwa
import Derived.Deep.WholeRow
namespace Go.Proofs.YtlbgkpibaahgladDoor
open Go.RowKit
def slotsAt (m : Img) (d : Nat) : Int := Img.firstNZ (fun s => m.checkSlot d s) 4
theorem check_slots {m : Img} {d s : Nat} (hd : d < 3) (hs : s < 4) (h1 : ∀ j, j < d → slotsAt m j = 0) (h2 : ∀ j, j < s → m.checkSlot d j = 0) (h : m.checkSlot d s ≠ 0) : m.check = m.checkSlot d s := by
  have e1 : slotsAt m d = m.checkSlot d s := Img.firstNZ_at (f := fun s => m.checkSlot d s) h h2 hs
  have e2 : Img.firstNZ (slotsAt m) 3 = slotsAt m d := Img.firstNZ_at (by rw [e1]; exact h) h1 hd
  have e3 : Img.firstNZ (fun d => Img.firstNZ (fun s => m.checkSlot d s) 4) 3 = m.checkSlot d s := e2.trans e1
  unfold Img.check
  rw [e3, if_pos h]
theorem check_inodes {m : Img} {n : Nat} (hn : n < 8) (h1 : ∀ j, j < 3 → slotsAt m j = 0) (h2 : ∀ j, j < n → m.checkInode j = 0) (h : m.checkInode n ≠ 0) : m.check = m.checkInode n := by
  have e3 : Img.firstNZ (fun d => Img.firstNZ (fun s => m.checkSlot d s) 4) 3 = 0 := Img.firstNZ_zero (f := slotsAt m) h1
  have e4 : Img.firstNZ (fun n => m.checkInode n) 8 = m.checkInode n := Img.firstNZ_at (f := fun n => m.checkInode n) h h2 hn
  unfold Img.check
  rw [e3, if_neg (by simp), e4, if_pos h]
theorem check_end {m : Img} (h1 : ∀ j, j < 3 → slotsAt m j = 0) (h2 : ∀ j, j < 8 → m.checkInode j = 0) : m.check = if m.stampTwice || m.dataTwice then 11 else 0 := by
  have e3 : Img.firstNZ (fun d => Img.firstNZ (fun s => m.checkSlot d s) 4) 3 = 0 := Img.firstNZ_zero (f := slotsAt m) h1
  have e4 : Img.firstNZ (fun n => m.checkInode n) 8 = 0 := Img.firstNZ_zero (f := fun n => m.checkInode n) h2
  unfold Img.check
  rw [e3, if_neg (by simp), e4, if_neg (by simp)]
end Go.Proofs.YtlbgkpibaahgladDoor
namespace Go.Proofs.YtlbgkpibaahgladDoor
open Go.RowKit
def inexact (m : Img) (n : Nat) : Bool := m.live n && (decide (m.links n < 1) || !(m.links n == (m.refs n : Int)))
end Go.Proofs.YtlbgkpibaahgladDoor
namespace Go.Proofs.YtlbgkpibaahgladDoor
open Go.RowKit
structure IsImg (cs : Array Value) (m : Img) : Prop where
  size : cs.size = 94
  live : ∀ n : Nat, n < 8 → cs[n * 5]? = some (.bool (m.live n))
  stamp : ∀ n : Nat, n < 8 → cs[n * 5 + 1]? = some (.int .i64 (m.stamp n))
  links : ∀ n : Nat, n < 8 → cs[n * 5 + 2]? = some (.int .i64 (m.links n))
  part : ∀ n p : Nat, n < 8 → p < 2 → cs[n * 5 + 3 + p]? = some (.int .i64 (m.part n p))
  name : ∀ d s : Nat, d < 3 → s < 4 → cs[40 + d * 12 + s * 3]? = some (.string (m.name d s))
  ino : ∀ d s : Nat, d < 3 → s < 4 → cs[40 + d * 12 + s * 3 + 1]? = some (.int .i64 (m.ino d s))
  est : ∀ d s : Nat, d < 3 → s < 4 → cs[40 + d * 12 + s * 3 + 2]? = some (.int .i64 (m.est d s))
  of : ∀ x : Nat, x < 9 → cs[76 + x * 2]? = some (.int .i64 (m.of x))
  text : ∀ x : Nat, x < 9 → cs[76 + x * 2 + 1]? = some (.string (m.text x))
  small : ∀ d s : Nat, (m.name d s).size ≤ maxLen
  short : ∀ x : Nat, (m.text x).size ≤ maxLen
theorem IsImg.has {cs : Array Value} {m : Img} (h : IsImg cs m) (w : World) (t : TypeId) : HasImg (w.alloc (.cells cs t)) w.heap.size m := by
  have hc : ∀ i, (w.alloc (.cells cs t)).cell? ⟨w.heap.size, i, none⟩ = cs[i]? := fun i => World.cell?_alloc_new w cs t i
  exact ⟨by simp, fun n h1 => by rw [hc]; exact h.live n h1, fun n h1 => by rw [hc]; exact h.stamp n h1, fun n h1 => by rw [hc]; exact h.links n h1,
    fun n p h1 h2 => by rw [hc]; exact h.part n p h1 h2, fun d s h1 h2 => by rw [hc]; exact h.name d s h1 h2, fun d s h1 h2 => by rw [hc]; exact h.ino d s h1 h2,
    fun d s h1 h2 => by rw [hc]; exact h.est d s h1 h2, fun x h1 => by rw [hc]; exact h.of x h1, fun x h1 => by rw [hc]; exact h.text x h1, h.small, h.short⟩
def SomeBool (e : Ending) : Prop := ∃ v, e = .returned (.bool v)
set_option maxHeartbeats 1000000 in
theorem great_any (cs : Array Value) (m : Img) (hc : IsImg cs m) (w : World) :
    Calls Tryd.prog 5 #[.agg cs] w fun e w' => SomeBool e ∧ Below w.heap.size w w' := by
  have hm := hc.has w 34
  have hn := hm.name
  have ht := hm.text
  have hsm := hm.small
  have hsh := hm.short
  unfold maxLen at hsm hsh
  go_enter Tryd.func5, Tryd.ntmps5
  go_wp2
  go_loop [3, 4] (fun c i => ∃ (d : Nat) (v : Int), d ≤ 3 ∧ i = .int .i64 d ∧ c = .int .i64 v ∧ 0 ≤ v ∧ v ≤ 40000 * d) (fun _ i => 3 - (intOf i).toNat)
  case atStart => exact ⟨0, 0, by omega, rfl, rfl, by omega, by omega⟩
  case round =>
    obtain ⟨d, v, hd, rfl, rfl, hv0, hv1⟩ := hrel
    by_cases hlt : d < 3
    · have hd3 : decide ((d : Int) < 3) = true := by simp; omega
      go_wp2
      go_loop [3, 5] (fun c i => ∃ (s : Nat) (v : Int), s ≤ 4 ∧ i = .int .i64 s ∧ c = .int .i64 v ∧ 0 ≤ v ∧ v ≤ 40000 * d + 10000 * s) (fun _ i => 4 - (intOf i).toNat)
      case atStart => exact ⟨0, v, by omega, rfl, rfl, by omega, by omega⟩
      case round =>
        clear hv0 hv1
        obtain ⟨s, v, hs, rfl, rfl, hv0, hv1⟩ := hrel
        have hsz := hsm d s
        by_cases hls : s < 4
        · go_wp2
          refine ⟨⟨s + 1, v + if 10000 < ((m.name d s).size : Int) then 10000 else ((m.name d s).size : Int), by omega, by go_num, rfl, ?_, ?_⟩, by simp [intOf]; omega⟩ <;> split <;> omega
        · have e : s = 4 := by omega
          subst e
          go_wp2
          go_round
          case rel => exact ⟨d + 1, v, by omega, by go_num, rfl, by omega, by omega⟩
          case measure => simp [intOf]; omega
    · have hd3 : decide ((d : Int) < 3) = false := by simp; omega
      have hd12 : v ≤ 120000 := by omega
      clear hv1
      go_wp2
      go_loop [3, 6] (fun c i => ∃ (x : Nat) (v : Int), x ≤ 9 ∧ i = .int .i64 x ∧ c = .int .i64 v ∧ 0 ≤ v ∧ v ≤ 120000 + 10000 * x) (fun _ i => 9 - (intOf i).toNat)
      case atStart => exact ⟨0, v, by omega, rfl, rfl, by omega, by omega⟩
      case round =>
        clear hv0 hd12
        obtain ⟨x, v, hx, rfl, rfl, hv0, hv1⟩ := hrel
        have hsz := hsh x
        by_cases hlx : x < 9
        · go_wp2
          refine ⟨⟨x + 1, v + if 10000 < ((m.text x).size : Int) then 10000 else ((m.text x).size : Int), by omega, by go_num, rfl, ?_, ?_⟩, by simp [intOf]; omega⟩ <;> split <;> omega
        · go_wp2
          go_ret
          exact ⟨⟨_, rfl⟩, (Below.refl _ _).alloc (Nat.le_refl _) _⟩
end Go.Proofs.YtlbgkpibaahgladDoor
namespace Go.Proofs.YtlbgkpibaahgladDoor
open Go.RowKit
set_option maxHeartbeats 400000 in
theorem none_any (w : World) :
    Calls Tryd.prog 13 #[] w fun e w' => e = .returned (.agg #[.bool false, .int .i64 0, .int .i64 0, .int .i64 (-1), .int .i64 (-1)]) ∧ Below w.heap.size w w' := by
  go_enter Tryd.func13, Tryd.ntmps13
  go_wp2
  refine wp_loop_rounds 3 ?_
  rw [rounds_succ]; go_wp2
  rw [rounds_succ]; go_wp2
  rw [rounds_succ]; go_wp2
  exact bodyPost_ret (v := .agg #[.bool false, .int .i64 0, .int .i64 0, .int .i64 (-1), .int .i64 (-1)]) (by simp [results, Tryd.results13, go_sem]) rfl ⟨rfl, ((Below.refl _ _).alloc (Nat.le_refl _) _).alloc (by simp) _⟩
def inodeZ : List Value := [.bool false, .int .i64 0, .int .i64 0, .int .i64 0, .int .i64 0]
def entryZ : List Value := [.string ⟨#[]⟩, .int .i64 0, .int .i64 0]
def dataZ : List Value := [.int .i64 0, .string ⟨#[]⟩]
def times (n : Nat) (l : List Value) : List Value := match n with
  | 0 => []
  | n + 1 => l ++ times n l
def zeroCells : Array Value := (times 8 inodeZ ++ times 12 entryZ ++ times 9 dataZ).toArray
def put5 (cs : Array Value) (n : Nat) : Array Value := ((((cs.setIfInBounds (n * 5) (.bool false)).setIfInBounds (n * 5 + 1) (.int .i64 0)).setIfInBounds (n * 5 + 1 + 1) (.int .i64 0)).setIfInBounds (n * 5 + 1 + 1 + 1) (.int .i64 (-1))).setIfInBounds (n * 5 + 1 + 1 + 1 + 1) (.int .i64 (-1))
def newTo : Nat → Array Value
  | 0 => zeroCells
  | n + 1 => put5 (newTo n) n
def blankCells : Array Value := newTo 8
theorem size_newTo : ∀ n, (newTo n).size = 94
  | 0 => by decide +kernel
  | n + 1 => by simp [newTo, put5, size_newTo n]
theorem zero_img : (∀ w, (zeroValue 34).run Tryd.prog w = .ok (.agg zeroCells) w) ∧ (Tryd.prog.info? 34).map (·.size) = some 94 := zero_of_info (by kernel_rfl)
structure Two (w wr : World) (g : Nat) (c0 c1 : Array Value) : Prop where
  below : Below w.heap.size w wr
  gt : w.heap.size < g
  size : g < wr.heap.size
  b0 : wr.heap[w.heap.size]? = some (.cells c0 34)
  b1 : wr.heap[g]? = some (.cells c1 34)
theorem Two.start (w : World) (c0 c1 : Array Value) : Two w ((w.alloc (.cells c0 34)).alloc (.cells c1 34)) (w.heap.size + 1) c0 c1 :=
  ⟨((Below.refl _ _).alloc (Nat.le_refl _) _).alloc (by simp) _, by simp, by simp, heap_alloc2_old _ _ _, heap_alloc2_new _ _ _⟩
theorem Two.call {w wr w1 : World} {g : Nat} {c0 c1 : Array Value} (h : Two w wr g c0 c1) (hb : Below wr.heap.size wr w1) : Two w w1 g c0 c1 :=
  have := h.size
  have := h.gt
  have := hb.size
  ⟨h.below.trans (hb.mono (by omega)), h.gt, by omega, by rw [hb.block _ (by omega)]; exact h.b0, by rw [hb.block _ (by omega)]; exact h.b1⟩
theorem Two.set {w wr : World} {g : Nat} {c0 c1 : Array Value} (h : Two w wr g c0 c1) (i : Nat) (v : Value) : Two w (wr.setCell ⟨g, i, none⟩ v) g c0 (c1.setIfInBounds i v) :=
  have := h.gt
  ⟨h.below.setCell (by simp; omega) _, h.gt, by simpa using h.size, by rw [heap_setCell_other _ _ _ _ (by simp; omega)]; exact h.b0, heap_setCell_same _ _ _ _ _ _ h.b1⟩
theorem Two.cell {w wr : World} {g : Nat} {c0 c1 : Array Value} (h : Two w wr g c0 c1) {i : Nat} (hi : i < c1.size) : ∃ v, wr.cell? ⟨g, i, none⟩ = some v :=
  ⟨c1[i], by rw [cell_of_row _ _ _ _ _ _ h.b1]; simp [hi]⟩
theorem Two.frozen {w wr : World} {g : Nat} {c0 c1 : Array Value} (h : Two w wr g c0 c1) (i : Nat) : wr.frozen? ⟨g, i, none⟩ = false := frozen_of_row _ _ _ _ _ h.b1
theorem Two.put5 {w wr : World} {g : Nat} {c0 c1 : Array Value} (h : Two w wr g c0 c1) (n : Nat) :
    Two w (((((wr.setCell ⟨g, n * 5, none⟩ (.bool false)).setCell ⟨g, n * 5 + 1, none⟩ (.int .i64 0)).setCell ⟨g, n * 5 + 1 + 1, none⟩ (.int .i64 0)).setCell ⟨g, n * 5 + 1 + 1 + 1, none⟩ (.int .i64 (-1))).setCell ⟨g, n * 5 + 1 + 1 + 1 + 1, none⟩ (.int .i64 (-1))) g c0 (put5 c1 n) :=
  ((((h.set _ _).set _ _).set _ _).set _ _).set _ _
theorem below_setRow {B : Nat} {a w : World} (h : Below B a w) {g : Nat} (hg : B ≤ g) (cs : Array Value) : Below B a (w.setRow g cs) :=
  h.trans ⟨rfl, rfl, rfl, by simp, fun k hk => setRow_other w g k cs (by omega)⟩
theorem Two.row {w wr : World} {g : Nat} {c0 c1 : Array Value} (h : Two w wr g c0 c1) (c : Array Value) : Two w (wr.setRow g c) g c0 c :=
  have := h.gt
  ⟨below_setRow h.below (by omega) _, h.gt, by simpa using h.size, by rw [setRow_other _ _ _ _ (by omega)]; exact h.b0, setRow_heap _ _ _ _ _ _ h.b1⟩
theorem img_under : Tryd.prog.underlying 34 = some (.struct (Tryd.prog.fieldsOf 34)) := by kernel_rfl
theorem new_all : (newTo 8).all (·.oneCell') = true := by kernel_rfl
theorem zero_all : zeroCells.all (·.oneCell') = true := by kernel_rfl
theorem img_info {cs : Array Value} (h : cs.size = 94) : (Tryd.prog.info? 34).map (·.size) = some cs.size := by rw [h]; exact zero_img.2
theorem build_img (w : World) : (Instr.build 34 #[]).run Tryd.prog w = .ok (.agg zeroCells) w := run_build w 34 _ _ (by kernel_rfl)
set_option maxRecDepth 100000 in
set_option maxHeartbeats 400000 in
theorem blank_any (w : World) :
    Calls Tryd.prog 19 #[] w fun e w' => e = .returned (.agg blankCells) ∧ Below w.heap.size w w' := by
  have z := zero_img.1
  have bld := build_img
  have hz0 := img_info (size_newTo 0)
  have ht0 := Two.start w zeroCells zeroCells
  have HT := hide ht0
  clear ht0
  go_enter Tryd.func19, Tryd.ntmps19
  go_wp2_with (refine wpList_store_row rfl 34 _ _ rfl (w.heap.size + 1) zeroCells rfl rfl 34 zeroCells (unhide HT).b1 hz0 rfl zero_all ?_)
  go_loopw [2] (fun i wr => ∃ n : Nat, n ≤ 8 ∧ i = .int .i64 n ∧ Two w wr (w.heap.size + 1) zeroCells (newTo n)) (fun i _ => 8 - (intOf i).toNat)
  case atStart => exact ⟨0, by omega, rfl, (Two.start w zeroCells zeroCells).row _⟩
  case round =>
    obtain ⟨n, hn, rfl, ht⟩ := hrel
    by_cases hlt : n < 8
    · go_wp2_with (go_at_call 13; refine (none_any _).mono ?_; rintro e w1 ⟨rfl, hb1⟩; have ht1 := ht.call hb1; obtain ⟨v0, f0⟩ := ht1.cell (i := n * 5) (by rw [size_newTo]; omega); obtain ⟨v1, f1⟩ := ht1.cell (i := n * 5 + 1) (by rw [size_newTo]; omega); obtain ⟨v2, f2⟩ := ht1.cell (i := n * 5 + 1 + 1) (by rw [size_newTo]; omega); obtain ⟨v3, f3⟩ := ht1.cell (i := n * 5 + 1 + 1 + 1) (by rw [size_newTo]; omega); obtain ⟨v4, f4⟩ := ht1.cell (i := n * 5 + 1 + 1 + 1 + 1) (by rw [size_newTo]; omega); have fz := ht1.frozen)
      go_roundw
      case rel => exact ⟨n + 1, by omega, by go_num, ht1.put5 n⟩
      case measure => simp [intOf]; omega
    · have e : n = 8 := by omega
      subst e
      have hi := img_info (size_newTo 8)
      have hz : zeroCells.size = (newTo 8).size := by rw [size_newTo]; exact size_newTo 0
      go_wp2_with (first | (refine wpList_load_row rfl 34 _ rfl (w.heap.size + 1) rfl 34 (newTo 8) (0, 0) _ ht.b1 img_under rfl hi ?_) | (refine wpList_store_row rfl 34 _ _ rfl w.heap.size (newTo 8) rfl rfl 34 zeroCells ht.b0 hi hz new_all ?_))
      refine bodyPost_ret (v := .agg blankCells) ?_ rfl ⟨rfl, below_setRow ht.below (Nat.le_refl _) _⟩
      exact results_cell_row (P := Tryd.prog) Tryd.results19 _ _ w.heap.size 34 blankCells (0, 0) _ rfl (setRow_heap _ _ _ _ _ _ ht.b0) img_under rfl hi
end Go.Proofs.YtlbgkpibaahgladDoor
