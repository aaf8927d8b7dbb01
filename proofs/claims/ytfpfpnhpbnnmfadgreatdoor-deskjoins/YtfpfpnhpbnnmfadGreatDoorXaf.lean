/-
  The walks of image.Check and image.Exact.
-/
import Derived.Test.YtfpfpnhpbnnmfadGreatDoorXae
import Derived.Deep.WholeRow
import Derived.Test.YtfpfpnhpbnnmfadGreatDoorXac
namespace Go.Proofs.YtfpfpnhpbnnmfadGreatDoor
open Go.RowKit
def slotsAt (m : Img) (d : Nat) : Int := Img.firstNZ (fun s => m.checkSlot d s) 4
theorem check_slots {m : Img} {d s : Nat} (hd : d < 3) (hs : s < 4) (h1 : ∀ j, j < d → slotsAt m j = 0) (h2 : ∀ j, j < s → m.checkSlot d j = 0) (h : m.checkSlot d s ≠ 0) : m.check = m.checkSlot d s := by
  have e1 : slotsAt m d = m.checkSlot d s := Img.firstNZ_at (f := fun s => m.checkSlot d s) h h2 hs
  have e2 : Img.firstNZ (slotsAt m) 3 = slotsAt m d := Img.firstNZ_at (by rw [e1]; exact h) h1 hd
  have e3 : Img.firstNZ (fun d => Img.firstNZ (fun s => m.checkSlot d s) 4) 3 = m.checkSlot d s := e2.trans e1
  unfold Img.check
  rw [e3, if_pos h]
theorem check_inodes {m : Img} {n : Nat} (hn : n < 8) (h1 : ∀ j, j < 3 → slotsAt m j = 0) (h2 : ∀ j, j < n → m.checkInode j = 0) (h : m.checkInode n ≠ 0) : m.check = m.checkInode n := by
  have e3 : Img.firstNZ (fun d => Img.firstNZ (fun s => m.checkSlot d s) 4) 3 = 0 := Img.firstNZ_zero (f := slotsAt m) h1
  have e4 : Img.firstNZ (fun n => m.checkInode n) 8 = m.checkInode n := Img.firstNZ_at (f := fun n => m.checkInode n) h h2 hn
  unfold Img.check
  rw [e3, if_neg (by simp), e4, if_pos h]
theorem check_end {m : Img} (h1 : ∀ j, j < 3 → slotsAt m j = 0) (h2 : ∀ j, j < 8 → m.checkInode j = 0) : m.check = if m.stampTwice || m.dataTwice then 11 else 0 := by
  have e3 : Img.firstNZ (fun d => Img.firstNZ (fun s => m.checkSlot d s) 4) 3 = 0 := Img.firstNZ_zero (f := slotsAt m) h1
  have e4 : Img.firstNZ (fun n => m.checkInode n) 8 = 0 := Img.firstNZ_zero (f := fun n => m.checkInode n) h2
  unfold Img.check
  rw [e3, if_neg (by simp), e4, if_neg (by simp)]
set_option maxHeartbeats 1000000 in
theorem check_any (b : Nat) (m : Img) (w : World) (hm : HasImg w b m) :
    Calls Tryz.prog 144 #[.pointer (some ⟨b, 0, none⟩)] w fun e w' => e = .returned (.int .i64 m.check) ∧ Below w.heap.size w w' := by
  have hl := hm.lt
  go_enter Tryz.func144, Tryz.ntmps144
  go_wp2
  go_loopw [8] (fun i wr => ∃ d : Nat, d ≤ 3 ∧ i = .int .i64 d ∧ Below w.heap.size w wr ∧ ∀ j, j < d → slotsAt m j = 0) (fun i _ => 3 - (intOf i).toNat)
  case atStart => exact ⟨0, by omega, rfl, Below.refl _ _, fun j hj => by omega⟩
  case round =>
    obtain ⟨d, hd, rfl, hbr, hall⟩ := hrel
    have H := hide hall
    clear hall
    have hsz := hbr.size
    by_cases hlt : d < 3
    · have hd3 : decide ((d : Int) < 3) = true := by simp; omega
      go_wp2
      go_loopw [11] (fun i wr => ∃ s : Nat, s ≤ 4 ∧ i = .int .i64 s ∧ Below w.heap.size w wr ∧ ∀ j, j < s → m.checkSlot d j = 0) (fun i _ => 4 - (intOf i).toNat)
      case atStart => exact ⟨0, by omega, rfl, hbr, fun j hj => by omega⟩
      case round =>
        clear hbr hsz
        obtain ⟨s, hs, rfl, hbr, hall⟩ := hrel
        have H2 := hide hall
        clear hall
        have hsz := hbr.size
        by_cases hls : s < 4
        · have hmr := hm.below hbr hl
          cases gc : m.checkSlot d s == 0
          · have GN := hide (show m.checkSlot d s ≠ 0 by simpa using gc)
            go_wp2_with (go_at_call 192; refine (slot_any _ m _ _ hlt hls _ hmr).mono ?_; rintro e w' ⟨rfl, hb⟩)
            go_ret
            exact ⟨ret_int (check_slots hlt hls (unhide H) (unhide H2) (unhide GN)).symm, hbr.trans (hb.mono hsz)⟩
          · have GZ := hide (show m.checkSlot d s = 0 by simpa using gc)
            go_wp2_with (go_at_call 192; refine (slot_any _ m _ _ hlt hls _ hmr).mono ?_; rintro e w' ⟨rfl, hb⟩)
            go_roundw
            case rel => exact ⟨s + 1, by omega, by go_num, hbr.trans (hb.mono hsz), forall_succ (unhide H2) (unhide GZ)⟩
            case measure => simp [intOf]; omega
        · have e : s = 4 := by omega
          subst e
          go_wp2
          go_roundw
          case rel => exact ⟨d + 1, by omega, by go_num, hbr, forall_succ (unhide H) (Img.firstNZ_zero (unhide H2))⟩
          case measure => simp [intOf]; omega
    · have hd3 : decide ((d : Int) < 3) = false := by simp; omega
      have HD := hide (show d = 3 by omega)
      have H3 := hide (show ∀ j, j < 3 → slotsAt m j = 0 from fun j hj => unhide H j (by omega))
      clear H HD
      have H := H3
      clear H3
      go_wp2
      go_loopw [23] (fun i wr => ∃ n : Nat, n ≤ 8 ∧ i = .int .i64 n ∧ Below w.heap.size w wr ∧ ∀ j, j < n → m.checkInode j = 0) (fun i _ => 8 - (intOf i).toNat)
      case atStart => exact ⟨0, by omega, rfl, hbr, fun j hj => by omega⟩
      case round =>
        clear hbr hsz
        obtain ⟨n, hn, rfl, hbr, hall⟩ := hrel
        have H2 := hide hall
        clear hall
        have hsz := hbr.size
        have hmr := hm.below hbr hl
        by_cases hln : n < 8
        · cases gc : m.checkInode n == 0
          · have GN := hide (show m.checkInode n ≠ 0 by simpa using gc)
            go_wp2_with (go_at_call 193; refine (inode_any _ m _ hln _ hmr).mono ?_; rintro e w' ⟨rfl, hb⟩)
            go_ret
            exact ⟨ret_int (check_inodes hln (unhide H) (unhide H2) (unhide GN)).symm, hbr.trans (hb.mono hsz)⟩
          · have GZ := hide (show m.checkInode n = 0 by simpa using gc)
            go_wp2_with (go_at_call 193; refine (inode_any _ m _ hln _ hmr).mono ?_; rintro e w' ⟨rfl, hb⟩)
            go_roundw
            case rel => exact ⟨n + 1, by omega, by go_num, hbr.trans (hb.mono hsz), forall_succ (unhide H2) (unhide GZ)⟩
            case measure => simp [intOf]; omega
        · have e : n = 8 := by omega
          subst e
          have E0 := check_end (unhide H) (unhide H2)
          cases gs : m.stampTwice
          · cases gd : m.dataTwice
            · have E := hide (show m.check = 0 by rw [E0, gs, gd]; rfl)
              clear E0
              go_wp2_with (first | (go_at_call 194; refine (stampTwice_any _ m _ hmr).mono ?_; rw [gs]; rintro e w1 ⟨rfl, q, rfl⟩) | (go_at_call 195; refine (dataTwice_any _ m _ (hmr.below (belowN (Below.refl _ _)) hmr.lt)).mono ?_; rw [gd]; rintro e w2 ⟨rfl, hb2⟩))
              go_ret
              exact ⟨ret_int (unhide E).symm, (belowN hbr).trans (hb2.mono hsz)⟩
            · have E := hide (show m.check = 11 by rw [E0, gs, gd]; rfl)
              clear E0
              go_wp2_with (first | (go_at_call 194; refine (stampTwice_any _ m _ hmr).mono ?_; rw [gs]; rintro e w1 ⟨rfl, q, rfl⟩) | (go_at_call 195; refine (dataTwice_any _ m _ (hmr.below (belowN (Below.refl _ _)) hmr.lt)).mono ?_; rw [gd]; rintro e w2 ⟨rfl, hb2⟩))
              go_ret
              exact ⟨ret_int (unhide E).symm, (belowN hbr).trans (hb2.mono hsz)⟩
          · have E := hide (show m.check = 11 by rw [E0, gs]; rfl)
            clear E0
            go_wp2_with (go_at_call 194; refine (stampTwice_any _ m _ hmr).mono ?_; rw [gs]; rintro e w1 ⟨rfl, q, rfl⟩)
            go_ret
            exact ⟨ret_int (unhide E).symm, belowN hbr⟩
end Go.Proofs.YtfpfpnhpbnnmfadGreatDoor
namespace Go.Proofs.YtfpfpnhpbnnmfadGreatDoor
open Go.RowKit
structure IsImg (cs : Array Value) (m : Img) : Prop where
  size : cs.size = 94
  live : ∀ n : Nat, n < 8 → cs[n * 5]? = some (.bool (m.live n))
  stamp : ∀ n : Nat, n < 8 → cs[n * 5 + 1]? = some (.int .i64 (m.stamp n))
  links : ∀ n : Nat, n < 8 → cs[n * 5 + 2]? = some (.int .i64 (m.links n))
  part : ∀ n p : Nat, n < 8 → p < 2 → cs[n * 5 + 3 + p]? = some (.int .i64 (m.part n p))
  name : ∀ d s : Nat, d < 3 → s < 4 → cs[40 + d * 12 + s * 3]? = some (.string (m.name d s))
  ino : ∀ d s : Nat, d < 3 → s < 4 → cs[40 + d * 12 + s * 3 + 1]? = some (.int .i64 (m.ino d s))
  est : ∀ d s : Nat, d < 3 → s < 4 → cs[40 + d * 12 + s * 3 + 2]? = some (.int .i64 (m.est d s))
  of : ∀ x : Nat, x < 9 → cs[76 + x * 2]? = some (.int .i64 (m.of x))
  text : ∀ x : Nat, x < 9 → cs[76 + x * 2 + 1]? = some (.string (m.text x))
  small : ∀ d s : Nat, (m.name d s).size ≤ maxLen
  short : ∀ x : Nat, (m.text x).size ≤ maxLen
theorem IsImg.has {cs : Array Value} {m : Img} (h : IsImg cs m) (w : World) (t : TypeId) : HasImg (w.alloc (.cells cs t)) w.heap.size m := by
  have hc : ∀ i, (w.alloc (.cells cs t)).cell? ⟨w.heap.size, i, none⟩ = cs[i]? := fun i => World.cell?_alloc_new w cs t i
  exact ⟨by simp, fun n h1 => by rw [hc]; exact h.live n h1, fun n h1 => by rw [hc]; exact h.stamp n h1, fun n h1 => by rw [hc]; exact h.links n h1,
    fun n p h1 h2 => by rw [hc]; exact h.part n p h1 h2, fun d s h1 h2 => by rw [hc]; exact h.name d s h1 h2, fun d s h1 h2 => by rw [hc]; exact h.ino d s h1 h2,
    fun d s h1 h2 => by rw [hc]; exact h.est d s h1 h2, fun x h1 => by rw [hc]; exact h.of x h1, fun x h1 => by rw [hc]; exact h.text x h1, h.small, h.short⟩
end Go.Proofs.YtfpfpnhpbnnmfadGreatDoor
namespace Go.Proofs.YtfpfpnhpbnnmfadGreatDoor
open Go.RowKit
def inodeZ : List Value := [.bool false, .int .i64 0, .int .i64 0, .int .i64 0, .int .i64 0]
def entryZ : List Value := [.string ⟨#[]⟩, .int .i64 0, .int .i64 0]
def dataZ : List Value := [.int .i64 0, .string ⟨#[]⟩]
def times (n : Nat) (l : List Value) : List Value := match n with
  | 0 => []
  | n + 1 => l ++ times n l
def zeroCells : Array Value := (times 8 inodeZ ++ times 12 entryZ ++ times 9 dataZ).toArray
def put5 (cs : Array Value) (n : Nat) : Array Value := ((((cs.setIfInBounds (n * 5) (.bool false)).setIfInBounds (n * 5 + 1) (.int .i64 0)).setIfInBounds (n * 5 + 1 + 1) (.int .i64 0)).setIfInBounds (n * 5 + 1 + 1 + 1) (.int .i64 (-1))).setIfInBounds (n * 5 + 1 + 1 + 1 + 1) (.int .i64 (-1))
def newTo : Nat → Array Value
  | 0 => zeroCells
  | n + 1 => put5 (newTo n) n
def blankCells : Array Value := newTo 8
theorem size_newTo : ∀ n, (newTo n).size = 94
  | 0 => by decide +kernel
  | n + 1 => by simp [newTo, put5, size_newTo n]
theorem zero_img : (∀ w, (zeroValue 78).run Tryz.prog w = .ok (.agg zeroCells) w) ∧ (Tryz.prog.info? 78).map (·.size) = some 94 := zero_of_info (by kernel_rfl)
structure Two (w wr : World) (g : Nat) (c0 c1 : Array Value) : Prop where
  below : Below w.heap.size w wr
  gt : w.heap.size < g
  size : g < wr.heap.size
  b0 : wr.heap[w.heap.size]? = some (.cells c0 78)
  b1 : wr.heap[g]? = some (.cells c1 78)
theorem Two.start (w : World) (c0 c1 : Array Value) : Two w ((w.alloc (.cells c0 78)).alloc (.cells c1 78)) (w.heap.size + 1) c0 c1 :=
  ⟨((Below.refl _ _).alloc (Nat.le_refl _) _).alloc (by simp) _, by simp, by simp, heap_alloc2_old _ _ _, heap_alloc2_new _ _ _⟩
theorem Two.call {w wr w1 : World} {g : Nat} {c0 c1 : Array Value} (h : Two w wr g c0 c1) (hb : Below wr.heap.size wr w1) : Two w w1 g c0 c1 :=
  have := h.size
  have := h.gt
  have := hb.size
  ⟨h.below.trans (hb.mono (by omega)), h.gt, by omega, by rw [hb.block _ (by omega)]; exact h.b0, by rw [hb.block _ (by omega)]; exact h.b1⟩
theorem Two.set {w wr : World} {g : Nat} {c0 c1 : Array Value} (h : Two w wr g c0 c1) (i : Nat) (v : Value) : Two w (wr.setCell ⟨g, i, none⟩ v) g c0 (c1.setIfInBounds i v) :=
  have := h.gt
  ⟨h.below.setCell (by simp; omega) _, h.gt, by simpa using h.size, by rw [heap_setCell_other _ _ _ _ (by simp; omega)]; exact h.b0, heap_setCell_same _ _ _ _ _ _ h.b1⟩
theorem Two.cell {w wr : World} {g : Nat} {c0 c1 : Array Value} (h : Two w wr g c0 c1) {i : Nat} (hi : i < c1.size) : ∃ v, wr.cell? ⟨g, i, none⟩ = some v :=
  ⟨c1[i], by rw [cell_of_row _ _ _ _ _ _ h.b1]; simp [hi]⟩
theorem Two.frozen {w wr : World} {g : Nat} {c0 c1 : Array Value} (h : Two w wr g c0 c1) (i : Nat) : wr.frozen? ⟨g, i, none⟩ = false := frozen_of_row _ _ _ _ _ h.b1
theorem Two.put5 {w wr : World} {g : Nat} {c0 c1 : Array Value} (h : Two w wr g c0 c1) (n : Nat) :
    Two w (((((wr.setCell ⟨g, n * 5, none⟩ (.bool false)).setCell ⟨g, n * 5 + 1, none⟩ (.int .i64 0)).setCell ⟨g, n * 5 + 1 + 1, none⟩ (.int .i64 0)).setCell ⟨g, n * 5 + 1 + 1 + 1, none⟩ (.int .i64 (-1))).setCell ⟨g, n * 5 + 1 + 1 + 1 + 1, none⟩ (.int .i64 (-1))) g c0 (put5 c1 n) :=
  ((((h.set _ _).set _ _).set _ _).set _ _).set _ _
theorem below_setRow {B : Nat} {a w : World} (h : Below B a w) {g : Nat} (hg : B ≤ g) (cs : Array Value) : Below B a (w.setRow g cs) :=
  h.trans ⟨rfl, rfl, rfl, by simp, fun k hk => setRow_other w g k cs (by omega)⟩
theorem Two.row {w wr : World} {g : Nat} {c0 c1 : Array Value} (h : Two w wr g c0 c1) (c : Array Value) : Two w (wr.setRow g c) g c0 c :=
  have := h.gt
  ⟨below_setRow h.below (by omega) _, h.gt, by simpa using h.size, by rw [setRow_other _ _ _ _ (by omega)]; exact h.b0, setRow_heap _ _ _ _ _ _ h.b1⟩
set_option maxRecDepth 100000 in
set_option maxHeartbeats 400000 in
theorem new_any (w : World) :
    Calls Tryz.prog 71 #[] w fun e w' => e = .returned (.agg blankCells) ∧ Below w.heap.size w w' := by
  have z := zero_img.1
  go_enter Tryz.func71, Tryz.ntmps71
  go_wp2
  go_loopw [3] (fun i wr => ∃ n : Nat, n ≤ 8 ∧ i = .int .i64 n ∧ Two w wr (w.heap.size + 1) zeroCells (newTo n)) (fun i _ => 8 - (intOf i).toNat)
  case atStart => exact ⟨0, by omega, rfl, Two.start _ _ _⟩
  case round =>
    obtain ⟨n, hn, rfl, ht⟩ := hrel
    by_cases hlt : n < 8
    · go_wp2_with (go_at_call 101; refine (free_any _).mono ?_; rintro e w1 ⟨rfl, hb1⟩; have ht1 := ht.call hb1; obtain ⟨v0, f0⟩ := ht1.cell (i := n * 5) (by rw [size_newTo]; omega); obtain ⟨v1, f1⟩ := ht1.cell (i := n * 5 + 1) (by rw [size_newTo]; omega); obtain ⟨v2, f2⟩ := ht1.cell (i := n * 5 + 1 + 1) (by rw [size_newTo]; omega); obtain ⟨v3, f3⟩ := ht1.cell (i := n * 5 + 1 + 1 + 1) (by rw [size_newTo]; omega); obtain ⟨v4, f4⟩ := ht1.cell (i := n * 5 + 1 + 1 + 1 + 1) (by rw [size_newTo]; omega); have fz := ht1.frozen)
      go_roundw
      case rel => exact ⟨n + 1, by omega, by go_num, ht1.put5 n⟩
      case measure => simp [intOf]; omega
    · have e : n = 8 := by omega
      subst e
      have hu : Tryz.prog.underlying 78 = some (.struct (Tryz.prog.fieldsOf 78)) := by kernel_rfl
      have hi : (Tryz.prog.info? 78).map (·.size) = some (newTo 8).size := by rw [size_newTo]; exact zero_img.2
      have hz : zeroCells.size = (newTo 8).size := by rw [size_newTo]; exact size_newTo 0
      have h1 : (newTo 8).all (·.oneCell') = true := by kernel_rfl
      go_wp2_with (first | (refine wpList_load_row rfl 78 _ rfl (w.heap.size + 1) rfl 78 (newTo 8) (0, 0) _ ht.b1 hu rfl hi ?_) | (refine wpList_store_row rfl 78 _ _ rfl w.heap.size (newTo 8) rfl rfl 78 zeroCells ht.b0 hi hz h1 ?_))
      refine bodyPost_ret (v := .agg blankCells) ?_ rfl ⟨rfl, below_setRow ht.below (Nat.le_refl _) _⟩
      exact results_cell_row (P := Tryz.prog) Tryz.results71 _ _ w.heap.size 78 blankCells (0, 0) _ rfl (setRow_heap _ _ _ _ _ _ ht.b0) hu rfl hi
theorem img_under : Tryz.prog.underlying 78 = some (.struct (Tryz.prog.fieldsOf 78)) := by kernel_rfl
theorem new_all : (newTo 8).all (·.oneCell') = true := by kernel_rfl
theorem img_info {cs : Array Value} (h : cs.size = 94) : (Tryz.prog.info? 78).map (·.size) = some cs.size := by rw [h]; exact zero_img.2
theorem build_img (w : World) : (Instr.build 78 #[]).run Tryz.prog w = .ok (.agg zeroCells) w := run_build w 78 _ _ (by kernel_rfl)
end Go.Proofs.YtfpfpnhpbnnmfadGreatDoor
namespace Go.Proofs.YtfpfpnhpbnnmfadGreatDoor
open Go.RowKit
theorem size_blank : blankCells.size = 94 := size_newTo 8
theorem blank_all : blankCells.all (·.oneCell') = true := new_all
end Go.Proofs.YtfpfpnhpbnnmfadGreatDoor
namespace Go.Proofs.YtfpfpnhpbnnmfadGreatDoor
open Go.RowKit
def bOf : Value → Bool | .bool b => b | _ => false
def sOf : Value → ByteArray | .string s => s | _ => ⟨#[]⟩
def imgOf (cs : Array Value) : Img where
  live n := bOf (cs.getD (n * 5) undef)
  stamp n := intOf (cs.getD (n * 5 + 1) undef)
  links n := intOf (cs.getD (n * 5 + 2) undef)
  part n p := intOf (cs.getD (n * 5 + 3 + p) undef)
  name d s := sOf (cs.getD (40 + d * 12 + s * 3) undef)
  ino d s := intOf (cs.getD (40 + d * 12 + s * 3 + 1) undef)
  est d s := intOf (cs.getD (40 + d * 12 + s * 3 + 2) undef)
  of x := intOf (cs.getD (76 + x * 2) undef)
  text x := sOf (cs.getD (76 + x * 2 + 1) undef)
def isB : Value → Bool | .bool _ => true | _ => false
def isN : Value → Bool | .int .i64 _ => true | _ => false
def isS : Value → Bool | .string _ => true | _ => false
def kindOk (i : Nat) (v : Value) : Bool :=
  if i < 40 then (if i % 5 = 0 then isB v else isN v) else if i < 76 then (if (i - 40) % 3 = 0 then isS v else isN v) else (if (i - 76) % 2 = 0 then isN v else isS v)
theorem of_isB {v : Value} (h : isB v = true) : v = .bool (bOf v) := by cases v <;> first | rfl | cases h
theorem of_isN {v : Value} (h : isN v = true) : v = .int .i64 (intOf v) := by
  cases v <;> first | cases h | skip
  rename_i k n
  cases k <;> first | rfl | cases h
theorem of_isS {v : Value} (h : isS v = true) : v = .string (sOf v) := by cases v <;> first | rfl | cases h
structure Kinds (cs : Array Value) : Prop where
  size : cs.size = 94
  kind : ∀ i, i < 94 → kindOk i (cs.getD i undef) = true
  short : ∀ i, (sOf (cs.getD i undef)).size ≤ maxLen
theorem Kinds.get {cs : Array Value} (h : Kinds cs) {i : Nat} (hi : i < 94) : cs[i]? = some (cs.getD i undef) := by
  have : i < cs.size := by rw [h.size]; exact hi
  simp [Array.getD, this]
theorem Kinds.isImg {cs : Array Value} (h : Kinds cs) : IsImg cs (imgOf cs) := by
  refine ⟨h.size, ?_, ?_, ?_, ?_, ?_, ?_, ?_, ?_, ?_, fun d s => h.short _, fun x => h.short _⟩
  · intro n hn
    have k := h.kind (n * 5) (by omega)
    rw [kindOk, if_pos (by omega), if_pos (by omega)] at k
    rw [h.get (by omega), of_isB k]; rfl
  · intro n hn
    have k := h.kind (n * 5 + 1) (by omega)
    rw [kindOk, if_pos (by omega), if_neg (by omega)] at k
    rw [h.get (by omega), of_isN k]; rfl
  · intro n hn
    have k := h.kind (n * 5 + 2) (by omega)
    rw [kindOk, if_pos (by omega), if_neg (by omega)] at k
    rw [h.get (by omega), of_isN k]; rfl
  · intro n p hn hp
    have k := h.kind (n * 5 + 3 + p) (by omega)
    rw [kindOk, if_pos (by omega), if_neg (by omega)] at k
    rw [h.get (by omega), of_isN k]; rfl
  · intro d s hd hs
    have k := h.kind (40 + d * 12 + s * 3) (by omega)
    rw [kindOk, if_neg (by omega), if_pos (by omega), if_pos (by omega)] at k
    rw [h.get (by omega), of_isS k]; rfl
  · intro d s hd hs
    have k := h.kind (40 + d * 12 + s * 3 + 1) (by omega)
    rw [kindOk, if_neg (by omega), if_pos (by omega), if_neg (by omega)] at k
    rw [h.get (by omega), of_isN k]; rfl
  · intro d s hd hs
    have k := h.kind (40 + d * 12 + s * 3 + 2) (by omega)
    rw [kindOk, if_neg (by omega), if_pos (by omega), if_neg (by omega)] at k
    rw [h.get (by omega), of_isN k]; rfl
  · intro x hx
    have k := h.kind (76 + x * 2) (by omega)
    rw [kindOk, if_neg (by omega), if_neg (by omega), if_pos (by omega)] at k
    rw [h.get (by omega), of_isN k]; rfl
  · intro x hx
    have k := h.kind (76 + x * 2 + 1) (by omega)
    rw [kindOk, if_neg (by omega), if_neg (by omega), if_neg (by omega)] at k
    rw [h.get (by omega), of_isS k]; rfl
def kindsB (cs : Array Value) : Bool := (List.range 94).all fun i => kindOk i (cs.getD i undef) && decide ((sOf (cs.getD i undef)).size ≤ 1000)
theorem Kinds.of {cs : Array Value} (hs : cs.size = 94) (h : kindsB cs = true) : Kinds cs := by
  have h' := List.all_eq_true.1 h
  refine ⟨hs, fun i hi => ?_, fun i => ?_⟩
  · have := h' i (List.mem_range.2 hi)
    rw [Bool.and_eq_true] at this
    exact this.1
  · by_cases hi : i < 94
    · have := h' i (List.mem_range.2 hi)
      rw [Bool.and_eq_true, decide_eq_true_eq] at this
      have := this.2
      unfold maxLen; omega
    · have : cs.getD i undef = undef := by simp [Array.getD, hs, hi]
      rw [this]; show (0 : Nat) ≤ maxLen; exact Nat.zero_le _
end Go.Proofs.YtfpfpnhpbnnmfadGreatDoor
namespace Go.Proofs.YtfpfpnhpbnnmfadGreatDoor
open Go.RowKit
theorem has_of_row {w : World} {g : Nat} {cs : Array Value} {m : Img} (hg : w.heap[g]? = some (.cells cs 78)) (h : IsImg cs m) : HasImg w g m := by
  have hlt : g < w.heap.size := (Array.getElem?_eq_some_iff.1 hg).1
  have hc : ∀ i, w.cell? ⟨g, i, none⟩ = cs[i]? := fun i => cell_of_row _ _ _ _ _ _ hg
  exact ⟨hlt, fun n h1 => by rw [hc]; exact h.live n h1, fun n h1 => by rw [hc]; exact h.stamp n h1, fun n h1 => by rw [hc]; exact h.links n h1,
    fun n p h1 h2 => by rw [hc]; exact h.part n p h1 h2, fun d s h1 h2 => by rw [hc]; exact h.name d s h1 h2, fun d s h1 h2 => by rw [hc]; exact h.ino d s h1 h2,
    fun d s h1 h2 => by rw [hc]; exact h.est d s h1 h2, fun x h1 => by rw [hc]; exact h.of x h1, fun x h1 => by rw [hc]; exact h.text x h1, h.small, h.short⟩
end Go.Proofs.YtfpfpnhpbnnmfadGreatDoor
namespace Go.Proofs.YtfpfpnhpbnnmfadGreatDoor
open Go.RowKit
set_option maxHeartbeats 400000 in
theorem sIsData_any (x : Int) (w : World) :
    Calls Tryz.prog 232 #[.int .i64 x] w fun e w' => e = .returned (.bool (Img.isD x)) ∧ w' = w := by
  go_enter Tryz.func232, Tryz.ntmps232
  go_wp2
  all_goals
    go_ret
    refine ⟨ret_bool ?_, rfl⟩
    simp [Img.isD]
    try omega
set_option maxHeartbeats 400000 in
theorem sIsInode_any (x : Int) (w : World) :
    Calls Tryz.prog 216 #[.int .i64 x] w fun e w' => e = .returned (.bool (Img.isI x)) ∧ w' = w := by
  go_enter Tryz.func216, Tryz.ntmps216
  go_wp2
  all_goals
    go_ret
    refine ⟨ret_bool ?_, rfl⟩
    simp [Img.isI]
    try omega
/-- the kind of a block, as it is told -/
def kindS (b : Int) : ByteArray := if Img.inB b = false then ⟨#[]⟩ else if b < 2 then ⟨#[105, 110, 111, 100, 101, 115]⟩ else if b < 5 then ⟨#[100, 105, 114]⟩ else ⟨#[100, 97, 116, 97]⟩
def kindN (b : Int) : Int := if Img.inB b = false then 0 else if b < 2 then b * 4 else if b < 5 then b - 2 else b - 5
theorem kind_out {b : Int} (h : Img.inB b = false) : kindS b = ⟨#[]⟩ ∧ kindN b = 0 := ⟨if_pos h, if_pos h⟩
theorem kind_ino {k : Nat} (h : k < 2) : kindS (k : Int) = ⟨#[105, 110, 111, 100, 101, 115]⟩ ∧ kindN (k : Int) = k * 4 := by
  have e : Img.inB (k : Int) = true := by simp [Img.inB]; omega
  unfold kindS kindN
  rw [e, if_neg (by simp), if_pos (by omega), if_neg (by simp), if_pos (by omega)]; exact ⟨rfl, rfl⟩
theorem kind_dir {d : Nat} (h : d < 3) : kindS ((d + 2 : Nat) : Int) = ⟨#[100, 105, 114]⟩ ∧ kindN ((d + 2 : Nat) : Int) = (d : Nat) := by
  have e : Img.inB ((d + 2 : Nat) : Int) = true := by simp [Img.inB]; omega
  unfold kindS kindN
  rw [e, if_neg (by simp), if_neg (by omega), if_pos (by omega), if_neg (by simp), if_neg (by omega), if_pos (by omega)]; exact ⟨rfl, by omega⟩
theorem kind_data {x : Nat} (h : x < 9) : kindS ((x + 5 : Nat) : Int) = ⟨#[100, 97, 116, 97]⟩ ∧ kindN ((x + 5 : Nat) : Int) = (x : Nat) := by
  have e : Img.inB ((x + 5 : Nat) : Int) = true := by simp [Img.inB]; omega
  unfold kindS kindN
  rw [e, if_neg (by simp), if_neg (by omega), if_neg (by omega), if_neg (by simp), if_neg (by omega), if_neg (by omega)]; exact ⟨rfl, by omega⟩
set_option maxHeartbeats 400000 in
theorem block_any (b : Int) (w : World) :
    Calls Tryz.prog 125 #[.int .i64 b] w fun e w' => e = .returned (.tuple #[.string (kindS b), .int .i64 (kindN b)]) ∧ w' = w := by
  rcases Img.blocks b with h | ⟨k, hk, rfl⟩ | ⟨d, hd, rfl⟩ | ⟨x, hx, rfl⟩
  · obtain ⟨e1, e2⟩ := kind_out h
    rw [e1, e2]
    clear e1 e2
    have hb : b < 0 ∨ 14 ≤ b := by
      simp [Img.inB] at h
      omega
    clear h
    by_cases h0 : b < 0
    · clear hb
      go_enter Tryz.func125, Tryz.ntmps125
      go_wp2
      go_ret2
      exact ⟨rfl, rfl⟩
    · have h1 : 14 ≤ b := by omega
      clear hb
      go_enter Tryz.func125, Tryz.ntmps125
      go_wp2
      go_ret2
      exact ⟨rfl, rfl⟩
  · obtain ⟨e1, e2⟩ := kind_ino hk
    rw [e1, e2]
    clear e1 e2
    go_enter Tryz.func125, Tryz.ntmps125
    go_wp2
    go_ret2
    exact ⟨rfl, rfl⟩
  · obtain ⟨e1, e2⟩ := kind_dir hd
    rw [e1, e2]
    clear e1 e2
    go_enter Tryz.func125, Tryz.ntmps125
    go_wp2
    go_ret2
    exact ⟨by go_num, rfl⟩
  · obtain ⟨e1, e2⟩ := kind_data hx
    rw [e1, e2]
    clear e1 e2
    go_enter Tryz.func125, Tryz.ntmps125
    go_wp2
    go_ret2
    exact ⟨by go_num, rfl⟩
end Go.Proofs.YtfpfpnhpbnnmfadGreatDoor
namespace Go.Proofs.YtfpfpnhpbnnmfadGreatDoor
open Go.RowKit
theorem drewNs {w : World} {a b : Nat} : (w.drewN a).drewN b = w.drewN (a + b) := drewNN w a b
theorem drewN3 {w : World} {a b c : Nat} : ((w.drewN a).drewN b).drewN c = w.drewN (a + (b + c)) := by rw [drewNN, drewNN]
theorem quiet_same2 {P : Program} {f : FuncId} {args : Array Value} {w : World} {a n : Nat} {v : Value}
    (h : Calls P f args (w.drewN (a + n)) fun e w' => e = .returned v ∧ w' = w.drewN (a + n)) : Calls P f args (w.drewN (a + n)) fun e w'' => e = .returned v ∧ ∃ m, w'' = w.drewN (a + m) :=
  h.mono fun _ _ ⟨he, hm⟩ => ⟨he, n, hm⟩
end Go.Proofs.YtfpfpnhpbnnmfadGreatDoor
namespace Go.Proofs.YtfpfpnhpbnnmfadGreatDoor
open Go.RowKit
def inoV (i : Ino) : Value := .agg #[.bool i.live, .int .i64 i.stamp, .int .i64 i.links, .int .i64 i.p0, .int .i64 i.p1]
def entV (e : Ent) : Value := .agg #[.string e.name, .int .i64 e.ino, .int .i64 e.est]
structure TwoT (t0 t1 : TypeId) (w wr : World) (g : Nat) (c0 c1 : Array Value) : Prop where
  below : Below w.heap.size w wr
  gt : w.heap.size < g
  size : g < wr.heap.size
  b0 : wr.heap[w.heap.size]? = some (.cells c0 t0)
  b1 : wr.heap[g]? = some (.cells c1 t1)
section
variable {t0 t1 : TypeId} {w wr w1 : World} {g : Nat} {c0 c1 : Array Value}
theorem TwoT.start (w : World) (t0 t1 : TypeId) (c0 c1 : Array Value) : TwoT t0 t1 w ((w.alloc (.cells c0 t0)).alloc (.cells c1 t1)) (w.heap.size + 1) c0 c1 :=
  ⟨((Below.refl _ _).alloc (Nat.le_refl _) _).alloc (by simp) _, by simp, by simp, heap_alloc2_old _ _ _, heap_alloc2_new _ _ _⟩
theorem TwoT.call (h : TwoT t0 t1 w wr g c0 c1) (hb : Below wr.heap.size wr w1) : TwoT t0 t1 w w1 g c0 c1 :=
  have := h.size
  have := h.gt
  have := hb.size
  ⟨h.below.trans (hb.mono (by omega)), h.gt, by omega, by rw [hb.block _ (by omega)]; exact h.b0, by rw [hb.block _ (by omega)]; exact h.b1⟩
theorem TwoT.draw (h : TwoT t0 t1 w wr g c0 c1) (q : Nat) : TwoT t0 t1 w (wr.drewN q) g c0 c1 := h.call (belowN (Below.refl _ _))
theorem TwoT.set (h : TwoT t0 t1 w wr g c0 c1) (i : Nat) (v : Value) : TwoT t0 t1 w (wr.setCell ⟨g, i, none⟩ v) g c0 (c1.setIfInBounds i v) :=
  have := h.gt
  ⟨h.below.setCell (by simp; omega) _, h.gt, by simpa using h.size, by rw [heap_setCell_other _ _ _ _ (by simp; omega)]; exact h.b0, heap_setCell_same _ _ _ _ _ _ h.b1⟩
theorem TwoT.res (h : TwoT t0 t1 w wr g c0 c1) (i : Nat) (v : Value) : TwoT t0 t1 w (wr.setCell ⟨w.heap.size, i, none⟩ v) g (c0.setIfInBounds i v) c1 :=
  have := h.gt
  ⟨h.below.setCell (by simp) _, h.gt, by simpa using h.size, heap_setCell_same _ _ _ _ _ _ h.b0, by rw [heap_setCell_other _ _ _ _ (by simp; omega)]; exact h.b1⟩
end
theorem ino_under : Tryz.prog.underlying 68 = some (.struct (Tryz.prog.fieldsOf 68)) := by kernel_rfl
theorem ino_info : (Tryz.prog.info? 68).map (·.size) = some 5 := by kernel_rfl
theorem ent_under : Tryz.prog.underlying 71 = some (.struct (Tryz.prog.fieldsOf 71)) := by kernel_rfl
theorem ent_info : (Tryz.prog.info? 71).map (·.size) = some 3 := by kernel_rfl
def ino0 : Array Value := #[.bool false, .int .i64 0, .int .i64 0, .int .i64 0, .int .i64 0]
theorem TwoT.ret5 {t1 : TypeId} {w wr : World} {g : Nat} {c1 : Array Value} (h : TwoT 68 t1 w wr g ino0 c1) (v0 v1 v2 v3 v4 : Value) :
    TwoT 68 t1 w (((((wr.setCell ⟨w.heap.size, 0, none⟩ v0).setCell ⟨w.heap.size, 1, none⟩ v1).setCell ⟨w.heap.size, 2, none⟩ v2).setCell ⟨w.heap.size, 3, none⟩ v3).setCell ⟨w.heap.size, 4, none⟩ v4) g #[v0, v1, v2, v3, v4] c1 :=
  ((((h.res 0 v0).res 1 v1).res 2 v2).res 3 v3).res 4 v4
end Go.Proofs.YtfpfpnhpbnnmfadGreatDoor
