/-
  The walk of (*soft.Files).List.
-/
import Derived.Test.YtlbgkpibaahglacGreatXay
import Derived.Lib.AppendZerosOnto
import Derived.Maps.AppendAt
import Derived.Test.YtlbgkpibaahglacGreatXap
import Derived.Test.YtlbgkpibaahglacGreatXak
namespace Go.Proofs.YtlbgkpibaahglacGreat
open Go.RowKit
open Idl (Stp chk stpA strs)
def Img.snames (m : Img) (d : Int) : List ByteArray := if 0 ≤ d ∧ d < 3 then sortN (Img.rawN m d.toNat 4) else []
theorem sortN_len {l : List ByteArray} (h : l.Nodup) : (sortN l).length = l.length := by
  have h1 : (sortN l).Nodup := (sortN_rise h).imp (fun {a b} z e => by rw [e, Idl.lt_irrefl] at z; cases z)
  exact ((List.perm_ext_iff_of_nodup h1 h).2 (sortN_mem h)).length_eq
theorem own_form1 {W : World} {base : Nat} {e : TypeId} {size : Nat} {v : Value} {n : Nat} {xs : List Value} (h : W.ownsRow base e size v n xs) : ∃ a cap, v = .slice a n cap ∧ n ≤ cap := by
  rcases h.2 with ⟨rfl, rfl⟩ | ⟨g, cap, cur, rfl, _, _, hm, _⟩
  · exact ⟨_, _, rfl, Nat.le_refl _⟩
  · exact ⟨_, _, rfl, hm⟩
/-- the names so far: a row of one's own, and the box that holds it -/
structure Nms (w : World) (bx : Nat) (v : Value) (l : List ByteArray) (W : World) : Prop where
  row : W.ownsRow w.heap.size 9 1 v l.length (strs l)
  box : W.heap[bx]? = some (.cells #[v] 61)
  ne : v.ownBlock ≠ some bx
  bel : Below w.heap.size w W
  lo : w.heap.size ≤ bx
section
variable {w W W' : World} {bx : Nat} {v : Value} {l : List ByteArray}
theorem Nms.call (h : Nms w bx v l W) (hb : Below W.heap.size W W') : Nms w bx v l W' :=
  ⟨Idl.ownsRow_of_block h.row (fun q hq => hb.block q (h.row.lt q hq).2), by rw [hb.block _ (Array.getElem?_eq_some_iff.1 h.box).1]; exact h.box, h.ne, h.bel.trans (hb.mono h.bel.size), h.lo⟩
theorem Nms.more (h : Nms w bx v l W) {v' : Value} {nm : ByteArray} (ho : W'.ownsRow w.heap.size 9 1 v' (l.length + 1) (strs l ++ [.string nm])) (hg : W.grownBy W' v.ownBlock) (ha : v'.ownBlock = v.ownBlock ∨ v'.ownBlock = some W.heap.size) :
    Nms w bx v' (l ++ [nm]) (W'.setCell ⟨bx, 0, none⟩ v') := by
  have hbx : bx < W.heap.size := (Array.getElem?_eq_some_iff.1 h.box).1
  have hb : W'.heap[bx]? = some (.cells #[v] 61) := by rw [hg.block bx hbx (fun e => h.ne e.symm)]; exact h.box
  have hoth : ∀ q, q ≠ bx → (W'.setCell ⟨bx, 0, none⟩ v').heap[q]? = W'.heap[q]? := fun q hq => Below.heap_setCell _ _ _ _ hq
  have hsz : (W'.setCell ⟨bx, 0, none⟩ v').heap.size = W'.heap.size := by simp [World.setCell]
  have hne : v'.ownBlock ≠ some bx := by
    rcases ha with e | e
    · rw [e]; exact h.ne
    · rw [e]; intro z; cases z; omega
  refine ⟨?_, ?_, hne, h.bel.trans ⟨hg.os, hg.tape, hg.output, by rw [hsz]; exact hg.size, fun q hq => ?_⟩, h.lo⟩
  · have e : strs (l ++ [nm]) = strs l ++ [.string nm] := by simp [strs]
    rw [e, List.length_append]
    exact Idl.ownsRow_of_block ho (fun q hq => hoth q (fun z => hne (by rw [← z]; exact hq)))
  · rw [setCell_eq_setRow W' bx 0 _ _ _ v' hb, setRow_heap W' bx _ _ _ _ hb]; rfl
  · have := h.lo
    rw [hoth q (by omega)]
    refine hg.block q (Nat.lt_of_lt_of_le hq h.bel.size) (fun e => ?_)
    have := (h.row.lt q e.symm).1
    omega
end
theorem dir_ent {cs ds : Array Value} {m : Img} (h : IsImg cs m) {d s : Nat} (hd : d < 3) (hs : s < 4) : ((cs ++ ds).extract (40 + d * 12) (40 + d * 12 + 12)).extract (s * 3) (s * 3 + 3) = #[.string (m.name d s), .int .i64 (m.ino d s), .int .i64 (m.est d s)] := by
  have hz := h.size
  have h0 := h.name d s hd hs
  have h1 := h.ino d s hd hs
  have h2 := h.est d s hd hs
  refine Array.ext_getElem? fun i => ?_
  rw [Array.getElem?_extract, Array.getElem?_extract]
  simp only [Array.size_extract, Array.size_append, hz]
  by_cases hi : i < 3
  · rw [if_pos (by omega), if_pos (by omega), Array.getElem?_append, if_pos (by omega)]
    have : i = 0 ∨ i = 1 ∨ i = 2 := by omega
    rcases this with rfl | rfl | rfl
    · rw [show 40 + d * 12 + (s * 3 + 0) = 40 + d * 12 + s * 3 by omega, h0]; rfl
    · rw [show 40 + d * 12 + (s * 3 + 1) = 40 + d * 12 + s * 3 + 1 by omega, h1]; rfl
    · rw [show 40 + d * 12 + (s * 3 + 2) = 40 + d * 12 + s * 3 + 2 by omega, h2]; rfl
  · rw [if_neg (by omega)]
    simp; omega
section
variable {w : World} {bf bc : Nat} {cs ds : Array Value} {m k : Img} {last : Int}
set_option maxHeartbeats 4000000 in
set_option maxRecDepth 100000 in
theorem sList_any (h : Fl w bf bc cs ds m k last) (hm : m.check = 0) (d : Int) :
    Calls Tryz.prog 22 #[.pointer (some ⟨bf, 0, none⟩), .int .i64 d] w fun e w' => ∃ v, e = .returned v ∧ w'.ownsRow w.heap.size 9 1 v (Img.snames m d).length (strs (Img.snames m d)) ∧ Below w.heap.size w w' := by
  by_cases hd0 : d < 0
  · have e0 : Img.snames m d = [] := by unfold Img.snames; rw [if_neg (by omega)]
    rw [e0]
    have u1 : decide (d < 0) = true := by simpa using hd0
    clear h hd0
    go_enter Tryz.func22, Tryz.ntmps22
    go_wp2_with fail
    go_ret
    exact ⟨_, rfl, World.ownsRow_nil _ _ _ _, Below.refl _ _⟩
  · by_cases hd3 : 3 ≤ d
    · have e0 : Img.snames m d = [] := by unfold Img.snames; rw [if_neg (by omega)]
      rw [e0]
      have u1 : decide (d < 0) = false := by simpa using hd0
      have u2 : decide (d ≥ 3) = true := by simpa using hd3
      have u3 : decide (3 ≤ d) = true := by simpa using hd3
      clear h hd0 hd3
      go_enter Tryz.func22, Tryz.ntmps22
      go_wp2_with fail
      go_ret
      exact ⟨_, rfl, World.ownsRow_nil _ _ _ _, Below.refl _ _⟩
    · obtain ⟨dd, rfl⟩ := Int.eq_ofNat_of_zero_le (show 0 ≤ d by omega)
      have hd : dd < 3 := by omega
      have e0 : Img.snames m (dd : Int) = sortN (Img.rawN m dd 4) := by unfold Img.snames; rw [if_pos (by omega), Int.toNat_natCast]
      rw [e0]
      obtain ⟨i0, hi0, hz0, hz1, hz2⟩ := Idl.str_info
      have u1 : decide ((dd : Int) < 0) = false := by simp
      have u2 : decide ((dd : Int) ≥ 3) = false := by simp; omega
      have u3 : decide (3 ≤ (dd : Int)) = false := by simp; omega
      have dz : (dd : Int) < 3 := by omega
      have z1 := h.now.size
      have HN := hide h.now
      have HNM := hide (Img.rawN_nodup hm hd (n := 4) (Nat.le_refl _))
      have HRL := hide (Img.rawN_len m dd)
      have ROWC := hide (show (w.alloc (.cells #[.slice none 0 0] 61)).heap[bc]? = some (.cells (cs ++ ds) 57) by rw [Below.heap_alloc _ _ _ h.clt]; exact h.row)
      have p0 : (w.alloc (.cells #[.slice none 0 0] 61)).cell? ⟨bf, 0, none⟩ = some (.pointer (some ⟨bc, 0, none⟩)) := (h.below ((Below.refl _ w).alloc (Nat.le_refl _) _)).ptr
      have l0 : bf < (w.alloc (.cells #[.slice none 0 0] 61)).heap.size := (h.below ((Below.refl _ w).alloc (Nat.le_refl _) _)).flt
      have l1 : bc < (w.alloc (.cells #[.slice none 0 0] 61)).heap.size := (h.below ((Below.refl _ w).alloc (Nat.le_refl _) _)).clt
      have START := hide (show Nms w w.heap.size (.slice none 0 0) [] (w.alloc (.cells #[.slice none 0 0] 61)) from ⟨World.ownsRow_nil _ _ _ _, heap_alloc_last _ _, (by intro z; cases z), (Below.refl _ w).alloc (Nat.le_refl _) _, Nat.le_refl _⟩)
      have EX := hide fun i (hi : i < 4) => dir_ent (unhide HN) (ds := ds) hd hi
      obtain ⟨X, hX⟩ : ∃ X, X = (cs ++ ds).extract (40 + dd * 12) (40 + dd * 12 + 12) := ⟨_, rfl⟩
      rw [← hX] at EX
      have HX := hide hX
      clear h hX e0 hd0 hd3
      go_enter Tryz.func22, Tryz.ntmps22
      go_wp2_with (refine wpList_load_part rfl 38 _ rfl bc (40 + dd * 12) 12 rfl 57 (cs ++ ds) _ (unhide ROWC) Tryz.underlying38 rfl dir_info (by rw [Array.size_append, z1]; omega) ?_; rw [← unhide HX])
      go_loopw [24] (fun i W => ∃ j v, j ≤ 4 ∧ i = .int .i64 ((j : Nat) : Int) ∧ Hid (Nms w w.heap.size v (Img.rawN m dd j) W)) (fun i _ => 4 - (intOf i).toNat)
      case atStart => exact ⟨0, _, by omega, rfl, START⟩
      case round =>
        clear START p0 l0 l1 ROWC HX
        obtain ⟨j, v, hj, rfl, HW⟩ := hrel
        by_cases hlt : j < 4
        · have jz : (j : Int) < 4 := by omega
          have ej := unhide EX j hlt
          have EJ := hide ej
          have RAW := hide (show Img.rawN m dd (j + 1) = Img.rawN m dd j ++ (if m.named dd j then [m.name dd j] else []) from rfl)
          have hln := unhide HRL j
          have hnam : (m.name dd j).toList.isEmpty = !m.named dd j := by unfold Img.named; simp
          obtain ⟨a, c, rfl, _⟩ := own_form1 (unhide HW).row
          generalize Img.rawN m dd j = l at RAW hln HW
          generalize m.named dd j = nb at RAW hnam
          generalize m.name dd j = nm at EJ RAW hnam
          generalize m.ino dd j = ia at EJ
          generalize m.est dd j = es at EJ
          clear ej EX
          have tj : decide ((j : Int) < 4) = true := by simpa using jz
          cases nb
          · have hE : nm.toList.isEmpty = true := by simpa using hnam
            have E1 := hide (show Img.rawN m dd (j + 1) = l by rw [unhide RAW]; simp)
            clear hnam RAW
            go_wp2_with (first | (refine wpList_val (v := .agg #[.string nm, .int .i64 ia, .int .i64 es]) rfl (by rw [← unhide EJ]; exact Op1.iv_slot (.tmp 23) (.tmp 24) rfl rfl rfl hlt _) ?_) | (refine wpList_store_row rfl 37 _ _ rfl wr.heap.size #[.string nm, .int .i64 ia, .int .i64 es] rfl rfl 37 #[.string ⟨#[]⟩, .int .i64 0, .int .i64 0] (heap_alloc_last wr _) sz_ent rfl (by simp [Value.oneCell']) ?_; have BE := hide (below_setRow ((Below.refl wr.heap.size wr).alloc (Nat.le_refl _) (.cells #[.string ⟨#[]⟩, .int .i64 0, .int .i64 0] 37)) (Nat.le_refl _) #[.string nm, .int .i64 ia, .int .i64 es]); have RE := hide (setRow_heap _ _ _ #[.string nm, .int .i64 ia, .int .i64 es] _ _ (heap_alloc_last wr (.cells #[.string ⟨#[]⟩, .int .i64 0, .int .i64 0] 37))); generalize (wr.alloc (.cells #[.string ⟨#[]⟩, .int .i64 0, .int .i64 0] 37)).setRow wr.heap.size #[.string nm, .int .i64 ia, .int .i64 es] = WE at BE RE ⊢; have c6 : WE.cell? ⟨wr.heap.size, 0, none⟩ = some (.string nm) := (by rw [cell_of_row WE _ 0 _ _ _ (unhide RE)]; rfl); have hlE : wr.heap.size < WE.heap.size := (Array.getElem?_eq_some_iff.1 (unhide RE)).1))
            go_roundw
            case rel => exact ⟨j + 1, _, by omega, by go_num, by rw [unhide E1]; exact (unhide HW).call (unhide BE)⟩
            case measure => simp [intOf]; omega
          · have hE : nm.toList.isEmpty = false := by simpa using hnam
            have E1 := hide (show Img.rawN m dd (j + 1) = l ++ [nm] by rw [unhide RAW]; simp)
            clear hnam RAW
            go_upto_region 8 with (first | (refine wpList_val (v := .agg #[.string nm, .int .i64 ia, .int .i64 es]) rfl (by rw [← unhide EJ]; exact Op1.iv_slot (.tmp 23) (.tmp 24) rfl rfl rfl hlt _) ?_) | (refine wpList_store_row rfl 37 _ _ rfl wr.heap.size #[.string nm, .int .i64 ia, .int .i64 es] rfl rfl 37 #[.string ⟨#[]⟩, .int .i64 0, .int .i64 0] (heap_alloc_last wr _) sz_ent rfl (by simp [Value.oneCell']) ?_; have BE := hide (below_setRow ((Below.refl wr.heap.size wr).alloc (Nat.le_refl _) (.cells #[.string ⟨#[]⟩, .int .i64 0, .int .i64 0] 37)) (Nat.le_refl _) #[.string nm, .int .i64 ia, .int .i64 es]); have RE := hide (setRow_heap _ _ _ #[.string nm, .int .i64 ia, .int .i64 es] _ _ (heap_alloc_last wr (.cells #[.string ⟨#[]⟩, .int .i64 0, .int .i64 0] 37))); generalize (wr.alloc (.cells #[.string ⟨#[]⟩, .int .i64 0, .int .i64 0] 37)).setRow wr.heap.size #[.string nm, .int .i64 ia, .int .i64 es] = WE at BE RE ⊢; have c6 : WE.cell? ⟨wr.heap.size, 0, none⟩ = some (.string nm) := (by rw [cell_of_row WE _ 0 _ _ _ (unhide RE)]; rfl); have hlE : wr.heap.size < WE.heap.size := (Array.getElem?_eq_some_iff.1 (unhide RE)).1))
            have HW1 := hide ((unhide HW).call (unhide BE))
            have c5 : WE.cell? ⟨w.heap.size, 0, none⟩ = some (.slice a l.length c) := by rw [cell_of_row WE _ 0 _ _ _ (unhide HW1).box]; rfl
            have hl5 : w.heap.size < WE.heap.size := (Array.getElem?_eq_some_iff.1 (unhide HW1).box).1
            have HW2 := hide ((unhide HW1).call ((Below.refl _ _).alloc (Nat.le_refl _) (.cells #[.string nm] 9)))
            obtain ⟨v', W5, hrun, ho5, hg5, _, ha5⟩ := run_append_own_at (P := Tryz.prog) (WE.alloc (.cells #[.string nm] 9)) w.heap.size 61 61 9 i0 _ 1 16 Tryz.underlying61 hi0 hz0 hz1 hz2 rfl (by omega) _ l.length (strs l) (unhide HW2).row ⟨WE.heap.size, 0, none⟩ 1 1 [.string nm] rfl (Idl.one_new _ _ _ _ rfl) (Idl.one_str nm) (by unfold maxLen; omega) (by omega) (by have := (unhide HW2).bel.size; exact this)
            have DONE := hide ((unhide HW2).more ho5 hg5 ha5)
            obtain ⟨a', c', rfl, _⟩ := own_form1 ho5
            have c7 : W5.cell? ⟨w.heap.size, 0, none⟩ = some (.slice a l.length c) := by
              rw [World.cell?_of_block (hg5.block w.heap.size (Array.getElem?_eq_some_iff.1 (unhide HW2).box).1 (fun z => (unhide HW2).ne z.symm)), cell_of_row _ _ 0 _ _ _ (unhide HW2).box]; rfl
            have z7 : W5.frozen? ⟨w.heap.size, 0, none⟩ = false := by
              rw [World.frozen?_of_block (hg5.block w.heap.size (Array.getElem?_eq_some_iff.1 (unhide HW2).box).1 (fun z => (unhide HW2).ne z.symm))]; exact frozen_of_row _ _ 0 _ _ (unhide HW2).box
            clear ho5 hg5 ha5
            go_wp2_with (at_builtin; refine Lib.wpList_append_run _ rfl _ _ _ _ rfl _ _ rfl rfl _ _ hrun ?_)
            go_roundw
            case rel => exact ⟨j + 1, _, by omega, by go_num, by rw [unhide E1]; exact unhide DONE⟩
            case measure => simp [intOf]; omega
        · have ej : j = 4 := by omega
          subst ej
          have tj : decide (((4 : Nat) : Int) < 4) = false := by decide
          obtain ⟨a, c, rfl, _⟩ := own_form1 (unhide HW).row
          have hl4 := unhide HRL 4
          have hnd := unhide HNM
          obtain ⟨l, hl⟩ : ∃ l, l = Img.rawN m dd 4 := ⟨_, rfl⟩
          rw [← hl] at HW hl4 hnd
          have HL := hide hl
          clear hl
          have c5 : wr.cell? ⟨w.heap.size, 0, none⟩ = some (.slice a l.length c) := by rw [cell_of_row wr _ 0 _ _ _ (unhide HW).box]; rfl
          have C1 := hide (sorts_any l hnd (by omega) (unhide HW).row (unhide HW).box (unhide HW).ne)
          go_wp2_with fail
          refine (unhide C1).mono ?_
          rintro e w9 ⟨rfl, ho9, hg9⟩
          have HO9 := hide ho9
          have hb9 : w9.heap[w.heap.size]? = some (.cells #[.slice a l.length c] 61) := by
            rw [hg9.block _ (Array.getElem?_eq_some_iff.1 (unhide HW).box).1 (fun z => (unhide HW).ne z.symm)]; exact (unhide HW).box
          have BEL := hide ((unhide HW).bel.grown hg9 (unhide HW).bel.size (fun q hq => ((unhide HW).row.lt q hq).1))
          have c9 : w9.cell? ⟨w.heap.size, 0, none⟩ = some (.slice a l.length c) := by rw [cell_of_row w9 _ 0 _ _ _ hb9]; rfl
          clear ho9 hg9 hb9 C1 c5
          go_wp2_with fail
          go_ret
          refine ⟨_, rfl, ?_, unhide BEL⟩
          rw [← unhide HL, sortN_len hnd]
          exact unhide HO9
end
end Go.Proofs.YtlbgkpibaahglacGreat
namespace Go.Proofs.YtlbgkpibaahglacGreat
open Go.RowKit
end Go.Proofs.YtlbgkpibaahglacGreat
namespace Go.Proofs.YtlbgkpibaahglacGreat
open Go.RowKit
end Go.Proofs.YtlbgkpibaahglacGreat
namespace Go.Proofs.YtlbgkpibaahglacGreat
open Go.RowKit
open Idl (Stp chk stpA strs belowD one_new one_str)
namespace Sft
theorem names_cell {w : World} {base : Nat} {v : Value} {l : List ByteArray} (h : w.ownsRow base 9 1 v l.length (strs l)) :
    (v = .slice none 0 0 ∧ l = []) ∨ ∃ g c, v = .slice (some ⟨g, 0, none⟩) l.length c ∧ g < w.heap.size ∧ ∀ i (hi : i < l.length), w.cell? ⟨g, i, none⟩ = some (.string l[i]) := by
  rcases h.2 with ⟨h1, h2⟩ | ⟨g, cap, cur, h1, _, h3, h4, h5, h6, h7⟩
  · exact .inl ⟨h1, List.eq_nil_of_length_eq_zero h2⟩
  · refine .inr ⟨g, cap, h1, (Array.getElem?_eq_some_iff.1 h3).1, fun i hi => ?_⟩
    rw [cell_of_row w g _ _ _ _ h3]
    have : (strs l)[i]? = some (.string l[i]) := by simp [strs, hi]
    rw [← h7, List.getElem?_take] at this
    split at this
    · simpa using this
    · cases this
set_option maxHeartbeats 1000000 in
set_option maxRecDepth 100000 in
theorem SameTexts_any {w : World} {b1 b2 : Nat} {v1 v2 : Value} {l : List ByteArray} (h1 : w.ownsRow b1 9 1 v1 l.length (strs l)) (h2 : w.ownsRow b2 9 1 v2 l.length (strs l)) (hl : l.length ≤ 1000) :
    Calls Tryz.prog 21 #[v1, v2] w fun e w' => e = .returned (.bool true) ∧ Below w.heap.size w w' := by
  rcases names_cell h1 with ⟨rfl, rfl⟩ | ⟨g1, c1, rfl, gl1, k1⟩
  · have e2 : v2 = .slice none 0 0 ∨ ∃ g c, v2 = .slice (some ⟨g, 0, none⟩) 0 c := by
      rcases names_cell h2 with ⟨h, _⟩ | ⟨g, c, h, _, _⟩
      · exact .inl h
      · exact .inr ⟨g, c, h⟩
    clear h1 h2
    rcases e2 with rfl | ⟨g, c, rfl⟩
    · go_enter Tryz.func21, Tryz.ntmps21
      go_wp2
      go_loopw [5] (fun i wr => i = .int .i64 0 ∧ wr = w) (fun _ _ => 0)
      case atStart => exact ⟨rfl, rfl⟩
      case round =>
        obtain ⟨rfl, rfl⟩ := hrel
        go_wp2
        go_ret
        exact ⟨rfl, Below.refl _ _⟩
    · go_enter Tryz.func21, Tryz.ntmps21
      go_wp2
      go_loopw [5] (fun i wr => i = .int .i64 0 ∧ wr = w) (fun _ _ => 0)
      case atStart => exact ⟨rfl, rfl⟩
      case round =>
        obtain ⟨rfl, rfl⟩ := hrel
        go_wp2
        go_ret
        exact ⟨rfl, Below.refl _ _⟩
  · rcases names_cell h2 with ⟨rfl, rfl⟩ | ⟨g2, c2, rfl, gl2, k2⟩
    · clear h1 h2
      go_enter Tryz.func21, Tryz.ntmps21
      go_wp2
      go_loopw [5] (fun i wr => i = .int .i64 0 ∧ wr = w) (fun _ _ => 0)
      case atStart => exact ⟨rfl, rfl⟩
      case round =>
        obtain ⟨rfl, rfl⟩ := hrel
        go_wp2
        go_ret
        exact ⟨rfl, Below.refl _ _⟩
    · have K1 := hide k1
      have K2 := hide k2
      clear h1 h2 k1 k2
      go_enter Tryz.func21, Tryz.ntmps21
      go_wp2
      go_loopw [5] (fun i wr => ∃ k q : Nat, k ≤ l.length ∧ i = .int .i64 k ∧ wr = w.drewN q) (fun i _ => l.length - (intOf i).toNat)
      case atStart => exact ⟨0, 0, Nat.zero_le _, rfl, rfl⟩
      case round =>
        obtain ⟨k, q, hk, rfl, rfl⟩ := hrel
        by_cases hlt : k < l.length
        · have d1 := unhide K1 k hlt
          have d2 := unhide K2 k hlt
          generalize l[k] = nm at d1 d2
          have hz : (k : Int) < (l.length : Int) := by omega
          have hq : (nm.toList == nm.toList) = true := by simp
          go_wp2_with fail
          go_quiet (fail)
          go_wp2
          go_roundw
          case rel => exact ⟨k + 1, q + nq, by omega, by go_num, rfl⟩
          case measure => simp [intOf]; omega
        · go_wp2
          go_ret
          exact ⟨rfl, belowD (Below.refl _ _)⟩
end Sft
/-- files made behind w -/
structure Fo (w : World) (bf bc : Nat) (m k : Img) (last : Int) (W : World) : Prop where
  it : ∃ cs ds, Fl W bf bc cs ds m k last
  bel : Below w.heap.size w W
  f0 : w.heap.size ≤ bf
  c0 : w.heap.size ≤ bc
section
variable {w W W' : World} {bf bc : Nat} {m k : Img} {last : Int}
theorem Fo.call (h : Fo w bf bc m k last W) (hb : Below W.heap.size W W') : Fo w bf bc m k last W' := by
  obtain ⟨cs, ds, f⟩ := h.it
  exact ⟨⟨cs, ds, f.below hb⟩, h.bel.trans (hb.mono h.bel.size), h.f0, h.c0⟩
theorem Fo.new (w : World) {W : World} (hb : Below w.heap.size w W) : Calls Tryz.prog 36 #[] W fun e w' => ∃ bf bc, e = .returned (.pointer (some ⟨bf, 0, none⟩)) ∧ W.heap.size ≤ bf ∧ W.heap.size ≤ bc ∧ Fo w bf bc blankI blankI 0 w' ∧ Below W.heap.size W w' := by
  refine (sNew_any W).mono ?_
  rintro e w' ⟨⟨bf, bc, rfl, h1, h2, f⟩, b⟩
  exact ⟨bf, bc, rfl, h1, h2, ⟨⟨_, _, f⟩, hb.trans (b.mono hb.size), Nat.le_trans hb.size h1, Nat.le_trans hb.size h2⟩, b⟩
theorem Fo.step (h : Fo w bf bc m k last W) (hG : Img.Good m last) (hla : last < 4611686018427387904) (x : Stp) (hn : x.name.size ≤ maxLen) (ht : x.to.size ≤ maxLen) (hx : x.text.size ≤ maxLen) :
    Calls Tryz.prog 40 #[.pointer (some ⟨bf, 0, none⟩), .agg (stpA x)] W fun e w' => e = .returned (.int .i64 (Img.scode m k x)) ∧ Fo w bf bc (Img.sstep m k last x) k (Img.slast m k last x) w' ∧ Idl.Chg (fun i => i = bf ∨ i = bc) W w' := by
  obtain ⟨cs, ds, f⟩ := h.it
  refine (sDo_any f hG hla x hn ht hx).mono ?_
  rintro e w' ⟨rfl, d⟩
  obtain ⟨cs', f'⟩ := d.fl f.disk
  obtain ⟨_, hm, _⟩ := d
  have hb := hm.chg.below h.bel.size (fun i hi => by rcases hi with z | z; rw [z]; exact h.f0; rw [z]; exact h.c0)
  exact ⟨rfl, ⟨⟨cs', ds, f'⟩, h.bel.trans hb, h.f0, h.c0⟩, hm.chg⟩
theorem Fo.mut (h : Fo w bf bc m k last W) {cs ds es : Array Value} {k' : Img} (f : Fl W bf bc cs ds m k last) (hm : Mut W W' bc (cs ++ es) 57) (he : IsImg es k') : Fo w bf bc m k' last W' :=
  ⟨⟨cs, es, by rw [hm.old bf f.flt f.ne]; exact f.root, hm.row, f.now, he, f.ne⟩, h.bel.trans (hm.below _ h.c0 h.bel.size), h.f0, h.c0⟩
theorem Fo.write (h : Fo w bf bc m k last W) (b : Int) :
    Calls Tryz.prog 56 #[.pointer (some ⟨bc, 0, none⟩), .int .i64 b] W fun e w' => e = .returned (.bool (Img.inB b)) ∧ Fo w bf bc m (Img.write m k b) last w' ∧ ∃ c, Mut W w' bc c 57 := by
  obtain ⟨cs, ds, f⟩ := h.it
  refine (cWrite_any bc cs ds m k f.now f.disk b W f.row).mono ?_
  rintro e w' ⟨es, rfl, he, hm⟩
  exact ⟨rfl, h.mut f hm he, _, hm⟩
theorem Fo.sync (h : Fo w bf bc m k last W) :
    Calls Tryz.prog 29 #[.pointer (some ⟨bc, 0, none⟩)] W fun e w' => e = .returned (.int .i64 ((Img.syn m 8 k).1 : Nat)) ∧ Fo w bf bc m (Img.syn m 8 k).2 last w' ∧ ∃ c, Mut W w' bc c 57 := by
  obtain ⟨cs, ds, f⟩ := h.it
  refine (cSync_any bc cs ds m k f.now f.disk W f.row).mono ?_
  rintro e w' ⟨es, rfl, he, hm⟩
  exact ⟨rfl, h.mut f hm he, _, hm⟩
theorem Fo.list (h : Fo w bf bc m k last W) (hm : m.check = 0) (d : Int) :
    Calls Tryz.prog 22 #[.pointer (some ⟨bf, 0, none⟩), .int .i64 d] W fun e w' => ∃ v, e = .returned v ∧ w'.ownsRow W.heap.size 9 1 v (Img.snames m d).length (strs (Img.snames m d)) ∧ Fo w bf bc m k last w' ∧ Below W.heap.size W w' := by
  obtain ⟨cs, ds, f⟩ := h.it
  refine (sList_any f hm d).mono ?_
  rintro e w' ⟨v, rfl, ho, b⟩
  exact ⟨v, rfl, ho, h.call b, b⟩
theorem Fo.cells (h : Fo w bf bc m k last W) : W.cell? ⟨bf, 0, none⟩ = some (.pointer (some ⟨bc, 0, none⟩)) ∧ bf < W.heap.size ∧ bc < W.heap.size ∧ HasAt W bc 0 m ∧ HasAt W bc 94 k := by
  obtain ⟨cs, ds, f⟩ := h.it
  exact ⟨f.ptr, f.flt, f.clt, f.hasNow, f.hasDisk⟩
end
namespace Sft
def sA : ByteArray := ⟨#[97]⟩
def sB : ByteArray := ⟨#[98]⟩
theorem blank_ex : blankI.exact = true := by kernel_rfl
theorem blank_dead : Img.anyB blankI.live 8 = false := by kernel_rfl
theorem good0 : Img.Good blankI 0 := ⟨Img.ex_iff.1 blank_ex, Int.le_refl _, fun n hn hl => by rw [Img.anyB_false.1 blank_dead n hn] at hl; cases hl⟩
theorem small (n : Nat) (h : n ≤ 1) : n ≤ maxLen := by unfold maxLen; omega
end Sft
end Go.Proofs.YtlbgkpibaahglacGreat
namespace Go.Proofs.YtlbgkpibaahglacGreat
namespace Img
open Idl (Stp chk)
variable {now disk : Img} {last : Int}
structure Lies (now disk : Img) : Prop where
  slot : Slotty now disk
  free : Empties disk
theorem Lies.write (hn : now.check = 0) (h : Lies now disk) (b : Int) : Lies now (Img.write now disk b) := by
  rcases blocks b with z | ⟨k, hk, rfl⟩ | ⟨d, hd, rfl⟩ | ⟨x, hx, rfl⟩
  · rw [write_out z]; exact h
  · rw [write_ino hk]
    have hr := wInos_rest now disk (k * 4) 4
    have he : ∀ d s, (wInos now disk (k * 4) 4).entry d s = disk.entry d s := fun d s => by unfold entry; rw [hr.1, hr.2.1, hr.2.2.1]
    exact ⟨fun d s hd hs h1 h2 => by rw [he]; exact h.slot d s hd hs h1 (by rw [← named_of_entry (he d s)]; exact h2), fun d s hd hs h1 => by rw [he]; exact h.free d s hd hs (by rw [← named_of_entry (he d s)]; exact h1)⟩
  · rw [write_dir hd]
    have hM := (Mix.refl now disk).wDir hd 4 (by omega)
    exact ⟨hM.slotty h.slot, hM.empties h.free (fun d s hd hs hu => empty_unnamed hn hd hs hu)⟩
  · rw [write_data hx]
    exact ⟨h.slot, h.free⟩
theorem Lies.down (hn : now.check = 0) : ∀ b {D : Img}, Lies now D → Lies now (Img.down now D b)
  | 0, _, h => h
  | b + 1, _, h => by unfold Img.down; exact Lies.down hn b (h.write hn _)
theorem Lies.clean (hx : Ex now) {D : Img} (h : Lies now D) : Agree now (Img.syn now 8 D).2 := by
  have hn := hx.ok
  cases e : sameImg now D
  case true => rw [syn_stop e]; exact same_iff.1 e
  rw [syn_step e]
  have h1 := h.down hn 14
  have r1 := round_of hn h.slot
  generalize Img.down now D 14 = D1 at h1 r1
  show Agree now (Img.syn now 7 D1).2
  cases e1 : sameImg now D1
  case true => rw [syn_stop e1]; exact same_iff.1 e1
  rw [syn_step e1]
  have h2 := h1.down hn 14
  have r2 := round_of hn h1.slot
  have f2 := full_of hn r1
  generalize Img.down now D1 14 = D2 at h2 r2 f2
  show Agree now (Img.syn now 6 D2).2
  cases e2 : sameImg now D2
  case true => rw [syn_stop e2]; exact same_iff.1 e2
  rw [syn_step e2]
  have a3 := done_of hx r2 f2 h2.free
  generalize Img.down now D2 14 = D3 at a3
  show Agree now (Img.syn now 5 D3).2
  rw [syn_stop (same_iff.2 a3)]
  exact a3
theorem added_other (d : Int) (s : ByteArray) (n : Nat) {k : Nat} (hS : SlotAt now disk d k) {e t : Nat} (h : ¬ (e = d.toNat ∧ t = k)) : (added now disk d s n).entry e t = now.entry e t := by
  unfold added
  rw [hS.eq, Int.toNat_natCast]
  exact putEnt_other now _ h
theorem dropped_other (d : Int) (s : ByteArray) (e t : Nat) : (dropped now d s).entry e t = now.entry e t ∨ (dropped now d s).named e t = false := by
  have h1 : (dropped now d s).entry e t = (now.clear d.toNat (now.findAt d s.toList).toNat).entry e t := by
    unfold dropped
    split
    · rfl
    · rfl
  by_cases c : e = d.toNat ∧ t = (now.findAt d s.toList).toNat
  · right
    rw [named_of_entry h1, c.1, c.2]; exact clear_named_at
  · left
    rw [h1]; unfold entry; rw [clear_name c, clear_ino c, clear_est c]
theorem sstep_code {x : Stp} (h : scode now disk x ≠ 0) : sstep now disk last x = now := if_pos h
theorem slast_le (x : Stp) : slast now disk last x ≤ last + 1 := by
  unfold slast; split <;> omega
/-! is there room? -/
theorem anyB_at {p : Nat → Bool} : ∀ {n : Nat}, anyB p n = true → ∃ k, k < n ∧ p k = true := fun {n} h => by
  by_cases e : ∃ k, k < n ∧ p k = true
  · exact e
  · have : anyB p n = false := anyB_false.2 fun j hj => by
      cases z : p j
      · rfl
      · exact absurd ⟨j, hj, z⟩ e
    rw [this] at h; cases h
end Img
end Go.Proofs.YtlbgkpibaahglacGreat
namespace Go.Proofs.YtlbgkpibaahglacGreat
open Idl (Stp)
end Go.Proofs.YtlbgkpibaahglacGreat
