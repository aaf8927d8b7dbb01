/-
  The walk of (*soft.Files).List.
-/
import Derived.Test.YtfpfpnhpbnnmfadGreatDoorXba
import Derived.Lib.AppendZerosOnto
import Derived.Maps.AppendAt
namespace Go.Proofs.YtfpfpnhpbnnmfadGreatDoor
open Go.RowKit
open Idl (Stp chk stpA strs)
def Img.snames (m : Img) (d : Int) : List ByteArray := if 0 ≤ d ∧ d < 3 then sortN (Img.rawN m d.toNat 4) else []
theorem sortN_len {l : List ByteArray} (h : l.Nodup) : (sortN l).length = l.length := by
  have h1 : (sortN l).Nodup := (sortN_rise h).imp (fun {a b} z e => by rw [e, Idl.lt_irrefl] at z; cases z)
  exact ((List.perm_ext_iff_of_nodup h1 h).2 (sortN_mem h)).length_eq
theorem own_form1 {W : World} {base : Nat} {e : TypeId} {size : Nat} {v : Value} {n : Nat} {xs : List Value} (h : W.ownsRow base e size v n xs) : ∃ a cap, v = .slice a n cap ∧ n ≤ cap := by
  rcases h.2 with ⟨rfl, rfl⟩ | ⟨g, cap, cur, rfl, _, _, hm, _⟩
  · exact ⟨_, _, rfl, Nat.le_refl _⟩
  · exact ⟨_, _, rfl, hm⟩
/-- the names so far: a row of one's own, and the box that holds it -/
structure Nms (w : World) (bx : Nat) (v : Value) (l : List ByteArray) (W : World) : Prop where
  row : W.ownsRow w.heap.size 9 1 v l.length (strs l)
  box : W.heap[bx]? = some (.cells #[v] 22)
  ne : v.ownBlock ≠ some bx
  bel : Below w.heap.size w W
  lo : w.heap.size ≤ bx
section
variable {w W W' : World} {bx : Nat} {v : Value} {l : List ByteArray}
theorem Nms.call (h : Nms w bx v l W) (hb : Below W.heap.size W W') : Nms w bx v l W' :=
  ⟨Idl.ownsRow_of_block h.row (fun q hq => hb.block q (h.row.lt q hq).2), by rw [hb.block _ (Array.getElem?_eq_some_iff.1 h.box).1]; exact h.box, h.ne, h.bel.trans (hb.mono h.bel.size), h.lo⟩
theorem Nms.more (h : Nms w bx v l W) {v' : Value} {nm : ByteArray} (ho : W'.ownsRow w.heap.size 9 1 v' (l.length + 1) (strs l ++ [.string nm])) (hg : W.grownBy W' v.ownBlock) (ha : v'.ownBlock = v.ownBlock ∨ v'.ownBlock = some W.heap.size) :
    Nms w bx v' (l ++ [nm]) (W'.setCell ⟨bx, 0, none⟩ v') := by
  have hbx : bx < W.heap.size := (Array.getElem?_eq_some_iff.1 h.box).1
  have hb : W'.heap[bx]? = some (.cells #[v] 22) := by rw [hg.block bx hbx (fun e => h.ne e.symm)]; exact h.box
  have hoth : ∀ q, q ≠ bx → (W'.setCell ⟨bx, 0, none⟩ v').heap[q]? = W'.heap[q]? := fun q hq => Below.heap_setCell _ _ _ _ hq
  have hsz : (W'.setCell ⟨bx, 0, none⟩ v').heap.size = W'.heap.size := by simp [World.setCell]
  have hne : v'.ownBlock ≠ some bx := by
    rcases ha with e | e
    · rw [e]; exact h.ne
    · rw [e]; intro z; cases z; omega
  refine ⟨?_, ?_, hne, h.bel.trans ⟨hg.os, hg.tape, hg.output, by rw [hsz]; exact hg.size, fun q hq => ?_⟩, h.lo⟩
  · have e : strs (l ++ [nm]) = strs l ++ [.string nm] := by simp [strs]
    rw [e, List.length_append]
    exact Idl.ownsRow_of_block ho (fun q hq => hoth q (fun z => hne (by rw [← z]; exact hq)))
  · rw [setCell_eq_setRow W' bx 0 _ _ _ v' hb, setRow_heap W' bx _ _ _ _ hb]; rfl
  · have := h.lo
    rw [hoth q (by omega)]
    refine hg.block q (Nat.lt_of_lt_of_le hq h.bel.size) (fun e => ?_)
    have := (h.row.lt q e.symm).1
    omega
end
theorem dir_ent {cs ds : Array Value} {m : Img} (h : IsImg cs m) {d s : Nat} (hd : d < 3) (hs : s < 4) : ((cs ++ ds).extract (40 + d * 12) (40 + d * 12 + 12)).extract (s * 3) (s * 3 + 3) = #[.string (m.name d s), .int .i64 (m.ino d s), .int .i64 (m.est d s)] := by
  have hz := h.size
  have h0 := h.name d s hd hs
  have h1 := h.ino d s hd hs
  have h2 := h.est d s hd hs
  refine Array.ext_getElem? fun i => ?_
  rw [Array.getElem?_extract, Array.getElem?_extract]
  simp only [Array.size_extract, Array.size_append, hz]
  by_cases hi : i < 3
  · rw [if_pos (by omega), if_pos (by omega), Array.getElem?_append, if_pos (by omega)]
    have : i = 0 ∨ i = 1 ∨ i = 2 := by omega
    rcases this with rfl | rfl | rfl
    · rw [show 40 + d * 12 + (s * 3 + 0) = 40 + d * 12 + s * 3 by omega, h0]; rfl
    · rw [show 40 + d * 12 + (s * 3 + 1) = 40 + d * 12 + s * 3 + 1 by omega, h1]; rfl
    · rw [show 40 + d * 12 + (s * 3 + 2) = 40 + d * 12 + s * 3 + 2 by omega, h2]; rfl
  · rw [if_neg (by omega)]
    simp; omega
section
variable {w : World} {bf bc : Nat} {cs ds : Array Value} {m k : Img} {last : Int}
set_option maxHeartbeats 4000000 in
set_option maxRecDepth 100000 in
theorem sList_any (h : Fl w bf bc cs ds m k last) (hm : m.check = 0) (d : Int) :
    Calls Tryz.prog 55 #[.pointer (some ⟨bf, 0, none⟩), .int .i64 d] w fun e w' => ∃ v, e = .returned v ∧ w'.ownsRow w.heap.size 9 1 v (Img.snames m d).length (strs (Img.snames m d)) ∧ Below w.heap.size w w' := by
  by_cases hd0 : d < 0
  · have e0 : Img.snames m d = [] := by unfold Img.snames; rw [if_neg (by omega)]
    rw [e0]
    have u1 : decide (d < 0) = true := by simpa using hd0
    clear h hd0
    go_enter Tryz.func55, Tryz.ntmps55
    go_wp2_with fail
    go_ret
    exact ⟨_, rfl, World.ownsRow_nil _ _ _ _, Below.refl _ _⟩
  · by_cases hd3 : 3 ≤ d
    · have e0 : Img.snames m d = [] := by unfold Img.snames; rw [if_neg (by omega)]
      rw [e0]
      have u1 : decide (d < 0) = false := by simpa using hd0
      have u2 : decide (d ≥ 3) = true := by simpa using hd3
      have u3 : decide (3 ≤ d) = true := by simpa using hd3
      clear h hd0 hd3
      go_enter Tryz.func55, Tryz.ntmps55
      go_wp2_with fail
      go_ret
      exact ⟨_, rfl, World.ownsRow_nil _ _ _ _, Below.refl _ _⟩
    · obtain ⟨dd, rfl⟩ := Int.eq_ofNat_of_zero_le (show 0 ≤ d by omega)
      have hd : dd < 3 := by omega
      have e0 : Img.snames m (dd : Int) = sortN (Img.rawN m dd 4) := by unfold Img.snames; rw [if_pos (by omega), Int.toNat_natCast]
      rw [e0]
      obtain ⟨i0, hi0, hz0, hz1, hz2⟩ := Idl.str_info
      have u1 : decide ((dd : Int) < 0) = false := by simp
      have u2 : decide ((dd : Int) ≥ 3) = false := by simp; omega
      have u3 : decide (3 ≤ (dd : Int)) = false := by simp; omega
      have dz : (dd : Int) < 3 := by omega
      have z1 := h.now.size
      have HN := hide h.now
      have HNM := hide (Img.rawN_nodup hm hd (n := 4) (Nat.le_refl _))
      have HRL := hide (Img.rawN_len m dd)
      have ROWC := hide (show (w.alloc (.cells #[.slice none 0 0] 22)).heap[bc]? = some (.cells (cs ++ ds) 141) by rw [Below.heap_alloc _ _ _ h.clt]; exact h.row)
      have p0 : (w.alloc (.cells #[.slice none 0 0] 22)).cell? ⟨bf, 0, none⟩ = some (.pointer (some ⟨bc, 0, none⟩)) := (h.below ((Below.refl _ w).alloc (Nat.le_refl _) _)).ptr
      have l0 : bf < (w.alloc (.cells #[.slice none 0 0] 22)).heap.size := (h.below ((Below.refl _ w).alloc (Nat.le_refl _) _)).flt
      have l1 : bc < (w.alloc (.cells #[.slice none 0 0] 22)).heap.size := (h.below ((Below.refl _ w).alloc (Nat.le_refl _) _)).clt
      have START := hide (show Nms w w.heap.size (.slice none 0 0) [] (w.alloc (.cells #[.slice none 0 0] 22)) from ⟨World.ownsRow_nil _ _ _ _, heap_alloc_last _ _, (by intro z; cases z), (Below.refl _ w).alloc (Nat.le_refl _) _, Nat.le_refl _⟩)
      have EX := hide fun i (hi : i < 4) => dir_ent (unhide HN) (ds := ds) hd hi
      obtain ⟨X, hX⟩ : ∃ X, X = (cs ++ ds).extract (40 + dd * 12) (40 + dd * 12 + 12) := ⟨_, rfl⟩
      rw [← hX] at EX
      have HX := hide hX
      clear h hX e0 hd0 hd3
      go_enter Tryz.func55, Tryz.ntmps55
      go_wp2_with (refine wpList_load_part rfl 72 _ rfl bc (40 + dd * 12) 12 rfl 141 (cs ++ ds) _ (unhide ROWC) Tryz.underlying72 rfl dir_info (by rw [Array.size_append, z1]; omega) ?_; rw [← unhide HX])
      go_loopw [24] (fun i W => ∃ j v, j ≤ 4 ∧ i = .int .i64 ((j : Nat) : Int) ∧ Hid (Nms w w.heap.size v (Img.rawN m dd j) W)) (fun i _ => 4 - (intOf i).toNat)
      case atStart => exact ⟨0, _, by omega, rfl, START⟩
      case round =>
        clear START p0 l0 l1 ROWC HX
        obtain ⟨j, v, hj, rfl, HW⟩ := hrel
        by_cases hlt : j < 4
        · have jz : (j : Int) < 4 := by omega
          have ej := unhide EX j hlt
          have EJ := hide ej
          have RAW := hide (show Img.rawN m dd (j + 1) = Img.rawN m dd j ++ (if m.named dd j then [m.name dd j] else []) from rfl)
          have hln := unhide HRL j
          have hnam : (m.name dd j).toList.isEmpty = !m.named dd j := by unfold Img.named; simp
          obtain ⟨a, c, rfl, _⟩ := own_form1 (unhide HW).row
          generalize Img.rawN m dd j = l at RAW hln HW
          generalize m.named dd j = nb at RAW hnam
          generalize m.name dd j = nm at EJ RAW hnam
          generalize m.ino dd j = ia at EJ
          generalize m.est dd j = es at EJ
          clear ej EX
          have tj : decide ((j : Int) < 4) = true := by simpa using jz
          cases nb
          · have hE : nm.toList.isEmpty = true := by simpa using hnam
            have E1 := hide (show Img.rawN m dd (j + 1) = l by rw [unhide RAW]; simp)
            clear hnam RAW
            go_wp2_with (first | (refine wpList_val (v := .agg #[.string nm, .int .i64 ia, .int .i64 es]) rfl (by rw [← unhide EJ]; exact Op1.iv_slot (.tmp 23) (.tmp 24) rfl rfl rfl hlt _) ?_) | (refine wpList_store_row rfl 71 _ _ rfl wr.heap.size #[.string nm, .int .i64 ia, .int .i64 es] rfl rfl 71 #[.string ⟨#[]⟩, .int .i64 0, .int .i64 0] (heap_alloc_last wr _) sz_ent rfl (by simp [Value.oneCell']) ?_; have BE := hide (below_setRow ((Below.refl wr.heap.size wr).alloc (Nat.le_refl _) (.cells #[.string ⟨#[]⟩, .int .i64 0, .int .i64 0] 71)) (Nat.le_refl _) #[.string nm, .int .i64 ia, .int .i64 es]); have RE := hide (setRow_heap _ _ _ #[.string nm, .int .i64 ia, .int .i64 es] _ _ (heap_alloc_last wr (.cells #[.string ⟨#[]⟩, .int .i64 0, .int .i64 0] 71))); generalize (wr.alloc (.cells #[.string ⟨#[]⟩, .int .i64 0, .int .i64 0] 71)).setRow wr.heap.size #[.string nm, .int .i64 ia, .int .i64 es] = WE at BE RE ⊢; have c6 : WE.cell? ⟨wr.heap.size, 0, none⟩ = some (.string nm) := (by rw [cell_of_row WE _ 0 _ _ _ (unhide RE)]; rfl); have hlE : wr.heap.size < WE.heap.size := (Array.getElem?_eq_some_iff.1 (unhide RE)).1))
            go_roundw
            case rel => exact ⟨j + 1, _, by omega, by go_num, by rw [unhide E1]; exact (unhide HW).call (unhide BE)⟩
            case measure => simp [intOf]; omega
          · have hE : nm.toList.isEmpty = false := by simpa using hnam
            have E1 := hide (show Img.rawN m dd (j + 1) = l ++ [nm] by rw [unhide RAW]; simp)
            clear hnam RAW
            go_upto_region 8 with (first | (refine wpList_val (v := .agg #[.string nm, .int .i64 ia, .int .i64 es]) rfl (by rw [← unhide EJ]; exact Op1.iv_slot (.tmp 23) (.tmp 24) rfl rfl rfl hlt _) ?_) | (refine wpList_store_row rfl 71 _ _ rfl wr.heap.size #[.string nm, .int .i64 ia, .int .i64 es] rfl rfl 71 #[.string ⟨#[]⟩, .int .i64 0, .int .i64 0] (heap_alloc_last wr _) sz_ent rfl (by simp [Value.oneCell']) ?_; have BE := hide (below_setRow ((Below.refl wr.heap.size wr).alloc (Nat.le_refl _) (.cells #[.string ⟨#[]⟩, .int .i64 0, .int .i64 0] 71)) (Nat.le_refl _) #[.string nm, .int .i64 ia, .int .i64 es]); have RE := hide (setRow_heap _ _ _ #[.string nm, .int .i64 ia, .int .i64 es] _ _ (heap_alloc_last wr (.cells #[.string ⟨#[]⟩, .int .i64 0, .int .i64 0] 71))); generalize (wr.alloc (.cells #[.string ⟨#[]⟩, .int .i64 0, .int .i64 0] 71)).setRow wr.heap.size #[.string nm, .int .i64 ia, .int .i64 es] = WE at BE RE ⊢; have c6 : WE.cell? ⟨wr.heap.size, 0, none⟩ = some (.string nm) := (by rw [cell_of_row WE _ 0 _ _ _ (unhide RE)]; rfl); have hlE : wr.heap.size < WE.heap.size := (Array.getElem?_eq_some_iff.1 (unhide RE)).1))
            have HW1 := hide ((unhide HW).call (unhide BE))
            have c5 : WE.cell? ⟨w.heap.size, 0, none⟩ = some (.slice a l.length c) := by rw [cell_of_row WE _ 0 _ _ _ (unhide HW1).box]; rfl
            have hl5 : w.heap.size < WE.heap.size := (Array.getElem?_eq_some_iff.1 (unhide HW1).box).1
            have HW2 := hide ((unhide HW1).call ((Below.refl _ _).alloc (Nat.le_refl _) (.cells #[.string nm] 9)))
            obtain ⟨v', W5, hrun, ho5, hg5, _, ha5⟩ := run_append_own_at (P := Tryz.prog) (WE.alloc (.cells #[.string nm] 9)) w.heap.size 22 22 9 i0 _ 1 16 Tryz.underlying22 hi0 hz0 hz1 hz2 rfl (by omega) _ l.length (strs l) (unhide HW2).row ⟨WE.heap.size, 0, none⟩ 1 1 [.string nm] rfl (Idl.one_new _ _ _ _ rfl) (Idl.one_str nm) (by unfold maxLen; omega) (by omega) (by have := (unhide HW2).bel.size; exact this)
            have DONE := hide ((unhide HW2).more ho5 hg5 ha5)
            obtain ⟨a', c', rfl, _⟩ := own_form1 ho5
            have c7 : W5.cell? ⟨w.heap.size, 0, none⟩ = some (.slice a l.length c) := by
              rw [World.cell?_of_block (hg5.block w.heap.size (Array.getElem?_eq_some_iff.1 (unhide HW2).box).1 (fun z => (unhide HW2).ne z.symm)), cell_of_row _ _ 0 _ _ _ (unhide HW2).box]; rfl
            have z7 : W5.frozen? ⟨w.heap.size, 0, none⟩ = false := by
              rw [World.frozen?_of_block (hg5.block w.heap.size (Array.getElem?_eq_some_iff.1 (unhide HW2).box).1 (fun z => (unhide HW2).ne z.symm))]; exact frozen_of_row _ _ 0 _ _ (unhide HW2).box
            clear ho5 hg5 ha5
            go_wp2_with (at_builtin; refine Lib.wpList_append_run _ rfl _ _ _ _ rfl _ _ rfl rfl _ _ hrun ?_)
            go_roundw
            case rel => exact ⟨j + 1, _, by omega, by go_num, by rw [unhide E1]; exact unhide DONE⟩
            case measure => simp [intOf]; omega
        · have ej : j = 4 := by omega
          subst ej
          have tj : decide (((4 : Nat) : Int) < 4) = false := by decide
          obtain ⟨a, c, rfl, _⟩ := own_form1 (unhide HW).row
          have hl4 := unhide HRL 4
          have hnd := unhide HNM
          obtain ⟨l, hl⟩ : ∃ l, l = Img.rawN m dd 4 := ⟨_, rfl⟩
          rw [← hl] at HW hl4 hnd
          have HL := hide hl
          clear hl
          have c5 : wr.cell? ⟨w.heap.size, 0, none⟩ = some (.slice a l.length c) := by rw [cell_of_row wr _ 0 _ _ _ (unhide HW).box]; rfl
          have C1 := hide (sorts_any l hnd (by omega) (unhide HW).row (unhide HW).box (unhide HW).ne)
          go_wp2_with fail
          refine (unhide C1).mono ?_
          rintro e w9 ⟨rfl, ho9, hg9⟩
          have HO9 := hide ho9
          have hb9 : w9.heap[w.heap.size]? = some (.cells #[.slice a l.length c] 22) := by
            rw [hg9.block _ (Array.getElem?_eq_some_iff.1 (unhide HW).box).1 (fun z => (unhide HW).ne z.symm)]; exact (unhide HW).box
          have BEL := hide ((unhide HW).bel.grown hg9 (unhide HW).bel.size (fun q hq => ((unhide HW).row.lt q hq).1))
          have c9 : w9.cell? ⟨w.heap.size, 0, none⟩ = some (.slice a l.length c) := by rw [cell_of_row w9 _ 0 _ _ _ hb9]; rfl
          clear ho9 hg9 hb9 C1 c5
          go_wp2_with fail
          go_ret
          refine ⟨_, rfl, ?_, unhide BEL⟩
          rw [← unhide HL, sortN_len hnd]
          exact unhide HO9
end
end Go.Proofs.YtfpfpnhpbnnmfadGreatDoor
