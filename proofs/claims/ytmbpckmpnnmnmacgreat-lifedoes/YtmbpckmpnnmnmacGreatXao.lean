/-
  The walks of package cache: Inode, Slot, Data.
-/
import Derived.Test.YtmbpckmpnnmnmacGreatXan
import Derived.Test.YtmbpckmpnnmnmacGreatXah
import Derived.Test.YtmbpckmpnnmnmacGreatXva
namespace Go.Proofs.YtmbpckmpnnmnmacGreat
open Go.RowKit
set_option maxHeartbeats 1000000 in
theorem inode1_any (W : World) (bx g : Nat) (m k : Img) (n : Nat) (hn : n < 8) (h1 : W.cell? ⟨bx, 0, none⟩ = some (.pointer (some ⟨g, 0, none⟩))) (hm : HasAt W g 0 m) (hk : HasAt W g 94 k) :
    Calls Tryz.prog 130 (#[.int .i64 n] ++ #[.pointer (some ⟨bx, 0, none⟩)]) W fun e w' => e = .returned (.bool (!m.live n && (k.refs (n : Int) == 0))) ∧ w' = W := by
  have hlv := hm.live n hn
  rw [Nat.zero_add] at hlv
  have hl := hm.lt
  have hr := k.refs_le (n : Int)
  have C := hide (At.refs_any g k (n : Int) W hk)
  clear hm hk
  show Calls Tryz.prog 130 #[.int .i64 n, .pointer (some ⟨bx, 0, none⟩)] W _
  cases hl : m.live n
  · rw [hl] at hlv
    cases hz : (k.refs (n : Int) == 0)
    · have hz2 : (((k.refs (n : Int) : Nat) : Int) == 0) = false := by simp at hz ⊢; omega
      generalize k.refs (n : Int) = r at C hz hz2 hr
      obtain ⟨rr, hrr⟩ : ∃ rr : Int, rr = (r : Int) := ⟨_, rfl⟩
      rw [← hrr] at C hz2
      clear hrr
      go_enter Tryz.func130, Tryz.ntmps130
      go_wp2_with fail
      refine (unhide C).mono ?_
      rintro e wz ⟨rfl, ez⟩
      rw [ez]
      clear ez wz C
      go_wp2_with fail
      go_ret
      exact ⟨rfl, rfl⟩
    · have hz2 : k.refs (n : Int) = 0 := by simpa using hz
      rw [hz2] at C
      clear hz hz2 hr
      go_enter Tryz.func130, Tryz.ntmps130
      go_wp2_with fail
      refine (unhide C).mono ?_
      rintro e wz ⟨rfl, ez⟩
      rw [ez]
      clear ez wz C
      go_wp2_with fail
      go_ret
      exact ⟨rfl, rfl⟩
  · rw [hl] at hlv
    go_enter Tryz.func130, Tryz.ntmps130
    go_wp2_with fail
    go_ret
    exact ⟨rfl, rfl⟩
set_option maxHeartbeats 1000000 in
theorem data1_any (W : World) (bx g : Nat) (m k : Img) (x : Nat) (h1 : W.cell? ⟨bx, 0, none⟩ = some (.pointer (some ⟨g, 0, none⟩))) (hm : HasAt W g 0 m) (hk : HasAt W g 94 k) :
    Calls Tryz.prog 131 (#[.int .i64 x] ++ #[.pointer (some ⟨bx, 0, none⟩)]) W fun e w' => e = .returned (.bool (!m.holds (x : Int) && !k.holds (x : Int))) ∧ w' = W := by
  have C1 := hide (At.holds_any g m (x : Int) W hm)
  have C2 := hide (At.holds_any g k (x : Int) W hk)
  have hl := hm.lt
  clear hm hk
  show Calls Tryz.prog 131 #[.int .i64 x, .pointer (some ⟨bx, 0, none⟩)] W _
  cases hl1 : m.holds (x : Int)
  · rw [hl1] at C1
    cases hl2 : k.holds (x : Int)
    all_goals
      rw [hl2] at C2
      go_enter Tryz.func131, Tryz.ntmps131
      go_wp2_with fail
      refine (unhide C1).mono ?_
      rintro e wz ⟨rfl, ez⟩
      rw [ez]
      clear ez wz C1
      go_wp2_with fail
      refine (unhide C2).mono ?_
      rintro e wz ⟨rfl, ez⟩
      rw [ez]
      clear ez wz C2
      go_wp2_with fail
      go_ret
      exact ⟨rfl, rfl⟩
  · rw [hl1] at C1
    go_enter Tryz.func131, Tryz.ntmps131
    go_wp2_with fail
    refine (unhide C1).mono ?_
    rintro e wz ⟨rfl, ez⟩
    rw [ez]
    clear ez wz C1
    go_wp2_with fail
    go_ret
    exact ⟨rfl, rfl⟩
set_option maxHeartbeats 1000000 in
theorem slot1_any (W : World) (bx bd g : Nat) (m k : Img) (d s : Nat) (hd : d < 3) (hs : s < 4) (h1 : W.cell? ⟨bx, 0, none⟩ = some (.pointer (some ⟨g, 0, none⟩))) (h2 : W.cell? ⟨bd, 0, none⟩ = some (.int .i64 d)) (hm : HasAt W g 0 m) (hk : HasAt W g 94 k) :
    Calls Tryz.prog 132 (#[.int .i64 s] ++ #[.pointer (some ⟨bx, 0, none⟩), .pointer (some ⟨bd, 0, none⟩)]) W fun e w' => e = .returned (.bool (!m.named d s && !k.named d s)) ∧ ∃ q, w' = W.drewN q := by
  have n1 := hm.name d s hd hs
  have n2 := hk.name d s hd hs
  have hl := hm.lt
  have hdz : (d : Int) < 3 := by omega
  have hsz : (s : Int) < 4 := by omega
  clear hm hk
  have E : (!m.named d s && !k.named d s) = ((m.name d s).toList.isEmpty && (k.name d s).toList.isEmpty) := by unfold Img.named; simp
  rw [E]
  clear E
  show Calls Tryz.prog 132 #[.int .i64 s, .pointer (some ⟨bx, 0, none⟩), .pointer (some ⟨bd, 0, none⟩)] W _
  cases e1 : (m.name d s).toList.isEmpty
  · go_enter Tryz.func132, Tryz.ntmps132
    go_wp2_with fail
    go_quiet (fail)
    go_wp2_with fail
    go_ret
    exact ⟨rfl, _, rfl⟩
  · cases e2 : (k.name d s).toList.isEmpty
    all_goals
      go_enter Tryz.func132, Tryz.ntmps132
      go_wp2_with fail
      go_quiet (fail)
      go_wp2_with fail
      go_ret
      exact ⟨rfl, _, rfl⟩
section
variable {cs ds : Array Value} {m k : Img} {w W : World} {g : Nat}
theorem two_has (hi : IsImg cs m) (hj : IsImg ds k) (h : W.heap[g]? = some (.cells (cs ++ ds) 57)) (q : Nat) : HasAt (W.drewN q) g 0 m ∧ HasAt (W.drewN q) g 94 k := by
  have z1 := hi.size
  have z2 := hj.size
  exact ⟨hasAt_of (w := W.drewN q) h (by simp; omega) (app_fst z1) hi, hasAt_of (w := W.drewN q) h (by simp; omega) (app_snd z1 z2) hj⟩
end
set_option maxHeartbeats 1000000 in
theorem cInode_any (g : Nat) (cs ds : Array Value) (m k : Img) (hi : IsImg cs m) (hj : IsImg ds k) (w : World) (hg : w.heap[g]? = some (.cells (cs ++ ds) 57)) :
    Calls Tryz.prog 98 #[.pointer (some ⟨g, 0, none⟩)] w fun e w' => e = .returned (.int .i64 (Img.freeIno m k)) ∧ Below w.heap.size w w' := by
  have hgl : g < w.heap.size := (Array.getElem?_eq_some_iff.1 hg).1
  have eg : ∀ args w, (callFunc 130 args).run Tryz.prog w = .ok (.enter 130 args) w := enters_of Tryz.func130 (by kernel_rfl) rfl
  have hB : Below w.heap.size w (w.alloc (.cells #[.pointer (some ⟨g, 0, none⟩)] 51)) := (Below.refl _ _).alloc (Nat.le_refl _) _
  have hr : (w.alloc (.cells #[.pointer (some ⟨g, 0, none⟩)] 51)).heap[g]? = some (.cells (cs ++ ds) 57) := by rw [Below.heap_alloc _ _ _ hgl]; exact hg
  have hc : (w.alloc (.cells #[.pointer (some ⟨g, 0, none⟩)] 51)).cell? ⟨w.heap.size, 0, none⟩ = some (.pointer (some ⟨g, 0, none⟩)) := by rw [cell_of_row _ _ _ _ _ _ (heap_alloc_last _ _)]; rfl
  have HF := hide (show ∀ (q i : Nat), i < 8 → Calls Tryz.prog 130 (#[.int .i64 i] ++ #[.pointer (some ⟨w.heap.size, 0, none⟩)]) ((w.alloc (.cells #[.pointer (some ⟨g, 0, none⟩)] 51)).drewN q) fun e w' => e = .returned (.bool (!m.live i && (k.refs (i : Int) == 0))) ∧ ∃ r, w' = (w.alloc (.cells #[.pointer (some ⟨g, 0, none⟩)] 51)).drewN r from fun q i hi8 =>
    (inode1_any ((w.alloc (.cells #[.pointer (some ⟨g, 0, none⟩)] 51)).drewN q) w.heap.size g m k i hi8 hc (two_has hi hj hr q).1 (two_has hi hj hr q).2).mono fun e w' ⟨h1, h2⟩ => ⟨h1, q, h2⟩)
  clear hc hr hg
  go_enter Tryz.func98, Tryz.ntmps98
  go_wp2_with fail
  refine (first_any 130 #[.pointer (some ⟨w.heap.size, 0, none⟩)] 8 (fun n => !m.live n && (k.refs (n : Int) == 0)) _ eg (by omega) (unhide HF)).mono ?_
  rintro e w1 ⟨rfl, q, rfl⟩
  go_wp2_with fail
  go_ret
  exact ⟨rfl, belowN hB⟩
set_option maxHeartbeats 1000000 in
theorem cData_any (g : Nat) (cs ds : Array Value) (m k : Img) (hi : IsImg cs m) (hj : IsImg ds k) (w : World) (hg : w.heap[g]? = some (.cells (cs ++ ds) 57)) :
    Calls Tryz.prog 100 #[.pointer (some ⟨g, 0, none⟩)] w fun e w' => e = .returned (.int .i64 (Img.freeData m k)) ∧ Below w.heap.size w w' := by
  have hgl : g < w.heap.size := (Array.getElem?_eq_some_iff.1 hg).1
  have eg : ∀ args w, (callFunc 131 args).run Tryz.prog w = .ok (.enter 131 args) w := enters_of Tryz.func131 (by kernel_rfl) rfl
  have hB : Below w.heap.size w (w.alloc (.cells #[.pointer (some ⟨g, 0, none⟩)] 51)) := (Below.refl _ _).alloc (Nat.le_refl _) _
  have hr : (w.alloc (.cells #[.pointer (some ⟨g, 0, none⟩)] 51)).heap[g]? = some (.cells (cs ++ ds) 57) := by rw [Below.heap_alloc _ _ _ hgl]; exact hg
  have hc : (w.alloc (.cells #[.pointer (some ⟨g, 0, none⟩)] 51)).cell? ⟨w.heap.size, 0, none⟩ = some (.pointer (some ⟨g, 0, none⟩)) := by rw [cell_of_row _ _ _ _ _ _ (heap_alloc_last _ _)]; rfl
  have HF := hide (show ∀ (q i : Nat), i < 9 → Calls Tryz.prog 131 (#[.int .i64 i] ++ #[.pointer (some ⟨w.heap.size, 0, none⟩)]) ((w.alloc (.cells #[.pointer (some ⟨g, 0, none⟩)] 51)).drewN q) fun e w' => e = .returned (.bool (!m.holds (i : Int) && !k.holds (i : Int))) ∧ ∃ r, w' = (w.alloc (.cells #[.pointer (some ⟨g, 0, none⟩)] 51)).drewN r from fun q i _ =>
    (data1_any ((w.alloc (.cells #[.pointer (some ⟨g, 0, none⟩)] 51)).drewN q) w.heap.size g m k i hc (two_has hi hj hr q).1 (two_has hi hj hr q).2).mono fun e w' ⟨h1, h2⟩ => ⟨h1, q, h2⟩)
  clear hc hr hg
  go_enter Tryz.func100, Tryz.ntmps100
  go_wp2_with fail
  refine (first_any 131 #[.pointer (some ⟨w.heap.size, 0, none⟩)] 9 (fun x => !m.holds (x : Int) && !k.holds (x : Int)) _ eg (by omega) (unhide HF)).mono ?_
  rintro e w1 ⟨rfl, q, rfl⟩
  go_wp2_with fail
  go_ret
  exact ⟨rfl, belowN hB⟩
def slotBoxes (w : World) (g : Nat) (d : Int) : World := (w.alloc (.cells #[.pointer (some ⟨g, 0, none⟩)] 51)).alloc (.cells #[.int .i64 d] 3)
theorem slotBoxes_cells (w : World) (g : Nat) (d : Int) : (slotBoxes w g d).cell? ⟨w.heap.size, 0, none⟩ = some (.pointer (some ⟨g, 0, none⟩)) ∧ (slotBoxes w g d).cell? ⟨w.heap.size + 1, 0, none⟩ = some (.int .i64 d) :=
  ⟨by unfold slotBoxes; rw [cell_of_row _ _ _ _ _ _ (heap_alloc2_old _ _ _)]; rfl, by unfold slotBoxes; rw [cell_of_row _ _ _ _ _ _ (heap_alloc2_new _ _ _)]; rfl⟩
set_option maxHeartbeats 1000000 in
theorem cSlot_any (g : Nat) (cs ds : Array Value) (m k : Img) (hi : IsImg cs m) (hj : IsImg ds k) (d : Int) (w : World) (hg : w.heap[g]? = some (.cells (cs ++ ds) 57)) :
    Calls Tryz.prog 101 #[.pointer (some ⟨g, 0, none⟩), .int .i64 d] w fun e w' => e = .returned (.int .i64 (Img.freeSlot m k d)) ∧ Below w.heap.size w w' := by
  have hgl : g < w.heap.size := (Array.getElem?_eq_some_iff.1 hg).1
  have eg : ∀ args w, (callFunc 132 args).run Tryz.prog w = .ok (.enter 132 args) w := enters_of Tryz.func132 (by kernel_rfl) rfl
  have hB : Below w.heap.size w (slotBoxes w g d) := ((Below.refl _ _).alloc (Nat.le_refl _) _).alloc (by simp) _
  obtain ⟨c1, c2⟩ := slotBoxes_cells w g d
  have hr : (slotBoxes w g d).heap[g]? = some (.cells (cs ++ ds) 57) := by rw [hB.block _ hgl]; exact hg
  by_cases hd : 0 ≤ d ∧ d < 3
  · obtain ⟨e, rfl⟩ := Int.eq_ofNat_of_zero_le hd.1
    have he : e < 3 := by omega
    have E : Img.freeSlot m k (e : Int) = Img.firstI (fun s => !m.named e s && !k.named e s) 4 := by unfold Img.freeSlot; rw [if_pos hd, Int.toNat_natCast]
    rw [E]
    clear E
    have HF := hide (show ∀ (q i : Nat), i < 4 → Calls Tryz.prog 132 (#[.int .i64 i] ++ #[.pointer (some ⟨w.heap.size, 0, none⟩), .pointer (some ⟨w.heap.size + 1, 0, none⟩)]) ((slotBoxes w g (e : Int)).drewN q) fun r w' => r = .returned (.bool (!m.named e i && !k.named e i)) ∧ ∃ r, w' = (slotBoxes w g (e : Int)).drewN r from fun q i hi4 =>
      (slot1_any ((slotBoxes w g (e : Int)).drewN q) w.heap.size (w.heap.size + 1) g m k e i he hi4 c1 c2 (two_has hi hj hr q).1 (two_has hi hj hr q).2).mono fun r w' ⟨h1, n, h2⟩ => ⟨h1, q + n, by rw [h2, drewNN]⟩)
    have t1 : decide ((e : Int) < 0) = false := by simp
    have t2 : decide (3 ≤ (e : Int)) = false := by simp; omega
    clear hr hg hd
    go_enter Tryz.func101, Tryz.ntmps101
    go_wp2_with fail
    rw [← slotBoxes.eq_1]
    refine (first_any 132 #[.pointer (some ⟨w.heap.size, 0, none⟩), .pointer (some ⟨w.heap.size + 1, 0, none⟩)] 4 (fun s => !m.named e s && !k.named e s) _ eg (by omega) (unhide HF)).mono ?_
    rintro e w1 ⟨rfl, q, rfl⟩
    go_wp2_with fail
    go_ret
    exact ⟨rfl, belowN hB⟩
  · have E : Img.freeSlot m k d = -1 := by unfold Img.freeSlot; rw [if_neg hd]
    rw [E]
    clear E
    by_cases h0 : d < 0
    · have t1 : decide (d < 0) = true := by simpa using h0
      clear h0 hd hr hg eg
      go_enter Tryz.func101, Tryz.ntmps101
      go_wp2_with fail
      go_ret
      exact ⟨rfl, hB⟩
    · have t1 : decide (d < 0) = false := by simpa using h0
      have t2 : decide (3 ≤ d) = true := by simp; omega
      have t3 : decide (d ≥ 3) = true := by simp; omega
      clear h0 hd hr hg eg
      go_enter Tryz.func101, Tryz.ntmps101
      go_wp2_with fail
      go_ret
      exact ⟨rfl, hB⟩
end Go.Proofs.YtmbpckmpnnmnmacGreat
namespace Go.Proofs.YtmbpckmpnnmnmacGreat
open Go.RowKit
open Idl (Stp chk stpA)
/-- files at the block bf: their cache lies at bc; what is to be, and what lies on the disk -/
structure Fl (w : World) (bf bc : Nat) (cs ds : Array Value) (m k : Img) (last : Int) : Prop where
  root : w.heap[bf]? = some (.cells #[.pointer (some ⟨bc, 0, none⟩), .int .i64 last] 53)
  row : w.heap[bc]? = some (.cells (cs ++ ds) 57)
  now : IsImg cs m
  disk : IsImg ds k
  ne : bf ≠ bc
section
variable {w w' : World} {bf bc : Nat} {cs ds : Array Value} {m k : Img} {last : Int}
theorem Fl.flt (h : Fl w bf bc cs ds m k last) : bf < w.heap.size := (Array.getElem?_eq_some_iff.1 h.root).1
theorem Fl.clt (h : Fl w bf bc cs ds m k last) : bc < w.heap.size := (Array.getElem?_eq_some_iff.1 h.row).1
theorem Fl.keep (h : Fl w bf bc cs ds m k last) (h1 : w'.heap[bf]? = w.heap[bf]?) (h2 : w'.heap[bc]? = w.heap[bc]?) : Fl w' bf bc cs ds m k last :=
  ⟨by rw [h1]; exact h.root, by rw [h2]; exact h.row, h.now, h.disk, h.ne⟩
theorem Fl.below (h : Fl w bf bc cs ds m k last) (hb : Below w.heap.size w w') : Fl w' bf bc cs ds m k last := h.keep (hb.block _ h.flt) (hb.block _ h.clt)
theorem Fl.ptr (h : Fl w bf bc cs ds m k last) : w.cell? ⟨bf, 0, none⟩ = some (.pointer (some ⟨bc, 0, none⟩)) := by rw [cell_of_row w bf 0 _ _ _ h.root]; rfl
theorem Fl.lst (h : Fl w bf bc cs ds m k last) : w.cell? ⟨bf, 1, none⟩ = some (.int .i64 last) := by rw [cell_of_row w bf 1 _ _ _ h.root]; rfl
theorem Fl.hasNow (h : Fl w bf bc cs ds m k last) : HasAt w bc 0 m := (two_has h.now h.disk h.row 0).1
theorem Fl.hasDisk (h : Fl w bf bc cs ds m k last) : HasAt w bc 94 k := (two_has h.now h.disk h.row 0).2
end
section
variable {w : World} {bf bc : Nat} {cs ds : Array Value} {m k : Img} {last : Int}
set_option maxHeartbeats 1000000 in
set_option maxRecDepth 100000 in
theorem sfind_any (h : Fl w bf bc cs ds m k last) (d : Int) (s : ByteArray) :
    Calls Tryz.prog 68 #[.pointer (some ⟨bf, 0, none⟩), .int .i64 d, .string s] w fun e w' => e = .returned (.int .i64 (Img.inoOf m d s)) ∧ w' = w := by
  have C := hide (At.find_any bc m d s w h.hasNow)
  have p0 := h.ptr
  have flt := h.flt
  have clt := h.clt
  by_cases hf : m.findAt d s.toList < 0
  · have e1 : Img.inoOf m d s = -1 := by unfold Img.inoOf; rw [if_pos hf]
    rw [e1]
    have u1 : decide (m.findAt d s.toList < 0) = true := by simpa using hf
    generalize m.findAt d s.toList = v at C u1
    clear hf h e1
    go_enter Tryz.func68, Tryz.ntmps68
    go_wp2_with fail
    refine (unhide C).mono ?_
    rintro e w0 ⟨rfl, e9⟩
    rw [e9]
    clear e9 w0
    go_wp2_with fail
    go_ret
    exact ⟨rfl, rfl⟩
  · obtain ⟨⟨d0, d3⟩, _, j, hj, e1, _, _⟩ := Img.findAt_some (Int.not_lt.1 hf)
    obtain ⟨dd, rfl⟩ := Int.eq_ofNat_of_zero_le d0
    have e2 : Img.inoOf m (dd : Int) s = m.ino dd j := by unfold Img.inoOf; rw [if_neg hf, e1, Int.toNat_natCast, Int.toNat_natCast]
    rw [e2]
    rw [e1] at C
    have c1 := h.hasNow.ino dd j (by omega) hj
    have dz : (dd : Int) < 3 := d3
    have jz : (j : Int) < 4 := by omega
    have u1 : decide ((j : Int) < 0) = false := by simp
    generalize m.ino dd j = v at c1
    clear hf h e1 e2
    go_enter Tryz.func68, Tryz.ntmps68
    go_wp2_with fail
    refine (unhide C).mono ?_
    rintro e w0 ⟨rfl, e9⟩
    rw [e9]
    clear e9 w0
    go_wp2_with fail
    go_ret
    exact ⟨rfl, rfl⟩
end
end Go.Proofs.YtmbpckmpnnmnmacGreat
namespace Go.Proofs.YtmbpckmpnnmnmacGreat
open Go.RowKit
/-- files that are being changed: what lay there ahead is as it was, but for their two blocks -/
structure Fm (w0 w : World) (bf bc : Nat) (rows : Array Value) (last : Int) : Prop where
  root : w.heap[bf]? = some (.cells #[.pointer (some ⟨bc, 0, none⟩), .int .i64 last] 53)
  row : w.heap[bc]? = some (.cells rows 57)
  ne : bf ≠ bc
  chg : Idl.Chg (fun i => i = bf ∨ i = bc) w0 w
section
variable {w0 w w' : World} {bf bc : Nat} {cs ds rows : Array Value} {m k : Img} {last : Int}
theorem Fl.fm (h : Fl w bf bc cs ds m k last) : Fm w w bf bc (cs ++ ds) last := ⟨h.root, h.row, h.ne, ⟨rfl, rfl, rfl, Nat.le_refl _, fun _ _ _ => rfl⟩⟩
theorem Fm.fl (h : Fm w0 w bf bc (cs ++ ds) last) (h1 : IsImg cs m) (h2 : IsImg ds k) : Fl w bf bc cs ds m k last := ⟨h.root, h.row, h1, h2, h.ne⟩
theorem Fm.flt (h : Fm w0 w bf bc rows last) : bf < w.heap.size := (Array.getElem?_eq_some_iff.1 h.root).1
theorem Fm.clt (h : Fm w0 w bf bc rows last) : bc < w.heap.size := (Array.getElem?_eq_some_iff.1 h.row).1
theorem Fm.ptr (h : Fm w0 w bf bc rows last) : w.cell? ⟨bf, 0, none⟩ = some (.pointer (some ⟨bc, 0, none⟩)) := by rw [cell_of_row w bf 0 _ _ _ h.root]; rfl
theorem Fm.lst (h : Fm w0 w bf bc rows last) : w.cell? ⟨bf, 1, none⟩ = some (.int .i64 last) := by rw [cell_of_row w bf 1 _ _ _ h.root]; rfl
theorem Fm.frozen (h : Fm w0 w bf bc rows last) (j : Nat) : w.frozen? ⟨bc, j, none⟩ = false := frozen_of_row w bc j _ _ h.row
theorem Fm.frozenF (h : Fm w0 w bf bc rows last) (j : Nat) : w.frozen? ⟨bf, j, none⟩ = false := frozen_of_row w bf j _ _ h.root
theorem Fm.call (h : Fm w0 w bf bc rows last) (hb : Below w.heap.size w w') : Fm w0 w' bf bc rows last :=
  ⟨by rw [hb.block _ h.flt]; exact h.root, by rw [hb.block _ h.clt]; exact h.row, h.ne, h.chg.trans (Idl.Chg.of_below (own := fun i => i = bf ∨ i = bc) hb) (fun i hi => .inl hi)⟩
theorem Fm.set (h : Fm w0 w bf bc rows last) (o : Nat) (v : Value) : Fm w0 (w.setCell ⟨bc, o, none⟩ v) bf bc (rows.setIfInBounds o v) last := by
  have hoth : ∀ i, i ≠ bc → (w.setCell ⟨bc, o, none⟩ v).heap[i]? = w.heap[i]? := fun i hi => Below.heap_setCell _ _ _ _ hi
  have hsz : (w.setCell ⟨bc, o, none⟩ v).heap.size = w.heap.size := by simp [World.setCell]
  refine ⟨by rw [hoth _ h.ne]; exact h.root, ?_, h.ne, h.chg.trans (own' := fun i => i = bc) ⟨rfl, rfl, rfl, by rw [hsz]; exact Nat.le_refl _, fun i _ hn => hoth i hn⟩ (fun i hi => .inl (.inr hi))⟩
  rw [setCell_eq_setRow w bc o _ _ _ v h.row, setRow_heap w bc _ _ _ _ h.row]
theorem Fm.setLast (h : Fm w0 w bf bc rows last) (v : Int) : Fm w0 (w.setCell ⟨bf, 1, none⟩ (.int .i64 v)) bf bc rows v := by
  have hoth : ∀ i, i ≠ bf → (w.setCell ⟨bf, 1, none⟩ (.int .i64 v)).heap[i]? = w.heap[i]? := fun i hi => Below.heap_setCell _ _ _ _ hi
  have hsz : (w.setCell ⟨bf, 1, none⟩ (.int .i64 v)).heap.size = w.heap.size := by simp [World.setCell]
  refine ⟨?_, by rw [hoth _ (Ne.symm h.ne)]; exact h.row, h.ne, h.chg.trans (own' := fun i => i = bf) ⟨rfl, rfl, rfl, by rw [hsz]; exact Nat.le_refl _, fun i _ hn => hoth i hn⟩ (fun i hi => .inl (.inl hi))⟩
  rw [setCell_eq_setRow w bf 1 _ _ _ _ h.root, setRow_heap w bf _ _ _ _ h.root]
  rfl
theorem app_set (h : cs.size = 94) {o : Nat} (ho : o < 94) (v : Value) : (cs ++ ds).setIfInBounds o v = cs.setIfInBounds o v ++ ds := by
  refine Array.ext_getElem? fun i => ?_
  rw [Array.getElem?_setIfInBounds, Array.getElem?_append, Array.getElem?_append, Array.size_setIfInBounds, Array.getElem?_setIfInBounds]
  by_cases e : o = i
  · subst e
    rw [if_pos rfl, Array.size_append, if_pos (by omega), if_pos (by omega), if_pos rfl, if_pos (by omega)]
  · rw [if_neg e, if_neg e]
theorem Fm.put (h : Fm w0 w bf bc (cs ++ ds) last) (hs : cs.size = 94) {o : Nat} (ho : o < 94) (v : Value) : Fm w0 (w.setCell ⟨bc, o, none⟩ v) bf bc (cs.setIfInBounds o v ++ ds) last := by
  rw [← app_set hs ho]; exact h.set o v
/-- a part of an inode is put: one cell -/
theorem IsImg.putPart (h : IsImg cs m) {n p : Nat} (hn : n < 8) (hp : p < 2) (v : Int) : IsImg (cs.setIfInBounds (n * 5 + 3 + p) (.int .i64 v)) (m.setPart n p v) := by
  have e : cs.setIfInBounds (n * 5 + 3 + p) (.int .i64 v) = put5v cs n ⟨m.live n, m.stamp n, m.links n, if p = 0 then v else m.part n 0, if p = 1 then v else m.part n 1⟩ := by
    have hs := h.size
    refine Array.ext_getElem? fun j => ?_
    unfold put5v
    rw [set5_get (by omega), Array.getElem?_setIfInBounds]
    have h0 := h.live n hn
    have h1 := h.stamp n hn
    have h2 := h.links n hn
    have h3 := h.part n 0 hn (by omega)
    have h4 := h.part n 1 hn (by omega)
    have hp' : p = 0 ∨ p = 1 := by omega
    by_cases j0 : j = n * 5
    · subst j0; rw [if_neg (by omega), if_pos rfl, h0]
    · by_cases j1 : j = n * 5 + 1
      · subst j1; rw [if_neg (by omega), if_neg (by omega), if_pos rfl, h1]
      · by_cases j2 : j = n * 5 + 2
        · subst j2; rw [if_neg (by omega), if_neg (by omega), if_neg (by omega), if_pos rfl, h2]
        · by_cases j3 : j = n * 5 + 3
          · subst j3
            rw [if_neg (by omega : ¬ n * 5 + 3 = n * 5), if_neg (by omega : ¬ n * 5 + 3 = n * 5 + 1), if_neg (by omega : ¬ n * 5 + 3 = n * 5 + 2), if_pos (rfl : n * 5 + 3 = n * 5 + 3)]
            rcases hp' with rfl | rfl
            · rw [if_pos rfl, if_pos (by omega)]; rfl
            · rw [if_neg (by omega)]; exact h3
          · by_cases j4 : j = n * 5 + 4
            · subst j4
              rw [if_neg (by omega : ¬ n * 5 + 4 = n * 5), if_neg (by omega : ¬ n * 5 + 4 = n * 5 + 1), if_neg (by omega : ¬ n * 5 + 4 = n * 5 + 2), if_neg (by omega : ¬ n * 5 + 4 = n * 5 + 3), if_pos (rfl : n * 5 + 4 = n * 5 + 4)]
              rcases hp' with rfl | rfl
              · rw [if_neg (by omega)]; exact h4
              · rw [if_pos rfl, if_pos (by omega)]; rfl
            · rw [if_neg (by omega), if_neg j0, if_neg j1, if_neg j2, if_neg j3, if_neg j4]
  rw [e]
  exact h.putIno hn _
theorem IsImg.putLinks (h : IsImg cs m) {n : Nat} (hn : n < 8) (v : Int) : IsImg (cs.setIfInBounds (n * 5 + 2) (.int .i64 v)) (m.putIno n ⟨m.live n, m.stamp n, v, m.part n 0, m.part n 1⟩) := by
  have e : cs.setIfInBounds (n * 5 + 2) (.int .i64 v) = put5v cs n ⟨m.live n, m.stamp n, v, m.part n 0, m.part n 1⟩ := by
    have hs := h.size
    refine Array.ext_getElem? fun j => ?_
    unfold put5v
    rw [set5_get (by omega), Array.getElem?_setIfInBounds]
    have h0 := h.live n hn
    have h1 := h.stamp n hn
    have h3 := h.part n 0 hn (by omega)
    have h4 := h.part n 1 hn (by omega)
    by_cases j0 : j = n * 5
    · subst j0; rw [if_neg (by omega), if_pos rfl, h0]
    · by_cases j1 : j = n * 5 + 1
      · subst j1; rw [if_neg (by omega), if_neg (by omega), if_pos rfl, h1]
      · by_cases j2 : j = n * 5 + 2
        · subst j2; rw [if_pos rfl, if_pos (by omega), if_neg (by omega), if_neg (by omega), if_pos rfl]
        · by_cases j3 : j = n * 5 + 3
          · subst j3; rw [if_neg (by omega), if_neg (by omega), if_neg (by omega), if_neg (by omega), if_pos rfl]; exact h3
          · by_cases j4 : j = n * 5 + 4
            · subst j4; rw [if_neg (by omega), if_neg (by omega), if_neg (by omega), if_neg (by omega), if_neg (by omega), if_pos rfl]; exact h4
            · rw [if_neg (by omega), if_neg j0, if_neg j1, if_neg j2, if_neg j3, if_neg j4]
  rw [e]
  exact h.putIno hn _
end
end Go.Proofs.YtmbpckmpnnmnmacGreat
namespace Go.Proofs.YtmbpckmpnnmnmacGreat
open Go.RowKit
open Idl (Stp chk stpA)
theorem stp_box (w : World) (x : Stp) (W : World) (bW : Below (w.alloc (.cells (stpA x) 31)).heap.size (w.alloc (.cells (stpA x) 31)) W) (j : Nat) (v : Value) (hj : (stpA x)[j]? = some v) : W.cell? ⟨w.heap.size, j, none⟩ = some v := by
  rw [bW.cell (p := ⟨w.heap.size, j, none⟩) (by simp), World.cell?_alloc_at _ _ _ _ rfl]; exact hj
theorem scheck_is {kind i1 i2 code : Int} (h : code = if kind = 1 then (if 0 ≤ i1 then 4 else 0) else if i1 < 0 then 5 else if (kind = 2 ∨ kind = 4) ∧ 0 ≤ i2 then 4 else 0) :
    (0 ≤ i1 → kind - 1 = 0 → code = 4) ∧ (i1 < 0 → kind - 1 = 0 → code = 0) ∧ (i1 < 0 → kind - 1 ≠ 0 → code = 5) ∧ (0 ≤ i1 → 0 ≤ i2 → (kind - 2) * (kind - 4) = 0 → code = 4) ∧ (0 ≤ i1 → i2 < 0 → kind - 1 ≠ 0 → code = 0) ∧ (0 ≤ i1 → kind - 1 ≠ 0 → kind - 2 ≠ 0 → kind - 4 ≠ 0 → code = 0) := by
  refine ⟨fun a b => ?_, fun a b => ?_, fun a b => ?_, fun a b c => ?_, fun a b c => ?_, fun a b c d => ?_⟩
  · rw [h, if_pos (by omega), if_pos a]
  · rw [h, if_pos (by omega), if_neg (by omega)]
  · rw [h, if_neg (by omega), if_pos a]
  · have : kind = 2 ∨ kind = 4 := by
      rcases Int.mul_eq_zero.1 c with z | z
      · left; omega
      · right; omega
    rw [h, if_neg (by omega), if_neg (by omega), if_pos ⟨this, b⟩]
  · rw [h, if_neg (by omega), if_neg (by omega), if_neg (by omega)]
  · rw [h, if_neg (by omega), if_neg (by omega), if_neg (by omega)]
section
variable {w : World} {bf bc : Nat} {cs ds : Array Value} {m k : Img} {last : Int}
set_option maxHeartbeats 2000000 in
set_option maxRecDepth 100000 in
theorem scheck_any (h : Fl w bf bc cs ds m k last) (x : Stp) (hn : x.name.size ≤ maxLen) (ht : x.to.size ≤ maxLen) (hx : x.text.size ≤ maxLen) :
    Calls Tryz.prog 64 #[.pointer (some ⟨bf, 0, none⟩), .agg (stpA x)] w fun e w' => e = .returned (.int .i64 (Img.scheck m x)) ∧ Below w.heap.size w w' := by
  have BEL := hide (show Below w.heap.size w (w.alloc (.cells (stpA x) 31)) from (Below.refl _ w).alloc (Nat.le_refl _) _)
  have C1 := hide (Idl.Check_any x hn ht hx (w.alloc (.cells (stpA x) 31)))
  have HC := hide fun W bW => stp_box w x W bW
  have HF := hide fun W (bW : Below w.heap.size w W) => fun d s => sfind_any (h.below bW) d s
  clear h
  by_cases hk : chk x = 0
  · rw [hk] at C1
    have e0 : Img.scheck m x = if x.kind = 1 then (if 0 ≤ Img.inoOf m x.dir x.name then 4 else 0)
      else if Img.inoOf m x.dir x.name < 0 then 5
      else if (x.kind = 2 ∨ x.kind = 4) ∧ 0 ≤ Img.inoOf m x.toDir x.to then 4 else 0 := by unfold Img.scheck; rw [if_neg (by rw [hk]; simp)]
    have E0 := hide (scheck_is e0)
    have F1 := hide fun W (bW : Below w.heap.size w W) => unhide HF W bW x.dir x.name
    have F2 := hide fun W (bW : Below w.heap.size w W) => unhide HF W bW x.toDir x.to
    clear HF e0 hk
    generalize Img.scheck m x = code at E0 ⊢
    generalize Img.inoOf m x.dir x.name = i1 at E0 F1
    generalize Img.inoOf m x.toDir x.to = i2 at E0 F2
    obtain ⟨kind, dir, toDir, p, name, tu, text⟩ := x
    try dsimp only at E0 F1 F2
    have hki : kind = 1 ∨ kind = 2 ∨ kind = 4 ∨ ((kind == 1) = false ∧ (kind == 2) = false ∧ (kind == 4) = false ∧ (kind != 1) = true) := by
      by_cases h1 : kind = 1
      · exact .inl h1
      · by_cases h2 : kind = 2
        · exact .inr (.inl h2)
        · by_cases h4 : kind = 4
          · exact .inr (.inr (.inl h4))
          · exact .inr (.inr (.inr ⟨by simpa using h1, by simpa using h2, by simpa using h4, by simpa using h1⟩))
    have ht1 : (decide (i1 ≥ 0) = true ∧ decide (0 ≤ i1) = true ∧ Hid (0 ≤ i1 ∧ ¬ i1 < 0)) ∨ (decide (i1 ≥ 0) = false ∧ decide (0 ≤ i1) = false ∧ Hid (i1 < 0 ∧ ¬ 0 ≤ i1)) := by
      by_cases h : 0 ≤ i1
      · exact .inl ⟨by simpa using h, by simpa using h, hide ⟨h, by omega⟩⟩
      · exact .inr ⟨by simpa using h, by simpa using h, hide ⟨by omega, h⟩⟩
    have ht2 : (decide (i2 ≥ 0) = true ∧ decide (0 ≤ i2) = true ∧ Hid (0 ≤ i2 ∧ ¬ i2 < 0)) ∨ (decide (i2 ≥ 0) = false ∧ decide (0 ≤ i2) = false ∧ Hid (i2 < 0 ∧ ¬ 0 ≤ i2)) := by
      by_cases h : 0 ≤ i2
      · exact .inl ⟨by simpa using h, by simpa using h, hide ⟨h, by omega⟩⟩
      · exact .inr ⟨by simpa using h, by simpa using h, hide ⟨by omega, h⟩⟩
    rcases hki with rfl | rfl | rfl | ⟨k1, k2, k4, k5⟩
    all_goals
      go_enter Tryz.func64, Tryz.ntmps64
      go_wp2_with fail
      refine (unhide C1).mono ?_
      rintro e w1 ⟨rfl, bel⟩
      have B1 := hide ((unhide BEL).trans (bel.mono (by simp)))
      have c0 := unhide HC w1 bel 0 _ rfl
      have c1 := unhide HC w1 bel 1 _ rfl
      have c2 := unhide HC w1 bel 2 _ rfl
      have c4 := unhide HC w1 bel 4 _ rfl
      have c5 := unhide HC w1 bel 5 _ rfl
      clear bel
      go_wp2_with fail
      refine (unhide F1 _ (unhide B1)).mono ?_
      rintro e w2 ⟨rfl, e9⟩
      rw [e9]
      clear e9 w2
    · rcases ht1 with ⟨t1, t2, t3⟩ | ⟨t1, t2, t3⟩
      all_goals
        go_wp2_with fail
        go_ret
        refine ⟨ret_int ?_, unhide B1⟩
        have t4 := unhide t3
        have z := unhide E0
        first | exact (z.1 t4.1 (by decide)).symm | exact (z.2.1 t4.1 (by decide)).symm
    · rcases ht1 with ⟨t1, t2, t3⟩ | ⟨t1, t2, t3⟩
      · rcases ht2 with ⟨s1, s2, s3⟩ | ⟨s1, s2, s3⟩
        all_goals
          go_wp2_with fail
          refine (unhide F2 _ (unhide B1)).mono ?_
          rintro e w2 ⟨rfl, e9⟩
          rw [e9]
          clear e9 w2
          go_wp2_with fail
          go_ret
          refine ⟨ret_int ?_, unhide B1⟩
          have t4 := unhide t3
          have s4 := unhide s3
          have z := unhide E0
          first | exact (z.2.2.2.1 t4.1 s4.1 (by decide)).symm | exact (z.2.2.2.2.1 t4.1 s4.1 (by decide)).symm
      · go_wp2_with fail
        go_ret
        refine ⟨ret_int ?_, unhide B1⟩
        have t4 := unhide t3
        have z := unhide E0
        exact (z.2.2.1 t4.1 (by decide)).symm
    · rcases ht1 with ⟨t1, t2, t3⟩ | ⟨t1, t2, t3⟩
      · rcases ht2 with ⟨s1, s2, s3⟩ | ⟨s1, s2, s3⟩
        all_goals
          go_wp2_with fail
          refine (unhide F2 _ (unhide B1)).mono ?_
          rintro e w2 ⟨rfl, e9⟩
          rw [e9]
          clear e9 w2
          go_wp2_with fail
          go_ret
          refine ⟨ret_int ?_, unhide B1⟩
          have t4 := unhide t3
          have s4 := unhide s3
          have z := unhide E0
          first | exact (z.2.2.2.1 t4.1 s4.1 (by decide)).symm | exact (z.2.2.2.2.1 t4.1 s4.1 (by decide)).symm
      · go_wp2_with fail
        go_ret
        refine ⟨ret_int ?_, unhide B1⟩
        have t4 := unhide t3
        have z := unhide E0
        exact (z.2.2.1 t4.1 (by decide)).symm
    · have kk1 : kind ≠ 1 := by simpa using k1
      have kk2 : kind ≠ 2 := by simpa using k2
      have kk4 : kind ≠ 4 := by simpa using k4
      have KK := hide (And.intro kk1 (And.intro kk2 kk4))
      clear kk1 kk2 kk4
      rcases ht1 with ⟨t1, t2, t3⟩ | ⟨t1, t2, t3⟩
      · go_wp2_with fail
        go_ret
        refine ⟨ret_int ?_, unhide B1⟩
        obtain ⟨z1, z2, z4⟩ := unhide KK
        have t4 := unhide t3
        have z := unhide E0
        exact (z.2.2.2.2.2 t4.1 (by omega) (by omega) (by omega)).symm
      · go_wp2_with fail
        go_ret
        refine ⟨ret_int ?_, unhide B1⟩
        obtain ⟨z1, z2, z4⟩ := unhide KK
        have t4 := unhide t3
        have z := unhide E0
        exact (z.2.2.1 t4.1 (by omega)).symm
  · have e0 : Img.scheck m x = chk x := by unfold Img.scheck; rw [if_pos hk]
    rw [e0]
    generalize chk x = ck at C1 hk
    have u1 : (ck != 0) = true := by simpa using hk
    clear HF HC e0
    obtain ⟨kind, dir, toDir, p, name, tu, text⟩ := x
    go_enter Tryz.func64, Tryz.ntmps64
    go_wp2_with fail
    refine (unhide C1).mono ?_
    rintro e w1 ⟨rfl, bel⟩
    have B1 := hide ((unhide BEL).trans (bel.mono (by simp)))
    clear bel
    go_wp2_with fail
    go_ret
    exact ⟨rfl, unhide B1⟩
end
end Go.Proofs.YtmbpckmpnnmnmacGreat
