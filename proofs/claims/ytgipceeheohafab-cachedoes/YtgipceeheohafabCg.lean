/-
  The walks of package cache: Inode, Slot, Data.
-/
import Derived.Test.YtgipceeheohafabCf
namespace Go.Proofs.Ytgipceeheohafab
open Go.RowKit
set_option maxHeartbeats 1000000 in
theorem inode1_any (W : World) (bx g : Nat) (m k : Img) (n : Nat) (hn : n < 8) (h1 : W.cell? ⟨bx, 0, none⟩ = some (.pointer (some ⟨g, 0, none⟩))) (hm : HasAt W g 0 m) (hk : HasAt W g 94 k) :
    Calls Try.prog 48 (#[.int .i64 n] ++ #[.pointer (some ⟨bx, 0, none⟩)]) W fun e w' => e = .returned (.bool (!m.live n && (k.refs (n : Int) == 0))) ∧ w' = W := by
  have hlv := hm.live n hn
  rw [Nat.zero_add] at hlv
  have hl := hm.lt
  have hr := k.refs_le (n : Int)
  have C := hide (At.refs_any g k (n : Int) W hk)
  clear hm hk
  show Calls Try.prog 48 #[.int .i64 n, .pointer (some ⟨bx, 0, none⟩)] W _
  cases hl : m.live n
  · rw [hl] at hlv
    cases hz : (k.refs (n : Int) == 0)
    · have hz2 : (((k.refs (n : Int) : Nat) : Int) == 0) = false := by simp at hz ⊢; omega
      generalize k.refs (n : Int) = r at C hz hz2 hr
      obtain ⟨rr, hrr⟩ : ∃ rr : Int, rr = (r : Int) := ⟨_, rfl⟩
      rw [← hrr] at C hz2
      clear hrr
      go_enter Try.func48, Try.ntmps48
      go_wp2_with fail
      refine (unhide C).mono ?_
      rintro e wz ⟨rfl, ez⟩
      rw [ez]
      clear ez wz C
      go_wp2_with fail
      go_ret
      exact ⟨rfl, rfl⟩
    · have hz2 : k.refs (n : Int) = 0 := by simpa using hz
      rw [hz2] at C
      clear hz hz2 hr
      go_enter Try.func48, Try.ntmps48
      go_wp2_with fail
      refine (unhide C).mono ?_
      rintro e wz ⟨rfl, ez⟩
      rw [ez]
      clear ez wz C
      go_wp2_with fail
      go_ret
      exact ⟨rfl, rfl⟩
  · rw [hl] at hlv
    go_enter Try.func48, Try.ntmps48
    go_wp2_with fail
    go_ret
    exact ⟨rfl, rfl⟩
set_option maxHeartbeats 1000000 in
theorem data1_any (W : World) (bx g : Nat) (m k : Img) (x : Nat) (h1 : W.cell? ⟨bx, 0, none⟩ = some (.pointer (some ⟨g, 0, none⟩))) (hm : HasAt W g 0 m) (hk : HasAt W g 94 k) :
    Calls Try.prog 50 (#[.int .i64 x] ++ #[.pointer (some ⟨bx, 0, none⟩)]) W fun e w' => e = .returned (.bool (!m.holds (x : Int) && !k.holds (x : Int))) ∧ w' = W := by
  have C1 := hide (At.holds_any g m (x : Int) W hm)
  have C2 := hide (At.holds_any g k (x : Int) W hk)
  have hl := hm.lt
  clear hm hk
  show Calls Try.prog 50 #[.int .i64 x, .pointer (some ⟨bx, 0, none⟩)] W _
  cases hl1 : m.holds (x : Int)
  · rw [hl1] at C1
    cases hl2 : k.holds (x : Int)
    all_goals
      rw [hl2] at C2
      go_enter Try.func50, Try.ntmps50
      go_wp2_with fail
      refine (unhide C1).mono ?_
      rintro e wz ⟨rfl, ez⟩
      rw [ez]
      clear ez wz C1
      go_wp2_with fail
      refine (unhide C2).mono ?_
      rintro e wz ⟨rfl, ez⟩
      rw [ez]
      clear ez wz C2
      go_wp2_with fail
      go_ret
      exact ⟨rfl, rfl⟩
  · rw [hl1] at C1
    go_enter Try.func50, Try.ntmps50
    go_wp2_with fail
    refine (unhide C1).mono ?_
    rintro e wz ⟨rfl, ez⟩
    rw [ez]
    clear ez wz C1
    go_wp2_with fail
    go_ret
    exact ⟨rfl, rfl⟩
set_option maxHeartbeats 1000000 in
theorem slot1_any (W : World) (bx bd g : Nat) (m k : Img) (d s : Nat) (hd : d < 3) (hs : s < 4) (h1 : W.cell? ⟨bx, 0, none⟩ = some (.pointer (some ⟨g, 0, none⟩))) (h2 : W.cell? ⟨bd, 0, none⟩ = some (.int .i64 d)) (hm : HasAt W g 0 m) (hk : HasAt W g 94 k) :
    Calls Try.prog 49 (#[.int .i64 s] ++ #[.pointer (some ⟨bx, 0, none⟩), .pointer (some ⟨bd, 0, none⟩)]) W fun e w' => e = .returned (.bool (!m.named d s && !k.named d s)) ∧ ∃ q, w' = W.drewN q := by
  have n1 := hm.name d s hd hs
  have n2 := hk.name d s hd hs
  have hl := hm.lt
  have hdz : (d : Int) < 3 := by omega
  have hsz : (s : Int) < 4 := by omega
  clear hm hk
  have E : (!m.named d s && !k.named d s) = ((m.name d s).toList.isEmpty && (k.name d s).toList.isEmpty) := by unfold Img.named; simp
  rw [E]
  clear E
  show Calls Try.prog 49 #[.int .i64 s, .pointer (some ⟨bx, 0, none⟩), .pointer (some ⟨bd, 0, none⟩)] W _
  cases e1 : (m.name d s).toList.isEmpty
  · go_enter Try.func49, Try.ntmps49
    go_wp2_with fail
    go_quiet (fail)
    go_wp2_with fail
    go_ret
    exact ⟨rfl, _, rfl⟩
  · cases e2 : (k.name d s).toList.isEmpty
    all_goals
      go_enter Try.func49, Try.ntmps49
      go_wp2_with fail
      go_quiet (fail)
      go_wp2_with fail
      go_ret
      exact ⟨rfl, _, rfl⟩
theorem drewN_heap (w : World) (q : Nat) : (w.drewN q).heap = w.heap := rfl
section
variable {cs ds : Array Value} {m k : Img} {w W : World} {g : Nat}
theorem two_has (hi : IsImg cs m) (hj : IsImg ds k) (h : W.heap[g]? = some (.cells (cs ++ ds) 51)) (q : Nat) : HasAt (W.drewN q) g 0 m ∧ HasAt (W.drewN q) g 94 k := by
  have z1 := hi.size
  have z2 := hj.size
  exact ⟨hasAt_of (w := W.drewN q) h (by simp; omega) (app_fst z1) hi, hasAt_of (w := W.drewN q) h (by simp; omega) (app_snd z1 z2) hj⟩
end
set_option maxHeartbeats 1000000 in
theorem cInode_any (g : Nat) (cs ds : Array Value) (m k : Img) (hi : IsImg cs m) (hj : IsImg ds k) (w : World) (hg : w.heap[g]? = some (.cells (cs ++ ds) 51)) :
    Calls Try.prog 21 #[.pointer (some ⟨g, 0, none⟩)] w fun e w' => e = .returned (.int .i64 (Img.freeIno m k)) ∧ Below w.heap.size w w' := by
  have hgl : g < w.heap.size := (Array.getElem?_eq_some_iff.1 hg).1
  have eg : ∀ args w, (callFunc 48 args).run Try.prog w = .ok (.enter 48 args) w := enters_of Try.func48 (by kernel_rfl) rfl
  have hB : Below w.heap.size w (w.alloc (.cells #[.pointer (some ⟨g, 0, none⟩)] 47)) := (Below.refl _ _).alloc (Nat.le_refl _) _
  have hr : (w.alloc (.cells #[.pointer (some ⟨g, 0, none⟩)] 47)).heap[g]? = some (.cells (cs ++ ds) 51) := by rw [Below.heap_alloc _ _ _ hgl]; exact hg
  have hc : (w.alloc (.cells #[.pointer (some ⟨g, 0, none⟩)] 47)).cell? ⟨w.heap.size, 0, none⟩ = some (.pointer (some ⟨g, 0, none⟩)) := by rw [cell_of_row _ _ _ _ _ _ (heap_alloc_last _ _)]; rfl
  have HF := hide (show ∀ (q i : Nat), i < 8 → Calls Try.prog 48 (#[.int .i64 i] ++ #[.pointer (some ⟨w.heap.size, 0, none⟩)]) ((w.alloc (.cells #[.pointer (some ⟨g, 0, none⟩)] 47)).drewN q) fun e w' => e = .returned (.bool (!m.live i && (k.refs (i : Int) == 0))) ∧ ∃ r, w' = (w.alloc (.cells #[.pointer (some ⟨g, 0, none⟩)] 47)).drewN r from fun q i hi8 =>
    (inode1_any ((w.alloc (.cells #[.pointer (some ⟨g, 0, none⟩)] 47)).drewN q) w.heap.size g m k i hi8 hc (two_has hi hj hr q).1 (two_has hi hj hr q).2).mono fun e w' ⟨h1, h2⟩ => ⟨h1, q, h2⟩)
  clear hc hr hg
  go_enter Try.func21, Try.ntmps21
  go_wp2_with fail
  refine (first_any 48 #[.pointer (some ⟨w.heap.size, 0, none⟩)] 8 (fun n => !m.live n && (k.refs (n : Int) == 0)) _ eg (by omega) (unhide HF)).mono ?_
  rintro e w1 ⟨rfl, q, rfl⟩
  go_wp2_with fail
  go_ret
  exact ⟨rfl, belowN hB⟩
set_option maxHeartbeats 1000000 in
theorem cData_any (g : Nat) (cs ds : Array Value) (m k : Img) (hi : IsImg cs m) (hj : IsImg ds k) (w : World) (hg : w.heap[g]? = some (.cells (cs ++ ds) 51)) :
    Calls Try.prog 25 #[.pointer (some ⟨g, 0, none⟩)] w fun e w' => e = .returned (.int .i64 (Img.freeData m k)) ∧ Below w.heap.size w w' := by
  have hgl : g < w.heap.size := (Array.getElem?_eq_some_iff.1 hg).1
  have eg : ∀ args w, (callFunc 50 args).run Try.prog w = .ok (.enter 50 args) w := enters_of Try.func50 (by kernel_rfl) rfl
  have hB : Below w.heap.size w (w.alloc (.cells #[.pointer (some ⟨g, 0, none⟩)] 47)) := (Below.refl _ _).alloc (Nat.le_refl _) _
  have hr : (w.alloc (.cells #[.pointer (some ⟨g, 0, none⟩)] 47)).heap[g]? = some (.cells (cs ++ ds) 51) := by rw [Below.heap_alloc _ _ _ hgl]; exact hg
  have hc : (w.alloc (.cells #[.pointer (some ⟨g, 0, none⟩)] 47)).cell? ⟨w.heap.size, 0, none⟩ = some (.pointer (some ⟨g, 0, none⟩)) := by rw [cell_of_row _ _ _ _ _ _ (heap_alloc_last _ _)]; rfl
  have HF := hide (show ∀ (q i : Nat), i < 9 → Calls Try.prog 50 (#[.int .i64 i] ++ #[.pointer (some ⟨w.heap.size, 0, none⟩)]) ((w.alloc (.cells #[.pointer (some ⟨g, 0, none⟩)] 47)).drewN q) fun e w' => e = .returned (.bool (!m.holds (i : Int) && !k.holds (i : Int))) ∧ ∃ r, w' = (w.alloc (.cells #[.pointer (some ⟨g, 0, none⟩)] 47)).drewN r from fun q i _ =>
    (data1_any ((w.alloc (.cells #[.pointer (some ⟨g, 0, none⟩)] 47)).drewN q) w.heap.size g m k i hc (two_has hi hj hr q).1 (two_has hi hj hr q).2).mono fun e w' ⟨h1, h2⟩ => ⟨h1, q, h2⟩)
  clear hc hr hg
  go_enter Try.func25, Try.ntmps25
  go_wp2_with fail
  refine (first_any 50 #[.pointer (some ⟨w.heap.size, 0, none⟩)] 9 (fun x => !m.holds (x : Int) && !k.holds (x : Int)) _ eg (by omega) (unhide HF)).mono ?_
  rintro e w1 ⟨rfl, q, rfl⟩
  go_wp2_with fail
  go_ret
  exact ⟨rfl, belowN hB⟩
def slotBoxes (w : World) (g : Nat) (d : Int) : World := (w.alloc (.cells #[.pointer (some ⟨g, 0, none⟩)] 47)).alloc (.cells #[.int .i64 d] 3)
theorem slotBoxes_cells (w : World) (g : Nat) (d : Int) : (slotBoxes w g d).cell? ⟨w.heap.size, 0, none⟩ = some (.pointer (some ⟨g, 0, none⟩)) ∧ (slotBoxes w g d).cell? ⟨w.heap.size + 1, 0, none⟩ = some (.int .i64 d) :=
  ⟨by unfold slotBoxes; rw [cell_of_row _ _ _ _ _ _ (heap_alloc2_old _ _ _)]; rfl, by unfold slotBoxes; rw [cell_of_row _ _ _ _ _ _ (heap_alloc2_new _ _ _)]; rfl⟩
set_option maxHeartbeats 1000000 in
theorem cSlot_any (g : Nat) (cs ds : Array Value) (m k : Img) (hi : IsImg cs m) (hj : IsImg ds k) (d : Int) (w : World) (hg : w.heap[g]? = some (.cells (cs ++ ds) 51)) :
    Calls Try.prog 23 #[.pointer (some ⟨g, 0, none⟩), .int .i64 d] w fun e w' => e = .returned (.int .i64 (Img.freeSlot m k d)) ∧ Below w.heap.size w w' := by
  have hgl : g < w.heap.size := (Array.getElem?_eq_some_iff.1 hg).1
  have eg : ∀ args w, (callFunc 49 args).run Try.prog w = .ok (.enter 49 args) w := enters_of Try.func49 (by kernel_rfl) rfl
  have hB : Below w.heap.size w (slotBoxes w g d) := ((Below.refl _ _).alloc (Nat.le_refl _) _).alloc (by simp) _
  obtain ⟨c1, c2⟩ := slotBoxes_cells w g d
  have hr : (slotBoxes w g d).heap[g]? = some (.cells (cs ++ ds) 51) := by rw [hB.block _ hgl]; exact hg
  by_cases hd : 0 ≤ d ∧ d < 3
  · obtain ⟨e, rfl⟩ := Int.eq_ofNat_of_zero_le hd.1
    have he : e < 3 := by omega
    have E : Img.freeSlot m k (e : Int) = Img.firstI (fun s => !m.named e s && !k.named e s) 4 := by unfold Img.freeSlot; rw [if_pos hd, Int.toNat_natCast]
    rw [E]
    clear E
    have HF := hide (show ∀ (q i : Nat), i < 4 → Calls Try.prog 49 (#[.int .i64 i] ++ #[.pointer (some ⟨w.heap.size, 0, none⟩), .pointer (some ⟨w.heap.size + 1, 0, none⟩)]) ((slotBoxes w g (e : Int)).drewN q) fun r w' => r = .returned (.bool (!m.named e i && !k.named e i)) ∧ ∃ r, w' = (slotBoxes w g (e : Int)).drewN r from fun q i hi4 =>
      (slot1_any ((slotBoxes w g (e : Int)).drewN q) w.heap.size (w.heap.size + 1) g m k e i he hi4 c1 c2 (two_has hi hj hr q).1 (two_has hi hj hr q).2).mono fun r w' ⟨h1, n, h2⟩ => ⟨h1, q + n, by rw [h2, drewNN]⟩)
    have t1 : decide ((e : Int) < 0) = false := by simp
    have t2 : decide (3 ≤ (e : Int)) = false := by simp; omega
    clear hr hg hd
    go_enter Try.func23, Try.ntmps23
    go_wp2_with fail
    rw [← slotBoxes.eq_1]
    refine (first_any 49 #[.pointer (some ⟨w.heap.size, 0, none⟩), .pointer (some ⟨w.heap.size + 1, 0, none⟩)] 4 (fun s => !m.named e s && !k.named e s) _ eg (by omega) (unhide HF)).mono ?_
    rintro e w1 ⟨rfl, q, rfl⟩
    go_wp2_with fail
    go_ret
    exact ⟨rfl, belowN hB⟩
  · have E : Img.freeSlot m k d = -1 := by unfold Img.freeSlot; rw [if_neg hd]
    rw [E]
    clear E
    by_cases h0 : d < 0
    · have t1 : decide (d < 0) = true := by simpa using h0
      clear h0 hd hr hg eg
      go_enter Try.func23, Try.ntmps23
      go_wp2_with fail
      go_ret
      exact ⟨rfl, hB⟩
    · have t1 : decide (d < 0) = false := by simpa using h0
      have t2 : decide (3 ≤ d) = true := by simp; omega
      have t3 : decide (d ≥ 3) = true := by simp; omega
      clear h0 hd hr hg eg
      go_enter Try.func23, Try.ntmps23
      go_wp2_with fail
      go_ret
      exact ⟨rfl, hB⟩
end Go.Proofs.Ytgipceeheohafab
