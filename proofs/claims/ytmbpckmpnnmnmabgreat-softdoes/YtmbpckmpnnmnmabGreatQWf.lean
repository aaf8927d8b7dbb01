/-
  The walk of image.checkInode at a live inode, and joined.
-/
import Derived.Test.YtmbpckmpnnmnmabGreatQWe
namespace Go.Proofs.YtmbpckmpnnmnmabGreat
open Go.RowKit
set_option maxHeartbeats 1000000 in
theorem inode_count (b : Nat) (m : Img) (n : Nat) (hn : n < 8) (w : World) (hm : HasImg w b m) (h : m.live n = true) (hbad : m.stamp n < 1 ∨ m.links n < m.refs n) :
    Calls Tryz.prog 90 #[.pointer (some ⟨b, 0, none⟩), .int .i64 n] w fun e w' => e = .returned (.int .i64 (m.checkInode n)) ∧ Below w.heap.size w w' := by
  have hlv := hm.live n hn
  rw [h] at hlv
  have hst := hm.stamp n hn
  have hlk := hm.links n hn
  have hp0 := hm.part n 0 hn (by omega)
  have hp1 := hm.part n 1 hn (by omega)
  have hl := hm.lt
  have E := hide (show m.checkInode n = 9 by unfold Img.checkInode; rw [if_neg (by rw [h]; simp), if_pos hbad])
  have hb1 : Below w.heap.size w (w.alloc (.cells #[.bool true, .int .i64 (m.stamp n), .int .i64 (m.links n), .int .i64 (m.part n 0), .int .i64 (m.part n 1)] 24)) := (Below.refl _ _).alloc (Nat.le_refl _) _
  by_cases h1 : m.stamp n < 1
  · clear hbad
    go_enter Tryz.func90, Tryz.ntmps90
    go_wp2
    go_quiet (fail)
    go_wp2
    go_ret
    exact ⟨ret_int (unhide E).symm, belowN hb1⟩
  · have h2 : m.links n < m.refs n := by rcases hbad with x | x; exact absurd x h1; exact x
    have h1d : decide (m.stamp n < 1) = false := by simpa using h1
    clear hbad
    go_enter Tryz.func90, Tryz.ntmps90
    go_wp2
    go_quiet ((go_at_call 38; exact Calls.quiet_of_same (refs_any _ m _ _ (hm.below (belowN hb1) hl))))
    go_wp2
    go_ret
    exact ⟨ret_int (unhide E).symm, belowN hb1⟩
set_option maxHeartbeats 1000000 in
theorem inode_parts (b : Nat) (m : Img) (n : Nat) (hn : n < 8) (w : World) (hm : HasImg w b m) (h : m.live n = true) (h1 : 1 ≤ m.stamp n) (h2 : (m.refs n : Int) ≤ m.links n) :
    Calls Tryz.prog 90 #[.pointer (some ⟨b, 0, none⟩), .int .i64 n] w fun e w' => e = .returned (.int .i64 (m.checkInode n)) ∧ Below w.heap.size w w' := by
  have hlv := hm.live n hn
  rw [h] at hlv
  have hst := hm.stamp n hn
  have hlk := hm.links n hn
  have hp0 := hm.part n 0 hn (by omega)
  have hp1 := hm.part n 1 hn (by omega)
  have hl := hm.lt
  have E := hide (show m.checkInode n = Img.firstNZ (fun p => m.checkPart (m.part n p) (m.stamp n)) 2 by unfold Img.checkInode; rw [if_neg (by rw [h]; simp), if_neg (by omega)])
  have hb1 : Below w.heap.size w (w.alloc (.cells #[.bool true, .int .i64 (m.stamp n), .int .i64 (m.links n), .int .i64 (m.part n 0), .int .i64 (m.part n 1)] 24)) := (Below.refl _ _).alloc (Nat.le_refl _) _
  have h1d : decide (m.stamp n < 1) = false := by simp; omega
  have h2d : decide (m.links n < (m.refs n : Int)) = false := by simp; omega
  have hN : ¬ m.links n < (m.refs n : Int) := by omega
  go_enter Tryz.func90, Tryz.ntmps90
  go_wp2
  go_quiet ((go_at_call 38; exact Calls.quiet_of_same (refs_any _ m _ _ (hm.below (belowN hb1) hl))))
  go_wp2
  go_loop [34] (fun i => ∃ p : Nat, p ≤ 2 ∧ i = .int .i64 p ∧ ∀ j, j < p → m.checkPart (m.part n j) (m.stamp n) = 0) (fun i => 2 - (intOf i).toNat)
  case atStart => exact ⟨0, by omega, rfl, fun j hj => by omega⟩
  case round =>
    obtain ⟨p, hp, rfl, hall⟩ := hrel
    have H := hide hall
    clear hall
    by_cases hlp : p < 2
    · have hix := idx2 (m.part n) p hlp
      cases gc : m.checkPart (m.part n p) (m.stamp n) == 0
      · have gn : m.checkPart (m.part n p) (m.stamp n) ≠ 0 := by simpa using gc
        have GN := hide gn
        clear gn
        go_wp2_with (go_at_call 129; refine (checkPart_any _ m _ _ _ (hm.below (belowN hb1) hl)).mono ?_; rintro e w' ⟨rfl, rfl⟩)
        go_ret
        exact ⟨ret_int (by rw [unhide E]; exact (Img.firstNZ_at (f := fun p => m.checkPart (m.part n p) (m.stamp n)) (unhide GN) (unhide H) hlp).symm), belowN hb1⟩
      · have gz : m.checkPart (m.part n p) (m.stamp n) = 0 := by simpa using gc
        have GZ := hide gz
        clear gz
        go_wp2_with (go_at_call 129; refine (checkPart_any _ m _ _ _ (hm.below (belowN hb1) hl)).mono ?_; rintro e w' ⟨rfl, rfl⟩)
        go_round
        case rel => exact ⟨p + 1, by omega, by go_num, forall_succ (unhide H) (unhide GZ)⟩
        case measure => simp [intOf]; omega
    · have e : p = 2 := by omega
      subst e
      go_wp2
      go_ret
      exact ⟨ret_int (by rw [unhide E]; exact (Img.firstNZ_zero (unhide H)).symm), belowN hb1⟩
theorem inode_any (b : Nat) (m : Img) (n : Nat) (hn : n < 8) (w : World) (hm : HasImg w b m) :
    Calls Tryz.prog 90 #[.pointer (some ⟨b, 0, none⟩), .int .i64 n] w fun e w' => e = .returned (.int .i64 (m.checkInode n)) ∧ Below w.heap.size w w' := by
  cases h : m.live n
  · exact inode_dead b m n hn w hm h
  · by_cases h1 : m.stamp n < 1 ∨ m.links n < m.refs n
    · exact inode_count b m n hn w hm h h1
    · exact inode_parts b m n hn w hm h (by omega) (by omega)
end Go.Proofs.YtmbpckmpnnmnmabGreat
