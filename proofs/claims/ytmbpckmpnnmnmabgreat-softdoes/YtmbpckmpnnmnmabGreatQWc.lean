/-
  The walks of image.Free, checkSlot.
-/
import Derived.Test.YtmbpckmpnnmnmabGreatQWb
import Derived.Deep.QuietTactic
import Derived.BigQuiet
namespace Go.Proofs.YtmbpckmpnnmnmabGreat
open Go.RowKit
theorem belowN {B : Nat} {a w : World} (h : Below B a w) : ∀ {n : Nat}, Below B a (w.drewN n) := fun {n} => by
  induction n with
  | zero => exact h
  | succ n ih => exact ih.drew
set_option maxHeartbeats 400000 in
theorem free_any (w : World) :
    Calls Tryz.prog 88 #[] w fun e w' => e = .returned (.agg #[.bool false, .int .i64 0, .int .i64 0, .int .i64 (-1), .int .i64 (-1)]) ∧ Below w.heap.size w w' := by
  go_enter Tryz.func88, Tryz.ntmps88
  go_wp2
  refine wp_loop_rounds 3 ?_
  rw [rounds_succ]; go_wp2
  rw [rounds_succ]; go_wp2
  rw [rounds_succ]; go_wp2
  exact bodyPost_ret (v := .agg #[.bool false, .int .i64 0, .int .i64 0, .int .i64 (-1), .int .i64 (-1)]) (by simp [results, Tryz.results88, go_sem]) rfl ⟨rfl, ((Below.refl _ _).alloc (Nat.le_refl _) _).alloc (by simp) _⟩
set_option maxHeartbeats 400000 in
theorem slot_empty (b : Nat) (m : Img) (d s : Nat) (hd : d < 3) (hs : s < 4) (w : World) (hm : HasImg w b m) (h : m.named d s = false) :
    Calls Tryz.prog 89 #[.pointer (some ⟨b, 0, none⟩), .int .i64 d, .int .i64 s] w fun e w' => e = .returned (.int .i64 (m.checkSlot d s)) ∧ Below w.heap.size w w' := by
  have hn := hm.name d s hd hs
  have hi := hm.ino d s hd hs
  have he := hm.est d s hd hs
  have h1 : (m.name d s).toList.isEmpty = true := by simpa [Img.named] using h
  have hl := hm.lt
  have h2 : m.checkSlot d s = if m.ino d s = 0 ∧ m.est d s = 0 then 0 else 12 := by unfold Img.checkSlot; rw [if_pos h]
  cases g1 : m.ino d s == 0
  · have E := hide (h2.trans (if_neg fun x => by rw [x.1] at g1; simp at g1))
    clear h2
    go_enter Tryz.func89, Tryz.ntmps89
    go_wp2
    all_goals (go_ret; exact ⟨ret_int (unhide E).symm, (Below.refl _ _).alloc (Nat.le_refl _) _⟩)
  · cases g2 : m.est d s == 0
    · have E := hide (h2.trans (if_neg fun x => by rw [x.2] at g2; simp at g2))
      clear h2
      go_enter Tryz.func89, Tryz.ntmps89
      go_wp2
      all_goals (go_ret; exact ⟨ret_int (unhide E).symm, (Below.refl _ _).alloc (Nat.le_refl _) _⟩)
    · have E := hide (h2.trans (if_pos ⟨by simpa using g1, by simpa using g2⟩))
      clear h2
      go_enter Tryz.func89, Tryz.ntmps89
      go_wp2
      all_goals (go_ret; exact ⟨ret_int (unhide E).symm, (Below.refl _ _).alloc (Nat.le_refl _) _⟩)
set_option maxHeartbeats 400000 in
theorem slot_named (b : Nat) (m : Img) (d s : Nat) (hd : d < 3) (hs : s < 4) (w : World) (hm : HasImg w b m) (h : m.named d s = true) :
    Calls Tryz.prog 89 #[.pointer (some ⟨b, 0, none⟩), .int .i64 d, .int .i64 s] w fun e w' => e = .returned (.int .i64 (m.checkSlot d s)) ∧ Below w.heap.size w w' := by
  have hn := hm.name d s hd hs
  have hi := hm.ino d s hd hs
  have he := hm.est d s hd hs
  have h1 : (m.name d s).toList.isEmpty = false := by simpa [Img.named] using h
  have hl := hm.lt
  have hsz := hm.small d s
  have hb1 : Below w.heap.size w (w.alloc (.cells #[.string (m.name d s), .int .i64 (m.ino d s), .int .i64 (m.est d s)] 27)) := (Below.refl _ _).alloc (Nat.le_refl _) _
  have hm1 := hm.below hb1 hl
  have h2 : m.checkSlot d s = if Img.isNmB (m.name d s).toList = false then 2
  else if m.find d (m.name d s).toList < s then 4
  else if Img.isI (m.ino d s) = false then 1
  else if m.live (m.ino d s).toNat = false ∨ m.stamp (m.ino d s).toNat ≠ m.est d s then 8 else 0 := by unfold Img.checkSlot; rw [if_neg (by rw [h]; simp)]
  cases g1 : Img.isNmB (m.name d s).toList
  · have E := hide (h2.trans (if_pos g1))
    clear h2
    go_enter Tryz.func89, Tryz.ntmps89
    go_wp2_with (go_at_call 127; refine (name_any _ hsz _).mono ?_; rw [g1]; rintro e w' ⟨rfl, rfl⟩)
    go_ret
    exact ⟨ret_int (unhide E).symm, (Below.refl _ _).alloc (Nat.le_refl _) _⟩
  rw [if_neg (by rw [g1]; simp)] at h2
  by_cases g2 : m.find d (m.name d s).toList < s
  · have E := hide (h2.trans (if_pos g2))
    clear h2
    go_enter Tryz.func89, Tryz.ntmps89
    go_wp2_with (first | (go_at_call 127; refine (name_any _ hsz _).mono ?_; rw [g1]; rintro e w' ⟨rfl, rfl⟩) | (go_at_call 37; refine (find_in b m d hd _ h1 _ hm1).mono ?_; rintro e w' ⟨rfl, rfl⟩))
    go_ret
    exact ⟨ret_int (unhide E).symm, (Below.refl _ _).alloc (Nat.le_refl _) _⟩
  rw [if_neg g2] at h2
  cases g3 : Img.isI (m.ino d s)
  · have E := hide (h2.trans (if_pos g3))
    clear h2
    go_enter Tryz.func89, Tryz.ntmps89
    go_wp2_with (first | (go_at_call 127; refine (name_any _ hsz _).mono ?_; rw [g1]; rintro e w' ⟨rfl, rfl⟩) | (go_at_call 37; refine (find_in b m d hd _ h1 _ hm1).mono ?_; rintro e w' ⟨rfl, rfl⟩) | (go_at_call 128; refine (isInode_any _ _).mono ?_; rw [g3]; rintro e w' ⟨rfl, rfl⟩))
    go_ret
    exact ⟨ret_int (unhide E).symm, (Below.refl _ _).alloc (Nat.le_refl _) _⟩
  rw [if_neg (by rw [g3]; simp)] at h2
  have hb : 0 ≤ m.ino d s ∧ m.ino d s < 8 := by simpa [Img.isI] using g3
  obtain ⟨k, hk⟩ := Int.eq_ofNat_of_zero_le hb.1
  have hk8 : k < 8 := by omega
  have hlv := hm1.live k hk8
  have hst := hm1.stamp k hk8
  rw [hk] at h2 hi hb1 hm1 hlv hst g3
  rw [Int.toNat_natCast] at h2
  clear hb
  cases g4 : m.live k
  · have E := hide (h2.trans (if_pos (.inl g4)))
    clear h2 hk
    rw [g4] at hlv
    go_enter Tryz.func89, Tryz.ntmps89
    go_wp2_with (first | (go_at_call 127; refine (name_any _ hsz _).mono ?_; rw [g1]; rintro e w' ⟨rfl, rfl⟩) | (go_at_call 37; refine (find_in b m d hd _ h1 _ hm1).mono ?_; rintro e w' ⟨rfl, rfl⟩) | (go_at_call 128; refine (isInode_any _ _).mono ?_; rw [g3]; rintro e w' ⟨rfl, rfl⟩))
    go_quiet (fail)
    go_wp2
    go_ret
    exact ⟨ret_int (unhide E).symm, belowN ((Below.refl _ _).alloc (Nat.le_refl _) _)⟩
  rw [g4] at hlv
  cases g5 : m.stamp k == m.est d s
  · have E := hide (h2.trans (if_pos (.inr (by simpa using g5))))
    clear h2 hk
    go_enter Tryz.func89, Tryz.ntmps89
    go_wp2_with (first | (go_at_call 127; refine (name_any _ hsz _).mono ?_; rw [g1]; rintro e w' ⟨rfl, rfl⟩) | (go_at_call 37; refine (find_in b m d hd _ h1 _ hm1).mono ?_; rintro e w' ⟨rfl, rfl⟩) | (go_at_call 128; refine (isInode_any _ _).mono ?_; rw [g3]; rintro e w' ⟨rfl, rfl⟩))
    go_quiet (fail)
    go_wp2
    go_ret
    exact ⟨ret_int (unhide E).symm, belowN ((Below.refl _ _).alloc (Nat.le_refl _) _)⟩
  · have E := hide (h2.trans (if_neg (fun x => by rcases x with x | x; (rw [g4] at x; cases x); exact x (by simpa using g5))))
    clear h2 hk
    go_enter Tryz.func89, Tryz.ntmps89
    go_wp2_with (first | (go_at_call 127; refine (name_any _ hsz _).mono ?_; rw [g1]; rintro e w' ⟨rfl, rfl⟩) | (go_at_call 37; refine (find_in b m d hd _ h1 _ hm1).mono ?_; rintro e w' ⟨rfl, rfl⟩) | (go_at_call 128; refine (isInode_any _ _).mono ?_; rw [g3]; rintro e w' ⟨rfl, rfl⟩))
    go_quiet (fail)
    go_wp2
    go_ret
    exact ⟨ret_int (unhide E).symm, belowN ((Below.refl _ _).alloc (Nat.le_refl _) _)⟩
end Go.Proofs.YtmbpckmpnnmnmabGreat
