/-
  The walks of image.Check and image.Exact.
-/
import Derived.Test.YtmbpckmpnnmnmabGreatQWf
namespace Go.Proofs.YtmbpckmpnnmnmabGreat
open Go.RowKit
def slotsAt (m : Img) (d : Nat) : Int := Img.firstNZ (fun s => m.checkSlot d s) 4
theorem check_slots {m : Img} {d s : Nat} (hd : d < 3) (hs : s < 4) (h1 : ∀ j, j < d → slotsAt m j = 0) (h2 : ∀ j, j < s → m.checkSlot d j = 0) (h : m.checkSlot d s ≠ 0) : m.check = m.checkSlot d s := by
  have e1 : slotsAt m d = m.checkSlot d s := Img.firstNZ_at (f := fun s => m.checkSlot d s) h h2 hs
  have e2 : Img.firstNZ (slotsAt m) 3 = slotsAt m d := Img.firstNZ_at (by rw [e1]; exact h) h1 hd
  have e3 : Img.firstNZ (fun d => Img.firstNZ (fun s => m.checkSlot d s) 4) 3 = m.checkSlot d s := e2.trans e1
  unfold Img.check
  rw [e3, if_pos h]
theorem check_inodes {m : Img} {n : Nat} (hn : n < 8) (h1 : ∀ j, j < 3 → slotsAt m j = 0) (h2 : ∀ j, j < n → m.checkInode j = 0) (h : m.checkInode n ≠ 0) : m.check = m.checkInode n := by
  have e3 : Img.firstNZ (fun d => Img.firstNZ (fun s => m.checkSlot d s) 4) 3 = 0 := Img.firstNZ_zero (f := slotsAt m) h1
  have e4 : Img.firstNZ (fun n => m.checkInode n) 8 = m.checkInode n := Img.firstNZ_at (f := fun n => m.checkInode n) h h2 hn
  unfold Img.check
  rw [e3, if_neg (by simp), e4, if_pos h]
theorem check_end {m : Img} (h1 : ∀ j, j < 3 → slotsAt m j = 0) (h2 : ∀ j, j < 8 → m.checkInode j = 0) : m.check = if m.stampTwice || m.dataTwice then 11 else 0 := by
  have e3 : Img.firstNZ (fun d => Img.firstNZ (fun s => m.checkSlot d s) 4) 3 = 0 := Img.firstNZ_zero (f := slotsAt m) h1
  have e4 : Img.firstNZ (fun n => m.checkInode n) 8 = 0 := Img.firstNZ_zero (f := fun n => m.checkInode n) h2
  unfold Img.check
  rw [e3, if_neg (by simp), e4, if_neg (by simp)]
set_option maxHeartbeats 1000000 in
theorem check_any (b : Nat) (m : Img) (w : World) (hm : HasImg w b m) :
    Calls Tryz.prog 65 #[.pointer (some ⟨b, 0, none⟩)] w fun e w' => e = .returned (.int .i64 m.check) ∧ Below w.heap.size w w' := by
  have hl := hm.lt
  go_enter Tryz.func65, Tryz.ntmps65
  go_wp2
  go_loopw [8] (fun i wr => ∃ d : Nat, d ≤ 3 ∧ i = .int .i64 d ∧ Below w.heap.size w wr ∧ ∀ j, j < d → slotsAt m j = 0) (fun i _ => 3 - (intOf i).toNat)
  case atStart => exact ⟨0, by omega, rfl, Below.refl _ _, fun j hj => by omega⟩
  case round =>
    obtain ⟨d, hd, rfl, hbr, hall⟩ := hrel
    have H := hide hall
    clear hall
    have hsz := hbr.size
    by_cases hlt : d < 3
    · have hd3 : decide ((d : Int) < 3) = true := by simp; omega
      go_wp2
      go_loopw [11] (fun i wr => ∃ s : Nat, s ≤ 4 ∧ i = .int .i64 s ∧ Below w.heap.size w wr ∧ ∀ j, j < s → m.checkSlot d j = 0) (fun i _ => 4 - (intOf i).toNat)
      case atStart => exact ⟨0, by omega, rfl, hbr, fun j hj => by omega⟩
      case round =>
        clear hbr hsz
        obtain ⟨s, hs, rfl, hbr, hall⟩ := hrel
        have H2 := hide hall
        clear hall
        have hsz := hbr.size
        by_cases hls : s < 4
        · have hmr := hm.below hbr hl
          cases gc : m.checkSlot d s == 0
          · have GN := hide (show m.checkSlot d s ≠ 0 by simpa using gc)
            go_wp2_with (go_at_call 89; refine (slot_any _ m _ _ hlt hls _ hmr).mono ?_; rintro e w' ⟨rfl, hb⟩)
            go_ret
            exact ⟨ret_int (check_slots hlt hls (unhide H) (unhide H2) (unhide GN)).symm, hbr.trans (hb.mono hsz)⟩
          · have GZ := hide (show m.checkSlot d s = 0 by simpa using gc)
            go_wp2_with (go_at_call 89; refine (slot_any _ m _ _ hlt hls _ hmr).mono ?_; rintro e w' ⟨rfl, hb⟩)
            go_roundw
            case rel => exact ⟨s + 1, by omega, by go_num, hbr.trans (hb.mono hsz), forall_succ (unhide H2) (unhide GZ)⟩
            case measure => simp [intOf]; omega
        · have e : s = 4 := by omega
          subst e
          go_wp2
          go_roundw
          case rel => exact ⟨d + 1, by omega, by go_num, hbr, forall_succ (unhide H) (Img.firstNZ_zero (unhide H2))⟩
          case measure => simp [intOf]; omega
    · have hd3 : decide ((d : Int) < 3) = false := by simp; omega
      have HD := hide (show d = 3 by omega)
      have H3 := hide (show ∀ j, j < 3 → slotsAt m j = 0 from fun j hj => unhide H j (by omega))
      clear H HD
      have H := H3
      clear H3
      go_wp2
      go_loopw [23] (fun i wr => ∃ n : Nat, n ≤ 8 ∧ i = .int .i64 n ∧ Below w.heap.size w wr ∧ ∀ j, j < n → m.checkInode j = 0) (fun i _ => 8 - (intOf i).toNat)
      case atStart => exact ⟨0, by omega, rfl, hbr, fun j hj => by omega⟩
      case round =>
        clear hbr hsz
        obtain ⟨n, hn, rfl, hbr, hall⟩ := hrel
        have H2 := hide hall
        clear hall
        have hsz := hbr.size
        have hmr := hm.below hbr hl
        by_cases hln : n < 8
        · cases gc : m.checkInode n == 0
          · have GN := hide (show m.checkInode n ≠ 0 by simpa using gc)
            go_wp2_with (go_at_call 90; refine (inode_any _ m _ hln _ hmr).mono ?_; rintro e w' ⟨rfl, hb⟩)
            go_ret
            exact ⟨ret_int (check_inodes hln (unhide H) (unhide H2) (unhide GN)).symm, hbr.trans (hb.mono hsz)⟩
          · have GZ := hide (show m.checkInode n = 0 by simpa using gc)
            go_wp2_with (go_at_call 90; refine (inode_any _ m _ hln _ hmr).mono ?_; rintro e w' ⟨rfl, hb⟩)
            go_roundw
            case rel => exact ⟨n + 1, by omega, by go_num, hbr.trans (hb.mono hsz), forall_succ (unhide H2) (unhide GZ)⟩
            case measure => simp [intOf]; omega
        · have e : n = 8 := by omega
          subst e
          have E0 := check_end (unhide H) (unhide H2)
          cases gs : m.stampTwice
          · cases gd : m.dataTwice
            · have E := hide (show m.check = 0 by rw [E0, gs, gd]; rfl)
              clear E0
              go_wp2_with (first | (go_at_call 91; refine (stampTwice_any _ m _ hmr).mono ?_; rw [gs]; rintro e w1 ⟨rfl, q, rfl⟩) | (go_at_call 92; refine (dataTwice_any _ m _ (hmr.below (belowN (Below.refl _ _)) hmr.lt)).mono ?_; rw [gd]; rintro e w2 ⟨rfl, hb2⟩))
              go_ret
              exact ⟨ret_int (unhide E).symm, (belowN hbr).trans (hb2.mono hsz)⟩
            · have E := hide (show m.check = 11 by rw [E0, gs, gd]; rfl)
              clear E0
              go_wp2_with (first | (go_at_call 91; refine (stampTwice_any _ m _ hmr).mono ?_; rw [gs]; rintro e w1 ⟨rfl, q, rfl⟩) | (go_at_call 92; refine (dataTwice_any _ m _ (hmr.below (belowN (Below.refl _ _)) hmr.lt)).mono ?_; rw [gd]; rintro e w2 ⟨rfl, hb2⟩))
              go_ret
              exact ⟨ret_int (unhide E).symm, (belowN hbr).trans (hb2.mono hsz)⟩
          · have E := hide (show m.check = 11 by rw [E0, gs]; rfl)
            clear E0
            go_wp2_with (go_at_call 91; refine (stampTwice_any _ m _ hmr).mono ?_; rw [gs]; rintro e w1 ⟨rfl, q, rfl⟩)
            go_ret
            exact ⟨ret_int (unhide E).symm, belowN hbr⟩
end Go.Proofs.YtmbpckmpnnmnmabGreat
