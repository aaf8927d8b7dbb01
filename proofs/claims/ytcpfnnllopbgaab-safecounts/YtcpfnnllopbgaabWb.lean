/-
  The walks of image.Find at whatever arguments, Name, hasPart, checkPart, Holds.
-/
import Derived.Test.YtcpfnnllopbgaabWa
namespace Go.Proofs.Ytcpfnnllopbgaab
open Go.RowKit
set_option maxHeartbeats 400000 in
theorem find_any (b : Nat) (m : Img) (d : Int) (nm : ByteArray) (w : World) (hm : HasImg w b m) :
    Calls Try.prog 23 #[.pointer (some ⟨b, 0, none⟩), .int .i64 d, .string nm] w fun e w' => e = .returned (.int .i64 (m.findAt d nm.toList)) ∧ w' = w := by
  by_cases h0 : d < 0
  · have e : m.findAt d nm.toList = -1 := by unfold Img.findAt; rw [if_neg (by omega)]
    rw [e]
    clear e
    go_enter Try.func23, Try.ntmps23
    go_wp2
    go_ret
    exact ⟨rfl, rfl⟩
  · by_cases h3 : 3 ≤ d
    · have e : m.findAt d nm.toList = -1 := by unfold Img.findAt; rw [if_neg (by omega)]
      rw [e]
      clear e
      go_enter Try.func23, Try.ntmps23
      go_wp2
      go_ret
      exact ⟨rfl, rfl⟩
    · cases he : nm.toList.isEmpty
      · obtain ⟨k, rfl⟩ := Int.eq_ofNat_of_zero_le (by omega : 0 ≤ d)
        have e : m.findAt (k : Int) nm.toList = m.find k nm.toList := by unfold Img.findAt; rw [if_pos ⟨by omega, by omega, he⟩, Int.toNat_natCast]
        rw [e]
        exact find_in b m k (by omega) nm he w hm
      · have e : m.findAt d nm.toList = -1 := by unfold Img.findAt; rw [if_neg (by rw [he]; simp)]
        rw [e]
        clear e
        go_enter Try.func23, Try.ntmps23
        go_wp2
        go_ret
        exact ⟨rfl, rfl⟩
theorem all_take_snoc {s : ByteArray} {f : UInt8 → Bool} {k : Nat} (h : k < s.size) : (s.toList.take (k + 1)).all f = ((s.toList.take k).all f && f s[k]) := by
  rw [ByteArray.toList_eq, List.take_succ_eq_append_getElem (by simpa using h), List.all_append]
  simp
  rfl
theorem len_toList (s : ByteArray) : s.toList.length = s.size := by rw [ByteArray.toList_eq]; cases s; rfl
def ltr (c : UInt8) : Bool := decide (97 ≤ c.toNat) && decide (c.toNat ≤ 122)
theorem isNmB_eq (s : ByteArray) : Img.isNmB s.toList = (decide (1 ≤ s.size) && decide (s.size ≤ 6) && s.toList.all ltr) := by
  unfold Img.isNmB; rw [len_toList]; rfl
theorem nm_false_of {s : ByteArray} {k : Nat} (h : k < s.size) (hc : ltr s[k] = false) : Img.isNmB s.toList = false := by
  have h1 := all_take_snoc (f := ltr) h
  rw [hc, Bool.and_false] at h1
  have h2 : s.toList.all ltr = false := by
    rw [← List.take_append_drop (k + 1) s.toList, List.all_append, h1, Bool.false_and]
  rw [isNmB_eq, h2, Bool.and_false]
set_option maxHeartbeats 400000 in
theorem name_any (s : ByteArray) (hs : s.size ≤ maxLen) (w : World) :
    Calls Try.prog 22 #[.string s] w fun e w' => e = .returned (.bool (Img.isNmB s.toList)) ∧ w' = w := by
  unfold maxLen at hs
  by_cases h1 : s.size < 1
  · have e : Img.isNmB s.toList = false := by rw [isNmB_eq]; simp; omega
    rw [e]; clear e
    go_enter Try.func22, Try.ntmps22
    go_wp2
    go_ret
    exact ⟨rfl, rfl⟩
  by_cases h6 : 6 < s.size
  · have e : Img.isNmB s.toList = false := by rw [isNmB_eq]; simp; omega
    rw [e]; clear e
    go_enter Try.func22, Try.ntmps22
    go_wp2
    go_ret
    exact ⟨rfl, rfl⟩
  go_enter Try.func22, Try.ntmps22
  go_wp2
  go_loop [14] (fun i => ∃ k : Nat, k ≤ s.size ∧ i = .int .i64 k ∧ (s.toList.take k).all ltr = true) (fun i => s.size - (intOf i).toNat)
  case atStart => exact ⟨0, by omega, rfl, rfl⟩
  case round =>
    obtain ⟨k, hk, rfl, hall⟩ := hrel
    have H := hide hall
    clear hall
    by_cases hlt : k < s.size
    · by_cases hc : 97 ≤ (s[k].toNat : Int) ∧ (s[k].toNat : Int) ≤ 122
      · obtain ⟨c1, c2⟩ := hc
        go_wp2
        refine ⟨⟨k + 1, by omega, by go_num, ?_⟩, by simp [intOf]; omega⟩
        rw [all_take_snoc hlt, unhide H]
        simp [ltr]; omega
      · have e : Img.isNmB s.toList = false := nm_false_of hlt (by simp [ltr]; omega)
        have E := hide e
        clear e
        go_wp2
        all_goals first | (exfalso; omega) | (go_ret; exact ⟨ret_bool (unhide E).symm, rfl⟩)
    · go_wp2
      go_ret
      refine ⟨ret_bool ?_, rfl⟩
      have h2 := unhide H
      rw [List.take_of_length_le (by rw [len_toList]; omega)] at h2
      rw [isNmB_eq, h2]
      simp; omega
set_option maxHeartbeats 400000 in
theorem checkPart_any (b : Nat) (m : Img) (p st : Int) (w : World) (hm : HasImg w b m) :
    Calls Try.prog 26 #[.pointer (some ⟨b, 0, none⟩), .int .i64 p, .int .i64 st] w fun e w' => e = .returned (.int .i64 (m.checkPart p st)) ∧ w' = w := by
  have hof := hm.of
  cases h1 : p == -1
  · cases h2 : Img.isD p
    · have E := hide (show m.checkPart p st = 1 by unfold Img.checkPart; rw [if_neg (by simpa using h1), if_pos h2])
      go_enter Try.func26, Try.ntmps26
      go_wp2_with (go_at_call 27; refine (isData_any _ _).mono ?_; rintro e w' ⟨rfl, rfl⟩)
      go_ret
      exact ⟨ret_int (unhide E).symm, rfl⟩
    · have hb : 0 ≤ p ∧ p < 9 := by simpa [Img.isD] using h2
      obtain ⟨k, rfl⟩ := Int.eq_ofNat_of_zero_le hb.1
      have hk : k < 9 := by omega
      have hcell := hof k hk
      cases h3 : m.of k == st
      · have E := hide (show m.checkPart (k : Int) st = 10 by unfold Img.checkPart; rw [if_neg (by omega), if_neg (by rw [h2]; simp), Int.toNat_natCast, if_pos (by simpa using h3)])
        go_enter Try.func26, Try.ntmps26
        go_wp2_with (go_at_call 27; refine (isData_any _ _).mono ?_; rintro e w' ⟨rfl, rfl⟩)
        go_ret
        exact ⟨ret_int (unhide E).symm, rfl⟩
      · have E := hide (show m.checkPart (k : Int) st = 0 by unfold Img.checkPart; rw [if_neg (by omega), if_neg (by rw [h2]; simp), Int.toNat_natCast, if_neg (by simpa using h3)])
        go_enter Try.func26, Try.ntmps26
        go_wp2_with (go_at_call 27; refine (isData_any _ _).mono ?_; rintro e w' ⟨rfl, rfl⟩)
        go_ret
        exact ⟨ret_int (unhide E).symm, rfl⟩
  · have E := hide (show m.checkPart p st = 0 by unfold Img.checkPart; rw [if_pos (by simpa using h1)])
    go_enter Try.func26, Try.ntmps26
    go_wp2
    go_ret
    exact ⟨ret_int (unhide E).symm, rfl⟩
end Go.Proofs.Ytcpfnnllopbgaab
