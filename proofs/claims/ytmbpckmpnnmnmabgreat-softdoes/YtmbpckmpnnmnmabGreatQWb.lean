/-
  The walks of image.Find at whatever arguments, Name, hasPart, checkPart, Holds.
-/
import Derived.Test.YtmbpckmpnnmnmabGreatQWa
namespace Go.Proofs.YtmbpckmpnnmnmabGreat
open Go.RowKit
theorem all_take_snoc {s : ByteArray} {f : UInt8 → Bool} {k : Nat} (h : k < s.size) : (s.toList.take (k + 1)).all f = ((s.toList.take k).all f && f s[k]) := by
  rw [ByteArray.toList_eq, List.take_succ_eq_append_getElem (by simpa using h), List.all_append]
  simp
  rfl
theorem len_toList (s : ByteArray) : s.toList.length = s.size := by rw [ByteArray.toList_eq]; cases s; rfl
def ltr (c : UInt8) : Bool := decide (97 ≤ c.toNat) && decide (c.toNat ≤ 122)
theorem isNmB_eq (s : ByteArray) : Img.isNmB s.toList = (decide (1 ≤ s.size) && decide (s.size ≤ 6) && s.toList.all ltr) := by
  unfold Img.isNmB; rw [len_toList]; rfl
theorem nm_false_of {s : ByteArray} {k : Nat} (h : k < s.size) (hc : ltr s[k] = false) : Img.isNmB s.toList = false := by
  have h1 := all_take_snoc (f := ltr) h
  rw [hc, Bool.and_false] at h1
  have h2 : s.toList.all ltr = false := by
    rw [← List.take_append_drop (k + 1) s.toList, List.all_append, h1, Bool.false_and]
  rw [isNmB_eq, h2, Bool.and_false]
set_option maxHeartbeats 400000 in
theorem name_any (s : ByteArray) (hs : s.size ≤ maxLen) (w : World) :
    Calls Tryz.prog 127 #[.string s] w fun e w' => e = .returned (.bool (Img.isNmB s.toList)) ∧ w' = w := by
  unfold maxLen at hs
  by_cases h1 : s.size < 1
  · have e : Img.isNmB s.toList = false := by rw [isNmB_eq]; simp; omega
    rw [e]; clear e
    go_enter Tryz.func127, Tryz.ntmps127
    go_wp2
    go_ret
    exact ⟨rfl, rfl⟩
  by_cases h6 : 6 < s.size
  · have e : Img.isNmB s.toList = false := by rw [isNmB_eq]; simp; omega
    rw [e]; clear e
    go_enter Tryz.func127, Tryz.ntmps127
    go_wp2
    go_ret
    exact ⟨rfl, rfl⟩
  go_enter Tryz.func127, Tryz.ntmps127
  go_wp2
  go_loop [14] (fun i => ∃ k : Nat, k ≤ s.size ∧ i = .int .i64 k ∧ (s.toList.take k).all ltr = true) (fun i => s.size - (intOf i).toNat)
  case atStart => exact ⟨0, by omega, rfl, rfl⟩
  case round =>
    obtain ⟨k, hk, rfl, hall⟩ := hrel
    have H := hide hall
    clear hall
    by_cases hlt : k < s.size
    · by_cases hc : 97 ≤ (s[k].toNat : Int) ∧ (s[k].toNat : Int) ≤ 122
      · obtain ⟨c1, c2⟩ := hc
        go_wp2
        refine ⟨⟨k + 1, by omega, by go_num, ?_⟩, by simp [intOf]; omega⟩
        rw [all_take_snoc hlt, unhide H]
        simp [ltr]; omega
      · have e : Img.isNmB s.toList = false := nm_false_of hlt (by simp [ltr]; omega)
        have E := hide e
        clear e
        go_wp2
        all_goals first | (exfalso; omega) | (go_ret; exact ⟨ret_bool (unhide E).symm, rfl⟩)
    · go_wp2
      go_ret
      refine ⟨ret_bool ?_, rfl⟩
      have h2 := unhide H
      rw [List.take_of_length_le (by rw [len_toList]; omega)] at h2
      rw [isNmB_eq, h2]
      simp; omega
set_option maxHeartbeats 400000 in
theorem hasPart_any (b o : Nat) (p0 p1 x : Int) (w : World) (h0 : w.cell? ⟨b, o + 3, none⟩ = some (.int .i64 p0)) (h1 : w.cell? ⟨b, o + 3 + 1, none⟩ = some (.int .i64 p1)) :
    Calls Tryz.prog 140 #[.pointer (some ⟨b, o, none⟩), .int .i64 x] w fun e w' => e = .returned (.bool (p0 == x || p1 == x)) ∧ w' = w := by
  have i0 : ∀ w, (Instr.index 22 (.agg #[.int .i64 p0, .int .i64 p1]) (.int .i64 0)).run Tryz.prog w = .ok (.int .i64 p0) w := fun _ => by kernel_rfl
  have i1 : ∀ w, (Instr.index 22 (.agg #[.int .i64 p0, .int .i64 p1]) (.int .i64 1)).run Tryz.prog w = .ok (.int .i64 p1) w := fun _ => by kernel_rfl
  go_enter Tryz.func140, Tryz.ntmps140
  go_wp2
  go_loop [11] (fun i => ∃ k : Nat, k ≤ 2 ∧ i = .int .i64 k ∧ (1 ≤ k → (p0 == x) = false) ∧ (2 ≤ k → (p1 == x) = false)) (fun i => 2 - (intOf i).toNat)
  case atStart => exact ⟨0, by omega, rfl, fun h => by omega, fun h => by omega⟩
  case round =>
    obtain ⟨k, hk, rfl, g1, g2⟩ := hrel
    have G1 := hide g1
    have G2 := hide g2
    clear g1 g2
    match k, hk with
    | 0, _ =>
      cases hx : p0 == x
      · go_wp2
        exact ⟨⟨1, by omega, by go_num, fun _ => by first | exact hx | trivial, fun h => by omega⟩, by simp [intOf]⟩
      · go_wp2
        go_ret
        exact ⟨ret_bool (by first | rfl | simp_all), rfl⟩
    | 1, _ =>
      cases hx : p1 == x
      · go_wp2
        exact ⟨⟨2, by omega, by go_num, fun _ => unhide G1 (by omega), fun _ => by first | exact hx | trivial⟩, by simp [intOf]⟩
      · go_wp2
        go_ret
        exact ⟨ret_bool (by first | rfl | simp_all), rfl⟩
    | 2, _ =>
      go_wp2
      go_ret
      exact ⟨ret_bool (by rw [unhide G1 (by omega), unhide G2 (by omega)]; rfl), rfl⟩
set_option maxHeartbeats 400000 in
theorem checkPart_any (b : Nat) (m : Img) (p st : Int) (w : World) (hm : HasImg w b m) :
    Calls Tryz.prog 129 #[.pointer (some ⟨b, 0, none⟩), .int .i64 p, .int .i64 st] w fun e w' => e = .returned (.int .i64 (m.checkPart p st)) ∧ w' = w := by
  have hof := hm.of
  cases h1 : p == -1
  · cases h2 : Img.isD p
    · have E := hide (show m.checkPart p st = 1 by unfold Img.checkPart; rw [if_neg (by simpa using h1), if_pos h2])
      go_enter Tryz.func129, Tryz.ntmps129
      go_wp2_with (go_at_call 130; refine (isData_any _ _).mono ?_; rintro e w' ⟨rfl, rfl⟩)
      go_ret
      exact ⟨ret_int (unhide E).symm, rfl⟩
    · have hb : 0 ≤ p ∧ p < 9 := by simpa [Img.isD] using h2
      obtain ⟨k, rfl⟩ := Int.eq_ofNat_of_zero_le hb.1
      have hk : k < 9 := by omega
      have hcell := hof k hk
      cases h3 : m.of k == st
      · have E := hide (show m.checkPart (k : Int) st = 10 by unfold Img.checkPart; rw [if_neg (by omega), if_neg (by rw [h2]; simp), Int.toNat_natCast, if_pos (by simpa using h3)])
        go_enter Tryz.func129, Tryz.ntmps129
        go_wp2_with (go_at_call 130; refine (isData_any _ _).mono ?_; rintro e w' ⟨rfl, rfl⟩)
        go_ret
        exact ⟨ret_int (unhide E).symm, rfl⟩
      · have E := hide (show m.checkPart (k : Int) st = 0 by unfold Img.checkPart; rw [if_neg (by omega), if_neg (by rw [h2]; simp), Int.toNat_natCast, if_neg (by simpa using h3)])
        go_enter Tryz.func129, Tryz.ntmps129
        go_wp2_with (go_at_call 130; refine (isData_any _ _).mono ?_; rintro e w' ⟨rfl, rfl⟩)
        go_ret
        exact ⟨ret_int (unhide E).symm, rfl⟩
  · have E := hide (show m.checkPart p st = 0 by unfold Img.checkPart; rw [if_pos (by simpa using h1)])
    go_enter Tryz.func129, Tryz.ntmps129
    go_wp2
    go_ret
    exact ⟨ret_int (unhide E).symm, rfl⟩
end Go.Proofs.YtmbpckmpnnmnmabGreat
