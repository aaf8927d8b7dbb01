/-
  The walks of eiderdownref.IsName, SlotOf.
-/
import Derived.Test.YtlbgkpibaahgladDoorQUa
namespace Go.Proofs.YtlbgkpibaahgladDoor
open Go.RowKit
set_option maxHeartbeats 400000 in
theorem rIsName_any (s : ByteArray) (hs : s.size ≤ maxLen) (w : World) :
    Calls Tryd.prog 11 #[.string s] w fun e w' => e = .returned (.bool (Img.isNmB s.toList)) ∧ w' = w := by
  unfold maxLen at hs
  by_cases h1 : s.size < 1
  · have e : Img.isNmB s.toList = false := by rw [isNmB_eq]; simp; omega
    rw [e]; clear e
    go_enter Tryd.func11, Tryd.ntmps11
    go_wp2
    go_ret
    exact ⟨rfl, rfl⟩
  by_cases h6 : 6 < s.size
  · have e : Img.isNmB s.toList = false := by rw [isNmB_eq]; simp; omega
    rw [e]; clear e
    go_enter Tryd.func11, Tryd.ntmps11
    go_wp2
    go_ret
    exact ⟨rfl, rfl⟩
  go_enter Tryd.func11, Tryd.ntmps11
  go_wp2
  go_loop [3] (fun i => ∃ k : Nat, k ≤ s.size ∧ i = .int .i64 k ∧ (s.toList.take k).all ltr = true) (fun i => s.size - (intOf i).toNat)
  case atStart => exact ⟨0, by omega, rfl, rfl⟩
  case round =>
    obtain ⟨k, hk, rfl, hall⟩ := hrel
    have H := hide hall
    clear hall
    by_cases hlt : k < s.size
    · by_cases hc : 97 ≤ (s[k].toNat : Int) ∧ (s[k].toNat : Int) ≤ 122
      · obtain ⟨c1, c2⟩ := hc
        go_wp2
        refine ⟨⟨k + 1, by omega, by go_num, ?_⟩, by simp [intOf]; omega⟩
        rw [all_take_snoc hlt, unhide H]
        simp [ltr]; omega
      · have e : Img.isNmB s.toList = false := nm_false_of hlt (by simp [ltr]; omega)
        have E := hide e
        clear e
        go_wp2
        all_goals first | (exfalso; omega) | (go_ret; exact ⟨ret_bool (unhide E).symm, rfl⟩)
    · go_wp2
      go_ret
      refine ⟨ret_bool ?_, rfl⟩
      have h2 := unhide H
      rw [List.take_of_length_le (by rw [len_toList]; omega)] at h2
      rw [isNmB_eq, h2]
      simp; omega
set_option maxHeartbeats 400000 in
theorem rSlotOf_in {ob : Nat} (b : Nat) (m : Img) (d : Nat) (hd : d < 3) (nm : ByteArray) (hne : nm.toList.isEmpty = false) (w : World) (hm : HasAt w b ob m) :
    Calls Tryd.prog 12 #[.pointer (some ⟨b, ob, none⟩), .int .i64 d, .string nm] w fun e w' => e = .returned (.int .i64 (m.find d nm.toList)) ∧ w' = w := by
  have hn := hm.name d
  have E : m.find d nm.toList = Img.firstI (fun s => (m.name d s).toList == nm.toList) 4 := rfl
  rw [E]
  clear E
  have t0 : decide ((d : Int) < 0) = false := by simp
  have t3 : decide (3 ≤ (d : Int)) = false := by simp; omega
  go_enter Tryd.func12, Tryd.ntmps12
  go_wp2_with fail
  go_loop [7] (fun i => ∃ s : Nat, s ≤ 4 ∧ i = .int .i64 s ∧ ∀ j, j < s → ((m.name d j).toList == nm.toList) = false) (fun i => 4 - (intOf i).toNat)
  case atStart => exact ⟨0, by omega, rfl, fun j hj => by omega⟩
  case round =>
    obtain ⟨s, hs, rfl, hall⟩ := hrel
    have H := hide hall
    clear hall
    by_cases hlt : s < 4
    · have t4 : decide ((s : Int) < 4) = true := by simp; omega
      have h1 := hn s hd hlt
      clear hn
      cases hq : ((m.name d s).toList == nm.toList)
      · go_wp2_with fail
        refine ⟨⟨s + 1, by omega, by go_num, fun j hj => ?_⟩, by simp [intOf]; omega⟩
        by_cases e : j = s
        · subst e; exact hq
        · exact unhide H j (by omega)
      · have E := hide (Img.firstI_at (p := fun s => (m.name d s).toList == nm.toList) hq (unhide H) hlt)
        go_wp2_with fail
        go_ret
        exact ⟨ret_int (unhide E).symm, rfl⟩
    · have t4 : decide ((s : Int) < 4) = false := by simp; omega
      have E := hide (Img.firstI_none (p := fun s => (m.name d s).toList == nm.toList) (n := 4) fun j hj => unhide H j (by omega))
      go_wp2_with fail
      go_ret
      exact ⟨ret_int (unhide E).symm, rfl⟩
end Go.Proofs.YtlbgkpibaahgladDoor
