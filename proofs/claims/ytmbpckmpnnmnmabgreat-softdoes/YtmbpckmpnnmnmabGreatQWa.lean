/-
  The walks of image.isData, isInode, Find, Refs.
-/
import Derived.Test.YtmbpckmpnnmnmabGreatQMem
namespace Go.Proofs.YtmbpckmpnnmnmabGreat
open Go.RowKit
set_option maxHeartbeats 400000 in
theorem isData_any (x : Int) (w : World) :
    Calls Tryz.prog 130 #[.int .i64 x] w fun e w' => e = .returned (.bool (Img.isD x)) ∧ w' = w := by
  go_enter Tryz.func130, Tryz.ntmps130
  go_wp2
  all_goals
    go_ret
    refine ⟨ret_bool ?_, rfl⟩
    simp [Img.isD]
    try omega
set_option maxHeartbeats 400000 in
theorem isInode_any (x : Int) (w : World) :
    Calls Tryz.prog 128 #[.int .i64 x] w fun e w' => e = .returned (.bool (Img.isI x)) ∧ w' = w := by
  go_enter Tryz.func128, Tryz.ntmps128
  go_wp2
  all_goals
    go_ret
    refine ⟨ret_bool ?_, rfl⟩
    simp [Img.isI]
    try omega
set_option maxHeartbeats 400000 in
theorem find_in (b : Nat) (m : Img) (d : Nat) (hd : d < 3) (nm : ByteArray) (hne : nm.toList.isEmpty = false) (w : World) (hm : HasImg w b m) :
    Calls Tryz.prog 37 #[.pointer (some ⟨b, 0, none⟩), .int .i64 d, .string nm] w fun e w' => e = .returned (.int .i64 (m.find d nm.toList)) ∧ w' = w := by
  have hn := hm.name
  go_enter Tryz.func37, Tryz.ntmps37
  go_wp2
  go_loop [18] (fun i => ∃ k : Nat, k ≤ 4 ∧ i = .int .i64 k ∧ ∀ j, j < k → ((m.name d j).toList == nm.toList) = false) (fun i => 4 - (intOf i).toNat)
  case atStart => exact ⟨0, by omega, rfl, fun j hj => by omega⟩
  case round =>
    obtain ⟨k, hk, rfl, hall⟩ := hrel
    have H := hide hall
    clear hall
    by_cases hlt : k < 4
    · go_wp2
      · rename_i hx _
        go_ret
        exact ⟨ret_int (Img.firstI_at (p := fun s => (m.name d s).toList == nm.toList) hx (unhide H) hlt).symm, rfl⟩
      · rename_i hx
        refine ⟨⟨k + 1, by omega, by go_num, fun j hj => ?_⟩, by simp [intOf]; omega⟩
        by_cases e : j = k
        · subst e; exact hx
        · exact unhide H j (by omega)
    · go_wp2
      go_ret
      exact ⟨ret_int (Img.firstI_none (p := fun s => (m.name d s).toList == nm.toList) fun j hj => unhide H j (by omega)).symm, rfl⟩
set_option maxHeartbeats 400000 in
theorem refs_any (b : Nat) (m : Img) (ino : Int) (w : World) (hm : HasImg w b m) :
    Calls Tryz.prog 38 #[.pointer (some ⟨b, 0, none⟩), .int .i64 ino] w fun e w' => e = .returned (.int .i64 (m.refs ino : Nat)) ∧ w' = w := by
  have hn := hm.name
  have hi := hm.ino
  go_enter Tryz.func38, Tryz.ntmps38
  go_wp2
  go_loop [5, 9] (fun c i => ∃ d : Nat, d ≤ 3 ∧ i = .int .i64 d ∧ c = .int .i64 (m.refsTo ino d : Nat)) (fun _ i => 3 - (intOf i).toNat)
  case atStart => exact ⟨0, by omega, rfl, rfl⟩
  case round =>
    obtain ⟨d, hd, rfl, rfl⟩ := hrel
    have hb := m.refsTo_le ino d
    by_cases hlt : d < 3
    · go_wp2
      go_loop [5, 12] (fun c i => ∃ s : Nat, s ≤ 4 ∧ i = .int .i64 s ∧ c = .int .i64 (m.refsTo ino d + Img.cnt (m.leads ino d) s : Nat)) (fun _ i => 4 - (intOf i).toNat)
      case atStart => exact ⟨0, by omega, rfl, by simp [Img.cnt]⟩
      case round =>
        obtain ⟨s, hs, rfl, rfl⟩ := hrel
        have hc := Img.cnt_le (m.leads ino d) s
        by_cases hls : s < 4
        · rcases m.lead_cases ino d s with ⟨g1, g2⟩ | ⟨g1, g3, g2⟩ | ⟨g1, g3, g2⟩
          · have H := hide (Img.cnt_no g2)
            clear g2
            go_wp2
            exact ⟨⟨s + 1, by omega, by go_num, by rw [unhide H]⟩, by simp [intOf]; omega⟩
          · have H := hide (Img.cnt_yes g2)
            clear g2
            go_wp2
            exact ⟨⟨s + 1, by omega, by go_num, by rw [unhide H]; go_num⟩, by simp [intOf]; omega⟩
          · have H := hide (Img.cnt_no g2)
            clear g2
            go_wp2
            exact ⟨⟨s + 1, by omega, by go_num, by rw [unhide H]⟩, by simp [intOf]; omega⟩
        · have e : s = 4 := by omega
          subst e
          go_wp2
          refine ⟨⟨d + 1, by omega, by go_num, by simp [Img.refsTo]⟩, by simp [intOf]; omega⟩
    · have e : d = 3 := by omega
      subst e
      go_wp2
      go_ret
      exact ⟨rfl, rfl⟩
end Go.Proofs.YtmbpckmpnnmnmabGreat
