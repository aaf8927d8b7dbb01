/-
  The walks of eiderdownref.leads, Leads, Both.
-/
import Derived.Test.YtlbgkpibaahgladDoorQTh
namespace Go.Proofs.YtlbgkpibaahgladDoor
open Go.RowKit
set_option maxHeartbeats 400000 in
theorem rleads_any (b : Nat) (m : Img) (d s : Nat) (hd : d < 3) (hs : s < 4) (ino : Int) (w : World) (hm : HasImg w b m) :
    Calls Tryd.prog 23 #[.pointer (some ⟨b, 0, none⟩), .int .i64 d, .int .i64 s, .int .i64 ino] w fun e w' => e = .returned (.bool (m.leads ino d s)) ∧ w' = w := by
  have hn := hm.name d s hd hs
  have hi := hm.ino d s hd hs
  rcases m.lead_cases ino d s with ⟨g1, g2⟩ | ⟨g1, g3, g2⟩ | ⟨g1, g3, g2⟩
  all_goals
    have H := hide g2
    clear g2
    go_enter Tryd.func23, Tryd.ntmps23
    go_wp2
    go_ret
    exact ⟨ret_bool (unhide H).symm, rfl⟩
set_option maxHeartbeats 800000 in
theorem rLeads_any (b : Nat) (m : Img) (ino : Int) (w : World) (hm : HasImg w b m) :
    Calls Tryd.prog 14 #[.pointer (some ⟨b, 0, none⟩), .int .i64 ino] w fun e w' => e = .returned (.int .i64 (m.refs ino : Nat)) ∧ w' = w := by
  go_enter Tryd.func14, Tryd.ntmps14
  go_wp2
  go_loop [5, 6] (fun c i => ∃ d : Nat, d ≤ 3 ∧ i = .int .i64 d ∧ c = .int .i64 (m.refsTo ino d : Nat)) (fun _ i => 3 - (intOf i).toNat)
  case atStart => exact ⟨0, by omega, rfl, rfl⟩
  case round =>
    obtain ⟨d, hd, rfl, rfl⟩ := hrel
    have hb := m.refsTo_le ino d
    by_cases hlt : d < 3
    · have t3 : decide ((d : Int) < 3) = true := by simp; omega
      go_wp2
      go_loop [5, 7] (fun c i => ∃ s : Nat, s ≤ 4 ∧ i = .int .i64 s ∧ c = .int .i64 (m.refsTo ino d + Img.cnt (m.leads ino d) s : Nat)) (fun _ i => 4 - (intOf i).toNat)
      case atStart => exact ⟨0, by omega, rfl, by simp [Img.cnt]⟩
      case round =>
        obtain ⟨s, hs, rfl, rfl⟩ := hrel
        have hc := Img.cnt_le (m.leads ino d) s
        by_cases hls : s < 4
        · have t4 : decide ((s : Int) < 4) = true := by simp; omega
          cases g1 : m.leads ino d s
          · have H := hide (Img.cnt_no (p := m.leads ino d) (n := s) g1)
            go_wp2_with fail
            refine (rleads_any b m d s hlt hls _ _ hm).mono ?_
            rw [g1]
            rintro e w1 ⟨rfl, e1⟩
            rw [e1]
            clear e1 w1
            go_wp2_with fail
            exact ⟨⟨s + 1, by omega, by go_num, by rw [unhide H]; go_num⟩, by simp [intOf]; omega⟩
          · have H := hide (Img.cnt_yes (p := m.leads ino d) (n := s) g1)
            go_wp2_with fail
            refine (rleads_any b m d s hlt hls _ _ hm).mono ?_
            rw [g1]
            rintro e w1 ⟨rfl, e1⟩
            rw [e1]
            clear e1 w1
            go_wp2_with fail
            exact ⟨⟨s + 1, by omega, by go_num, by rw [unhide H]; go_num⟩, by simp [intOf]; omega⟩
        · have e : s = 4 := by omega
          subst e
          go_wp2
          refine ⟨⟨d + 1, by omega, by go_num, by simp [Img.refsTo]⟩, by simp [intOf]; omega⟩
    · have e : d = 3 := by omega
      subst e
      go_wp2
      go_ret
      exact ⟨rfl, rfl⟩
end Go.Proofs.YtlbgkpibaahgladDoor
