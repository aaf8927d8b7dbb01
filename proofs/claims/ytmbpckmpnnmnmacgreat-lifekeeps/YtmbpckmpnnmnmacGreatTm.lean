/-
  The walks of eiderdownref.leads, Leads, Both.
-/
import Derived.Test.YtmbpckmpnnmnmacGreatTh
namespace Go.Proofs.YtmbpckmpnnmnmacGreat
open Go.RowKit
set_option maxHeartbeats 400000 in
theorem rleads_any (b : Nat) (m : Img) (d s : Nat) (hd : d < 3) (hs : s < 4) (ino : Int) (w : World) (hm : HasImg w b m) :
    Calls Tryz.prog 87 #[.pointer (some ⟨b, 0, none⟩), .int .i64 d, .int .i64 s, .int .i64 ino] w fun e w' => e = .returned (.bool (m.leads ino d s)) ∧ w' = w := by
  have hn := hm.name d s hd hs
  have hi := hm.ino d s hd hs
  rcases m.lead_cases ino d s with ⟨g1, g2⟩ | ⟨g1, g3, g2⟩ | ⟨g1, g3, g2⟩
  all_goals
    have H := hide g2
    clear g2
    go_enter Tryz.func87, Tryz.ntmps87
    go_wp2
    go_ret
    exact ⟨ret_bool (unhide H).symm, rfl⟩
set_option maxHeartbeats 800000 in
theorem rLeads_any (b : Nat) (m : Img) (ino : Int) (w : World) (hm : HasImg w b m) :
    Calls Tryz.prog 55 #[.pointer (some ⟨b, 0, none⟩), .int .i64 ino] w fun e w' => e = .returned (.int .i64 (m.refs ino : Nat)) ∧ w' = w := by
  go_enter Tryz.func55, Tryz.ntmps55
  go_wp2
  go_loop [5, 6] (fun c i => ∃ d : Nat, d ≤ 3 ∧ i = .int .i64 d ∧ c = .int .i64 (m.refsTo ino d : Nat)) (fun _ i => 3 - (intOf i).toNat)
  case atStart => exact ⟨0, by omega, rfl, rfl⟩
  case round =>
    obtain ⟨d, hd, rfl, rfl⟩ := hrel
    have hb := m.refsTo_le ino d
    by_cases hlt : d < 3
    · have t3 : decide ((d : Int) < 3) = true := by simp; omega
      go_wp2
      go_loop [5, 7] (fun c i => ∃ s : Nat, s ≤ 4 ∧ i = .int .i64 s ∧ c = .int .i64 (m.refsTo ino d + Img.cnt (m.leads ino d) s : Nat)) (fun _ i => 4 - (intOf i).toNat)
      case atStart => exact ⟨0, by omega, rfl, by simp [Img.cnt]⟩
      case round =>
        obtain ⟨s, hs, rfl, rfl⟩ := hrel
        have hc := Img.cnt_le (m.leads ino d) s
        by_cases hls : s < 4
        · have t4 : decide ((s : Int) < 4) = true := by simp; omega
          cases g1 : m.leads ino d s
          · have H := hide (Img.cnt_no (p := m.leads ino d) (n := s) g1)
            go_wp2_with fail
            refine (rleads_any b m d s hlt hls _ _ hm).mono ?_
            rw [g1]
            rintro e w1 ⟨rfl, e1⟩
            rw [e1]
            clear e1 w1
            go_wp2_with fail
            exact ⟨⟨s + 1, by omega, by go_num, by rw [unhide H]; go_num⟩, by simp [intOf]; omega⟩
          · have H := hide (Img.cnt_yes (p := m.leads ino d) (n := s) g1)
            go_wp2_with fail
            refine (rleads_any b m d s hlt hls _ _ hm).mono ?_
            rw [g1]
            rintro e w1 ⟨rfl, e1⟩
            rw [e1]
            clear e1 w1
            go_wp2_with fail
            exact ⟨⟨s + 1, by omega, by go_num, by rw [unhide H]; go_num⟩, by simp [intOf]; omega⟩
        · have e : s = 4 := by omega
          subst e
          go_wp2
          refine ⟨⟨d + 1, by omega, by go_num, by simp [Img.refsTo]⟩, by simp [intOf]; omega⟩
    · have e : d = 3 := by omega
      subst e
      go_wp2
      go_ret
      exact ⟨rfl, rfl⟩
set_option maxHeartbeats 800000 in
theorem both_any (b c : Nat) (m k : Img) (ino : Int) (w : World) (hm : HasImg w b m) (hk : HasImg w c k) :
    Calls Tryz.prog 133 #[.pointer (some ⟨b, 0, none⟩), .pointer (some ⟨c, 0, none⟩), .int .i64 ino] w fun e w' => e = .returned (.int .i64 (Img.uni m k ino : Nat)) ∧ w' = w := by
  go_enter Tryz.func133, Tryz.ntmps133
  go_wp2
  go_loop [7, 8] (fun c i => ∃ d : Nat, d ≤ 3 ∧ i = .int .i64 d ∧ c = .int .i64 (Img.uniTo m k ino d : Nat)) (fun _ i => 3 - (intOf i).toNat)
  case atStart => exact ⟨0, by omega, rfl, rfl⟩
  case round =>
    obtain ⟨d, hd, rfl, rfl⟩ := hrel
    have hb := Img.uniTo_le m k ino d
    by_cases hlt : d < 3
    · have t3 : decide ((d : Int) < 3) = true := by simp; omega
      go_wp2
      go_loop [7, 9] (fun c i => ∃ s : Nat, s ≤ 4 ∧ i = .int .i64 s ∧ c = .int .i64 (Img.uniTo m k ino d + Img.cnt (Img.both m k ino d) s : Nat)) (fun _ i => 4 - (intOf i).toNat)
      case atStart => exact ⟨0, by omega, rfl, by simp [Img.cnt]⟩
      case round =>
        obtain ⟨s, hs, rfl, rfl⟩ := hrel
        have hc := Img.cnt_le (Img.both m k ino d) s
        by_cases hls : s < 4
        · have t4 : decide ((s : Int) < 4) = true := by simp; omega
          cases g1 : m.leads ino d s
          · cases g2 : k.leads ino d s
            · have H := hide (Img.cnt_no (p := Img.both m k ino d) (n := s) (by unfold Img.both; rw [g1, g2]; rfl))
              go_wp2_with fail
              refine (rleads_any b m d s hlt hls _ _ hm).mono ?_
              rw [g1]
              rintro e w1 ⟨rfl, e1⟩
              rw [e1]
              clear e1 w1
              go_wp2_with fail
              refine (rleads_any c k d s hlt hls _ _ hk).mono ?_
              rw [g2]
              rintro e w1 ⟨rfl, e1⟩
              rw [e1]
              clear e1 w1
              go_wp2_with fail
              exact ⟨⟨s + 1, by omega, by go_num, by rw [unhide H]; go_num⟩, by simp [intOf]; omega⟩
            · have H := hide (Img.cnt_yes (p := Img.both m k ino d) (n := s) (by unfold Img.both; rw [g1, g2]; rfl))
              go_wp2_with fail
              refine (rleads_any b m d s hlt hls _ _ hm).mono ?_
              rw [g1]
              rintro e w1 ⟨rfl, e1⟩
              rw [e1]
              clear e1 w1
              go_wp2_with fail
              refine (rleads_any c k d s hlt hls _ _ hk).mono ?_
              rw [g2]
              rintro e w1 ⟨rfl, e1⟩
              rw [e1]
              clear e1 w1
              go_wp2_with fail
              exact ⟨⟨s + 1, by omega, by go_num, by rw [unhide H]; go_num⟩, by simp [intOf]; omega⟩
          · have H := hide (Img.cnt_yes (p := Img.both m k ino d) (n := s) (by unfold Img.both; rw [g1]; rfl))
            go_wp2_with fail
            refine (rleads_any b m d s hlt hls _ _ hm).mono ?_
            rw [g1]
            rintro e w1 ⟨rfl, e1⟩
            rw [e1]
            clear e1 w1
            go_wp2_with fail
            exact ⟨⟨s + 1, by omega, by go_num, by rw [unhide H]; go_num⟩, by simp [intOf]; omega⟩
        · have e : s = 4 := by omega
          subst e
          go_wp2
          refine ⟨⟨d + 1, by omega, by go_num, by simp [Img.uniTo]⟩, by simp [intOf]; omega⟩
    · have e : d = 3 := by omega
      subst e
      go_wp2
      go_ret
      exact ⟨rfl, rfl⟩
end Go.Proofs.YtmbpckmpnnmnmacGreat
