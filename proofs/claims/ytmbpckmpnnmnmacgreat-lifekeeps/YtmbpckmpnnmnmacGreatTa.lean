/-
  The walks of safe.isInode, isData, leads, Union, Block.
-/
import Derived.Test.YtmbpckmpnnmnmacGreatWm
import Derived.Test.YtmbpckmpnnmnmacGreatSi
namespace Go.Proofs.YtmbpckmpnnmnmacGreat
open Go.RowKit
set_option maxHeartbeats 400000 in
theorem sIsData_any (x : Int) (w : World) :
    Calls Tryz.prog 147 #[.int .i64 x] w fun e w' => e = .returned (.bool (Img.isD x)) ∧ w' = w := by
  go_enter Tryz.func147, Tryz.ntmps147
  go_wp2
  all_goals
    go_ret
    refine ⟨ret_bool ?_, rfl⟩
    simp [Img.isD]
    try omega
set_option maxHeartbeats 400000 in
theorem sIsInode_any (x : Int) (w : World) :
    Calls Tryz.prog 139 #[.int .i64 x] w fun e w' => e = .returned (.bool (Img.isI x)) ∧ w' = w := by
  go_enter Tryz.func139, Tryz.ntmps139
  go_wp2
  all_goals
    go_ret
    refine ⟨ret_bool ?_, rfl⟩
    simp [Img.isI]
    try omega
set_option maxHeartbeats 400000 in
theorem leads_any (b : Nat) (m : Img) (d s : Nat) (hd : d < 3) (hs : s < 4) (ino : Int) (w : World) (hm : HasImg w b m) :
    Calls Tryz.prog 146 #[.pointer (some ⟨b, 40 + d * 12 + s * 3, none⟩), .int .i64 ino] w fun e w' => e = .returned (.bool (m.leads ino d s)) ∧ w' = w := by
  have hn := hm.name d s hd hs
  have hi := hm.ino d s hd hs
  rcases m.lead_cases ino d s with ⟨g1, g2⟩ | ⟨g1, g3, g2⟩ | ⟨g1, g3, g2⟩
  all_goals
    have H := hide g2
    clear g2
    go_enter Tryz.func146, Tryz.ntmps146
    go_wp2
    go_ret
    exact ⟨ret_bool (unhide H).symm, rfl⟩
set_option maxRecDepth 100000 in
set_option maxHeartbeats 800000 in
theorem union_any (b c : Nat) (m k : Img) (ino : Int) (w : World) (hm : HasImg w b m) (hk : HasImg w c k) :
    Calls Tryz.prog 140 #[.pointer (some ⟨b, 0, none⟩), .pointer (some ⟨c, 0, none⟩), .int .i64 ino] w fun e w' => e = .returned (.int .i64 (Img.uni m k ino : Nat)) ∧ w' = w := by
  go_enter Tryz.func140, Tryz.ntmps140
  go_wp2
  go_loop [7, 10] (fun c i => ∃ d : Nat, d ≤ 3 ∧ i = .int .i64 d ∧ c = .int .i64 (Img.uniTo m k ino d : Nat)) (fun _ i => 3 - (intOf i).toNat)
  case atStart => exact ⟨0, by omega, rfl, rfl⟩
  case round =>
    obtain ⟨d, hd, rfl, rfl⟩ := hrel
    have hb := Img.uniTo_le m k ino d
    by_cases hlt : d < 3
    · go_wp2
      go_loop [7, 13] (fun c i => ∃ s : Nat, s ≤ 4 ∧ i = .int .i64 s ∧ c = .int .i64 (Img.uniTo m k ino d + Img.cnt (Img.both m k ino d) s : Nat)) (fun _ i => 4 - (intOf i).toNat)
      case atStart => exact ⟨0, by omega, rfl, by simp [Img.cnt]⟩
      case round =>
        obtain ⟨s, hs, rfl, rfl⟩ := hrel
        have hc := Img.cnt_le (Img.both m k ino d) s
        by_cases hls : s < 4
        · cases g1 : m.leads ino d s
          · cases g2 : k.leads ino d s
            · have H := hide (Img.cnt_no (p := Img.both m k ino d) (n := s) (by unfold Img.both; rw [g1, g2]; rfl))
              go_wp2_with fail
              refine (leads_any b m d s hlt hls _ _ hm).mono ?_
              rw [g1]
              rintro e w1 ⟨rfl, e1⟩
              rw [e1]
              clear e1 w1
              go_wp2_with fail
              refine (leads_any c k d s hlt hls _ _ hk).mono ?_
              rw [g2]
              rintro e w1 ⟨rfl, e1⟩
              rw [e1]
              clear e1 w1
              go_wp2_with fail
              exact ⟨⟨s + 1, by omega, by go_num, by rw [unhide H]; go_num⟩, by simp [intOf]; omega⟩
            · have H := hide (Img.cnt_yes (p := Img.both m k ino d) (n := s) (by unfold Img.both; rw [g1, g2]; rfl))
              go_wp2_with fail
              refine (leads_any b m d s hlt hls _ _ hm).mono ?_
              rw [g1]
              rintro e w1 ⟨rfl, e1⟩
              rw [e1]
              clear e1 w1
              go_wp2_with fail
              refine (leads_any c k d s hlt hls _ _ hk).mono ?_
              rw [g2]
              rintro e w1 ⟨rfl, e1⟩
              rw [e1]
              clear e1 w1
              go_wp2_with fail
              exact ⟨⟨s + 1, by omega, by go_num, by rw [unhide H]; go_num⟩, by simp [intOf]; omega⟩
          · have H := hide (Img.cnt_yes (p := Img.both m k ino d) (n := s) (by unfold Img.both; rw [g1]; rfl))
            go_wp2_with (go_at_call 146; refine (leads_any b m d s hlt hls _ _ hm).mono ?_; rw [g1]; rintro e w1 ⟨rfl, rfl⟩)
            exact ⟨⟨s + 1, by omega, by go_num, by rw [unhide H]; go_num⟩, by simp [intOf]; omega⟩
        · have e : s = 4 := by omega
          subst e
          go_wp2
          refine ⟨⟨d + 1, by omega, by go_num, by simp [Img.uniTo]⟩, by simp [intOf]; omega⟩
    · have e : d = 3 := by omega
      subst e
      go_wp2
      go_ret
      exact ⟨rfl, rfl⟩
/-- the kind of a block, as it is told -/
def kindS (b : Int) : ByteArray := if Img.inB b = false then ⟨#[]⟩ else if b < 2 then ⟨#[105, 110, 111, 100, 101, 115]⟩ else if b < 5 then ⟨#[100, 105, 114]⟩ else ⟨#[100, 97, 116, 97]⟩
def kindN (b : Int) : Int := if Img.inB b = false then 0 else if b < 2 then b * 4 else if b < 5 then b - 2 else b - 5
theorem kind_out {b : Int} (h : Img.inB b = false) : kindS b = ⟨#[]⟩ ∧ kindN b = 0 := ⟨if_pos h, if_pos h⟩
theorem kind_ino {k : Nat} (h : k < 2) : kindS (k : Int) = ⟨#[105, 110, 111, 100, 101, 115]⟩ ∧ kindN (k : Int) = k * 4 := by
  have e : Img.inB (k : Int) = true := by simp [Img.inB]; omega
  unfold kindS kindN
  rw [e, if_neg (by simp), if_pos (by omega), if_neg (by simp), if_pos (by omega)]; exact ⟨rfl, rfl⟩
theorem kind_dir {d : Nat} (h : d < 3) : kindS ((d + 2 : Nat) : Int) = ⟨#[100, 105, 114]⟩ ∧ kindN ((d + 2 : Nat) : Int) = (d : Nat) := by
  have e : Img.inB ((d + 2 : Nat) : Int) = true := by simp [Img.inB]; omega
  unfold kindS kindN
  rw [e, if_neg (by simp), if_neg (by omega), if_pos (by omega), if_neg (by simp), if_neg (by omega), if_pos (by omega)]; exact ⟨rfl, by omega⟩
theorem kind_data {x : Nat} (h : x < 9) : kindS ((x + 5 : Nat) : Int) = ⟨#[100, 97, 116, 97]⟩ ∧ kindN ((x + 5 : Nat) : Int) = (x : Nat) := by
  have e : Img.inB ((x + 5 : Nat) : Int) = true := by simp [Img.inB]; omega
  unfold kindS kindN
  rw [e, if_neg (by simp), if_neg (by omega), if_neg (by omega), if_neg (by simp), if_neg (by omega), if_neg (by omega)]; exact ⟨rfl, by omega⟩
set_option maxHeartbeats 400000 in
theorem block_any (b : Int) (w : World) :
    Calls Tryz.prog 57 #[.int .i64 b] w fun e w' => e = .returned (.tuple #[.string (kindS b), .int .i64 (kindN b)]) ∧ w' = w := by
  rcases Img.blocks b with h | ⟨k, hk, rfl⟩ | ⟨d, hd, rfl⟩ | ⟨x, hx, rfl⟩
  · obtain ⟨e1, e2⟩ := kind_out h
    rw [e1, e2]
    clear e1 e2
    have hb : b < 0 ∨ 14 ≤ b := by
      simp [Img.inB] at h
      omega
    clear h
    by_cases h0 : b < 0
    · clear hb
      go_enter Tryz.func57, Tryz.ntmps57
      go_wp2
      go_ret2
      exact ⟨rfl, rfl⟩
    · have h1 : 14 ≤ b := by omega
      clear hb
      go_enter Tryz.func57, Tryz.ntmps57
      go_wp2
      go_ret2
      exact ⟨rfl, rfl⟩
  · obtain ⟨e1, e2⟩ := kind_ino hk
    rw [e1, e2]
    clear e1 e2
    go_enter Tryz.func57, Tryz.ntmps57
    go_wp2
    go_ret2
    exact ⟨rfl, rfl⟩
  · obtain ⟨e1, e2⟩ := kind_dir hd
    rw [e1, e2]
    clear e1 e2
    go_enter Tryz.func57, Tryz.ntmps57
    go_wp2
    go_ret2
    exact ⟨by go_num, rfl⟩
  · obtain ⟨e1, e2⟩ := kind_data hx
    rw [e1, e2]
    clear e1 e2
    go_enter Tryz.func57, Tryz.ntmps57
    go_wp2
    go_ret2
    exact ⟨by go_num, rfl⟩
end Go.Proofs.YtmbpckmpnnmnmacGreat
