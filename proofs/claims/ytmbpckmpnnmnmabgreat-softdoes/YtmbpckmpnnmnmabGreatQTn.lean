/-
  The walks of eiderdownref.BlockOf, InodeAs.
-/
import Derived.Test.YtmbpckmpnnmnmabGreatQTm
namespace Go.Proofs.YtmbpckmpnnmnmabGreat
open Go.RowKit
set_option maxHeartbeats 2000000 in
theorem blockOf_any (b : Int) (w : World) :
    Calls Tryz.prog 93 #[.int .i64 b] w fun e w' => e = .returned (.tuple #[.string (kindS b), .int .i64 (kindN b)]) ∧ w' = w := by
  go_enter Tryz.func93, Tryz.ntmps93
  go_wp2
  go_loop [4, 5] (fun k n => ∃ j nn : Nat, j ≤ 2 ∧ nn = 4 * j ∧ k = .int .i64 j ∧ n = .int .i64 nn ∧ (b < 0 ∨ (j : Int) ≤ b)) (fun k _ => 2 - (intOf k).toNat)
  case atStart => exact ⟨0, 0, by omega, rfl, rfl, rfl, by omega⟩
  case round =>
    obtain ⟨j, nn, hj, hnn, rfl, rfl, hb⟩ := hrel
    have HB := hide hb
    clear hb
    by_cases hlt : j < 2
    · have t8 : decide ((nn : Int) < 8) = true := by simp; omega
      have hn4 : nn ≤ 4 := by omega
      have HN := hide hnn
      clear hnn
      cases hq : ((j : Int) == b)
      · have H := hide (show b < 0 ∨ ((j + 1 : Nat) : Int) ≤ b by
          have h1 : (j : Int) ≠ b := by simpa using hq
          have := unhide HB
          omega)
        go_wp2
        exact ⟨⟨j + 1, nn + 4, by omega, by have := unhide HN; omega, by go_num, by go_num, unhide H⟩, by simp [intOf]; omega⟩
      · have e : (j : Int) = b := by simpa using hq
        have E := hide (show kindS b = ⟨#[105, 110, 111, 100, 101, 115]⟩ ∧ kindN b = (nn : Int) from by rw [← e]; exact ⟨(kind_ino hlt).1, by have := unhide HN; rw [(kind_ino hlt).2]; omega⟩)
        clear e
        go_wp2
        go_ret2
        exact ⟨by rw [(unhide E).1, (unhide E).2]; rfl, rfl⟩
    · have hj2 : j = 2 := by omega
      have hn8 : nn = 8 := by omega
      have H2 := hide (show b < 0 ∨ (2 : Int) ≤ b by have := unhide HB; omega)
      subst hj2 hn8
      clear HB
      go_wp2
      go_loop [4, 6] (fun k n => ∃ j kk : Nat, j ≤ 3 ∧ kk = j + 2 ∧ k = .int .i64 kk ∧ n = .int .i64 j ∧ (b < 0 ∨ (kk : Int) ≤ b)) (fun _ n => 3 - (intOf n).toNat)
      case atStart => exact ⟨0, 2, by omega, rfl, rfl, rfl, unhide H2⟩
      case round =>
        obtain ⟨j, kk, hj, hkk, rfl, rfl, hb⟩ := hrel
        have HB := hide hb
        clear hb
        by_cases hlt : j < 3
        · have t3 : decide ((j : Int) < 3) = true := by simp; omega
          cases hq : ((kk : Int) == b)
          · have H := hide (show b < 0 ∨ ((kk + 1 : Nat) : Int) ≤ b by
              have h1 : (kk : Int) ≠ b := by simpa using hq
              have := unhide HB
              omega)
            go_wp2
            exact ⟨⟨j + 1, kk + 1, by omega, by omega, by go_num, by go_num, unhide H⟩, by simp [intOf]; omega⟩
          · have e : (kk : Int) = b := by simpa using hq
            have E := hide (show kindS b = ⟨#[100, 105, 114]⟩ ∧ kindN b = (j : Int) from by rw [← e, hkk]; exact kind_dir hlt)
            clear e
            go_wp2
            go_ret2
            exact ⟨by rw [(unhide E).1, (unhide E).2]; rfl, rfl⟩
        · have t3 : decide ((j : Int) < 3) = false := by simp; omega
          have hj2 : j = 3 := by omega
          have hn8 : kk = 5 := by omega
          have H5 := hide (show b < 0 ∨ (5 : Int) ≤ b by have := unhide HB; omega)
          subst hj2 hn8
          clear HB
          go_wp2
          go_loop [4, 7] (fun k n => ∃ j kk : Nat, j ≤ 9 ∧ kk = j + 5 ∧ k = .int .i64 kk ∧ n = .int .i64 j ∧ (b < 0 ∨ (kk : Int) ≤ b)) (fun _ n => 9 - (intOf n).toNat)
          case atStart => exact ⟨0, 5, by omega, rfl, rfl, rfl, unhide H5⟩
          case round =>
            obtain ⟨j, kk, hj, hkk, rfl, rfl, hb⟩ := hrel
            have HB := hide hb
            clear hb
            by_cases hlt : j < 9
            · have t9 : decide ((j : Int) < 9) = true := by simp; omega
              cases hq : ((kk : Int) == b)
              · have H := hide (show b < 0 ∨ ((kk + 1 : Nat) : Int) ≤ b by
                  have h1 : (kk : Int) ≠ b := by simpa using hq
                  have := unhide HB
                  omega)
                go_wp2
                exact ⟨⟨j + 1, kk + 1, by omega, by omega, by go_num, by go_num, unhide H⟩, by simp [intOf]; omega⟩
              · have e : (kk : Int) = b := by simpa using hq
                have E := hide (show kindS b = ⟨#[100, 97, 116, 97]⟩ ∧ kindN b = (j : Int) from by rw [← e, hkk]; exact kind_data hlt)
                clear e
                go_wp2
                go_ret2
                exact ⟨by rw [(unhide E).1, (unhide E).2]; rfl, rfl⟩
            · have t9 : decide ((j : Int) < 9) = false := by simp; omega
              have hout : Img.inB b = false := by
                have := unhide HB
                simp [Img.inB]; omega
              have E := hide (kind_out hout)
              clear hout
              go_wp2
              go_ret2
              exact ⟨by rw [(unhide E).1, (unhide E).2]; rfl, rfl⟩
end Go.Proofs.YtmbpckmpnnmnmabGreat
