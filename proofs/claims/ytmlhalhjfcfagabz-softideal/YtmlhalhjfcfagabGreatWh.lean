/-
  The walk of image.Exact.
-/
import Derived.Test.YtmlhalhjfcfagabGreatWg
namespace Go.Proofs.YtmlhalhjfcfagabGreat
open Go.RowKit
def inexact (m : Img) (n : Nat) : Bool := m.live n && (decide (m.links n < 1) || !(m.links n == (m.refs n : Int)))
set_option maxHeartbeats 1000000 in
theorem exact_any (b : Nat) (m : Img) (w : World) (hm : HasImg w b m) :
    Calls Tryz.prog 35 #[.pointer (some ⟨b, 0, none⟩)] w fun e w' => e = .returned (.bool m.exact) ∧ Below w.heap.size w w' := by
  have hl := hm.lt
  cases gc : m.check == 0
  · have E := hide (show m.exact = false by unfold Img.exact; rw [decide_eq_false (by simpa using gc)]; rfl)
    go_enter Tryz.func35, Tryz.ntmps35
    go_wp2_with (go_at_call 65; refine (check_any _ m _ hm).mono ?_; rintro e w1 ⟨rfl, hb1⟩)
    go_ret
    exact ⟨ret_bool (unhide E).symm, hb1⟩
  · have gcn : (m.check != 0) = false := by simpa using gc
    have E := hide (show m.exact = !Img.anyB (inexact m) 8 by unfold Img.exact; rw [decide_eq_true (by simpa using gc)]; rfl)
    go_enter Tryz.func35, Tryz.ntmps35
    go_wp2_with (go_at_call 65; refine (check_any _ m _ hm).mono ?_; rintro e w1 ⟨rfl, hb1⟩)
    go_loopw [8] (fun i wr => ∃ n : Nat, n ≤ 8 ∧ i = .int .i64 n ∧ Below w.heap.size w wr ∧ ∀ j, j < n → inexact m j = false) (fun i _ => 8 - (intOf i).toNat)
    case atStart => exact ⟨0, by omega, rfl, hb1, fun j hj => by omega⟩
    case round =>
      clear hb1
      obtain ⟨n, hn, rfl, hbr, hall⟩ := hrel
      have H := hide hall
      clear hall
      have hsz := hbr.size
      have hmr := hm.below hbr hl
      by_cases hlt : n < 8
      · have hlv := hmr.live n hlt
        have hlk := hmr.links n hlt
        cases gl : m.live n
        · rw [gl] at hlv
          have E2 := hide (show inexact m n = false by unfold inexact; rw [gl]; rfl)
          go_wp2
          go_quiet (fail)
          go_wp2
          go_roundw
          case rel => exact ⟨n + 1, by omega, by go_num, belowN hbr, forall_succ (unhide H) (unhide E2)⟩
          case measure => simp [intOf]; omega
        rw [gl] at hlv
        by_cases g1 : m.links n < 1
        · have g1d : decide (m.links n < 1) = true := by simpa using g1
          have E2 := hide (show inexact m n = true by unfold inexact; rw [gl, g1d]; rfl)
          go_wp2
          go_quiet (fail)
          go_wp2
          go_ret
          exact ⟨ret_bool (by rw [unhide E, Img.anyB_true hlt (unhide E2)]; rfl), belowN hbr⟩
        have g1d : decide (m.links n < 1) = false := by simpa using g1
        cases g2 : m.links n == (m.refs n : Int)
        · have E2 := hide (show inexact m n = true by unfold inexact; rw [gl, g2, Bool.not_false, Bool.or_true]; rfl)
          go_wp2
          go_quiet ((go_at_call 38; exact Calls.quiet_of_same (refs_any _ m _ _ (hmr.below (belowN (Below.refl _ _)) hmr.lt))))
          go_wp2
          go_ret
          exact ⟨ret_bool (by rw [unhide E, Img.anyB_true hlt (unhide E2)]; rfl), belowN hbr⟩
        · have E2 := hide (show inexact m n = false by unfold inexact; rw [g1d, g2, Bool.not_true, Bool.or_false, Bool.and_false])
          go_wp2
          go_quiet ((go_at_call 38; exact Calls.quiet_of_same (refs_any _ m _ _ (hmr.below (belowN (Below.refl _ _)) hmr.lt))))
          go_wp2
          go_roundw
          case rel => exact ⟨n + 1, by omega, by go_num, belowN hbr, forall_succ (unhide H) (unhide E2)⟩
          case measure => simp [intOf]; omega
      · have e : n = 8 := by omega
        subst e
        go_wp2
        go_ret
        exact ⟨ret_bool (by rw [unhide E, Img.anyB_false.2 (unhide H)]; rfl), hbr⟩
end Go.Proofs.YtmlhalhjfcfagabGreat
