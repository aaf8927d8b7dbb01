/-
  The walks of ideal.isDir, checkPlace, Check, New.
-/
import Derived.Test.YtmbpckmpnnmnmabGreatQMa
import Derived.Deep.QuietTactic
import Derived.BigQuiet
import Derived.Deep.RegionWith
namespace Go.Proofs.YtmbpckmpnnmnmabGreat
open Go.RowKit
namespace Idl
abbrev stpA (x : Stp) : Array Value := #[.int .i64 x.kind, .int .i64 x.dir, .int .i64 x.toDir, .int .i64 x.p, .string x.name, .string x.to, .string x.text]
set_option maxHeartbeats 400000 in
theorem isDir_any (x : Int) (w : World) :
    Calls Tryz.prog 137 #[.int .i64 x] w fun e w' => e = .returned (.bool (isD x)) ∧ w' = w := by
  go_enter Tryz.func137, Tryz.ntmps137
  go_wp2
  all_goals
    go_ret
    refine ⟨ret_bool ?_, rfl⟩
    simp [isD]
    try omega
set_option maxHeartbeats 400000 in
theorem checkPlace_any (x : Int) (s : ByteArray) (hs : s.size ≤ maxLen) (w : World) :
    Calls Tryz.prog 116 #[.int .i64 x, .string s] w fun e w' => e = .returned (.int .i64 (spot x s)) ∧ w' = w := by
  cases h1 : isD x
  · have e : spot x s = 1 := by simp [spot, h1]
    rw [e]
    clear e
    have hc := isDir_any x w
    rw [h1] at hc
    clear h1
    go_enter Tryz.func116, Tryz.ntmps116
    go_wp2_with (go_at_call 137; refine hc.mono ?_; rintro e w' ⟨rfl, rfl⟩)
    go_ret
    exact ⟨rfl, rfl⟩
  · have hc := isDir_any x w
    rw [h1] at hc
    cases h2 : Img.isNmB s.toList
    · have e : spot x s = 2 := by simp [spot, h1, h2]
      rw [e]
      have hn := name_any s hs w
      rw [h2] at hn
      clear e h1 h2
      go_enter Tryz.func116, Tryz.ntmps116
      go_wp2_with (first
        | (go_at_call 137; refine hc.mono ?_; rintro e w' ⟨rfl, rfl⟩)
        | (go_at_call 127; refine hn.mono ?_; rintro e w' ⟨rfl, rfl⟩))
      go_ret
      exact ⟨rfl, rfl⟩
    · have e : spot x s = 0 := by simp [spot, h1, h2]
      rw [e]
      have hn := name_any s hs w
      rw [h2] at hn
      clear e h1 h2
      go_enter Tryz.func116, Tryz.ntmps116
      go_wp2_with (first
        | (go_at_call 137; refine hc.mono ?_; rintro e w' ⟨rfl, rfl⟩)
        | (go_at_call 127; refine hn.mono ?_; rintro e w' ⟨rfl, rfl⟩))
      go_ret
      exact ⟨rfl, rfl⟩
set_option maxHeartbeats 1000000 in
theorem Check_any (x : Stp) (hn : x.name.size ≤ maxLen) (ht : x.to.size ≤ maxLen) (hx : x.text.size ≤ maxLen) (w : World) :
    Calls Tryz.prog 80 #[.agg (stpA x)] w fun e w' => e = .returned (.int .i64 (chk x)) ∧ Below w.heap.size w w' := by
  unfold maxLen at hx
  go_enter Tryz.func80, Tryz.ntmps80
  go_wp2_with (first
        | (go_at_call_of 116 x.dir; refine (checkPlace_any x.dir x.name hn _).mono ?_; rintro e w' ⟨rfl, rfl⟩)
        | (go_at_call_of 116 x.toDir; refine (checkPlace_any x.toDir x.to ht _).mono ?_; rintro e w' ⟨rfl, rfl⟩))
  all_goals
    go_ret
    refine ⟨ret_int ?_, (Below.refl _ _).alloc (Nat.le_refl _) _⟩
    try simp only [bne_eq_false_iff_eq, beq_iff_eq, beq_eq_false_iff_ne, bne_iff_ne, ne_eq] at *
    unfold chk
    repeat' split
    all_goals first | rfl | omega
end Idl
end Go.Proofs.YtmbpckmpnnmnmabGreat
