/-
  A world without a disk, in memory: its root, its three rows of entries, its files.
-/
import Derived.Test.YtmbpckmpnnmnmacGreatXaf
import Derived.Test.YtmbpckmpnnmnmacGreatXac
import Derived.Laws.AppendOwn
import Derived.Deep.QuietTactic
import Derived.BigQuiet
import Derived.Deep.RegionWith
namespace Go.Proofs.YtmbpckmpnnmnmacGreat
open Go.RowKit
namespace Idl
/-- what is outside of 'own' is as it was -/
structure Chg (own : Nat → Prop) (w w' : World) : Prop where
  os : w'.os = w.os
  tape : w'.tape = w.tape
  output : w'.output = w.output
  size : w.heap.size ≤ w'.heap.size
  block : ∀ k, k < w.heap.size → ¬ own k → w'.heap[k]? = w.heap[k]?
theorem Chg.of_below {own : Nat → Prop} {w w' : World} (h : Below w.heap.size w w') : Chg own w w' := ⟨h.os, h.tape, h.output, h.size, fun k hk _ => h.block k hk⟩
theorem Chg.trans {own own' : Nat → Prop} {a b c : World} (h : Chg own a b) (k : Chg own' b c) (ho : ∀ i, own' i → own i ∨ a.heap.size ≤ i) : Chg own a c :=
  ⟨k.os.trans h.os, k.tape.trans h.tape, k.output.trans h.output, Nat.le_trans h.size k.size, fun i hi hn => (k.block i (Nat.lt_of_lt_of_le hi h.size) (fun ho' => by rcases ho i ho' with h1 | h1; exact hn h1; omega)).trans (h.block i hi hn)⟩
theorem Chg.below {own : Nat → Prop} {B : Nat} {w w' : World} (h : Chg own w w') (hB : B ≤ w.heap.size) (ho : ∀ k, own k → B ≤ k) : Below B w w' :=
  ⟨h.os, h.tape, h.output, h.size, fun k hk => h.block k (by omega) (fun hk' => by have := ho k hk'; omega)⟩
theorem ownsRow_of_block {w w' : World} {base : Nat} {e : TypeId} {size : Nat} {v : Value} {n : Nat} {xs : List Value} (h : w.ownsRow base e size v n xs) (hk : ∀ k, v.ownBlock = some k → w'.heap[k]? = w.heap[k]?) : w'.ownsRow base e size v n xs := by
  refine ⟨h.1, ?_⟩
  rcases h.2 with hn | ⟨g, cap, cur, rfl, hb, hg, rest⟩
  · exact .inl hn
  · exact .inr ⟨g, cap, cur, rfl, hb, by rw [hk g rfl]; exact hg, rest⟩
section
variable {own : Nat → Prop} {sv : Nat → Value} {loc : Nat → Nat} {w : World} {b : Nat} {S : St}
end
end Idl
end Go.Proofs.YtmbpckmpnnmnmacGreat
namespace Go.Proofs.YtmbpckmpnnmnmacGreat
open Go.RowKit
namespace Idl
abbrev stpA (x : Stp) : Array Value := #[.int .i64 x.kind, .int .i64 x.dir, .int .i64 x.toDir, .int .i64 x.p, .string x.name, .string x.to, .string x.text]
set_option maxHeartbeats 400000 in
theorem isDir_any (x : Int) (w : World) :
    Calls Tryz.prog 144 #[.int .i64 x] w fun e w' => e = .returned (.bool (isD x)) ∧ w' = w := by
  go_enter Tryz.func144, Tryz.ntmps144
  go_wp2
  all_goals
    go_ret
    refine ⟨ret_bool ?_, rfl⟩
    simp [isD]
    try omega
set_option maxHeartbeats 400000 in
theorem checkPlace_any (x : Int) (s : ByteArray) (hs : s.size ≤ maxLen) (w : World) :
    Calls Tryz.prog 128 #[.int .i64 x, .string s] w fun e w' => e = .returned (.int .i64 (spot x s)) ∧ w' = w := by
  cases h1 : isD x
  · have e : spot x s = 1 := by simp [spot, h1]
    rw [e]
    clear e
    have hc := isDir_any x w
    rw [h1] at hc
    clear h1
    go_enter Tryz.func128, Tryz.ntmps128
    go_wp2_with (go_at_call 144; refine hc.mono ?_; rintro e w' ⟨rfl, rfl⟩)
    go_ret
    exact ⟨rfl, rfl⟩
  · have hc := isDir_any x w
    rw [h1] at hc
    cases h2 : Img.isNmB s.toList
    · have e : spot x s = 2 := by simp [spot, h1, h2]
      rw [e]
      have hn := name_any s hs w
      rw [h2] at hn
      clear e h1 h2
      go_enter Tryz.func128, Tryz.ntmps128
      go_wp2_with (first
        | (go_at_call 144; refine hc.mono ?_; rintro e w' ⟨rfl, rfl⟩)
        | (go_at_call 83; refine hn.mono ?_; rintro e w' ⟨rfl, rfl⟩))
      go_ret
      exact ⟨rfl, rfl⟩
    · have e : spot x s = 0 := by simp [spot, h1, h2]
      rw [e]
      have hn := name_any s hs w
      rw [h2] at hn
      clear e h1 h2
      go_enter Tryz.func128, Tryz.ntmps128
      go_wp2_with (first
        | (go_at_call 144; refine hc.mono ?_; rintro e w' ⟨rfl, rfl⟩)
        | (go_at_call 83; refine hn.mono ?_; rintro e w' ⟨rfl, rfl⟩))
      go_ret
      exact ⟨rfl, rfl⟩
set_option maxHeartbeats 1000000 in
theorem Check_any (x : Stp) (hn : x.name.size ≤ maxLen) (ht : x.to.size ≤ maxLen) (hx : x.text.size ≤ maxLen) (w : World) :
    Calls Tryz.prog 97 #[.agg (stpA x)] w fun e w' => e = .returned (.int .i64 (chk x)) ∧ Below w.heap.size w w' := by
  unfold maxLen at hx
  go_enter Tryz.func97, Tryz.ntmps97
  go_wp2_with (first
        | (go_at_call_of 128 x.dir; refine (checkPlace_any x.dir x.name hn _).mono ?_; rintro e w' ⟨rfl, rfl⟩)
        | (go_at_call_of 128 x.toDir; refine (checkPlace_any x.toDir x.to ht _).mono ?_; rintro e w' ⟨rfl, rfl⟩))
  all_goals
    go_ret
    refine ⟨ret_int ?_, (Below.refl _ _).alloc (Nat.le_refl _) _⟩
    try simp only [bne_eq_false_iff_eq, beq_iff_eq, beq_eq_false_iff_ne, bne_iff_ne, ne_eq] at *
    unfold chk
    repeat' split
    all_goals first | rfl | omega
end Idl
end Go.Proofs.YtmbpckmpnnmnmacGreat
