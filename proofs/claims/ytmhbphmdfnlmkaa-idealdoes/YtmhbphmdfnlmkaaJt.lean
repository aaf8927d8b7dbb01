/-
  (*eiderdownref.Ideal).Do, whole; a world and the reference's beside each other in memory.
-/
import Derived.Test.YtmhbphmdfnlmkaaVs
import Derived.Test.YtmhbphmdfnlmkaaJg
import Derived.Test.YtmhbphmdfnlmkaaJq
import Derived.Test.YtmhbphmdfnlmkaaJr
import Derived.Test.YtmhbphmdfnlmkaaJs
namespace Go.Proofs.Ytmhbphmdfnlmkaa
open Go.RowKit
namespace Idl
theorem IHeld.mono {b m m' : Nat} {vt vf : Value} {w w' : World} {S' : St} (h : IHeld b vt vf w w' S' m) (hm : m ≤ m') : IHeld b vt vf w w' S' m' := by
  obtain ⟨l', vt', vf', r, c, e, hl⟩ := h
  exact ⟨l', vt', vf', r, c, e, Nat.le_trans hl hm⟩
theorem rDo_any {w : World} {b : Nat} {S : St} {l : List Tg} {vt vf : Value} (h : IRep w b S l vt vf) (h1 : l.length ≤ 1000000) (h2 : S.next ≤ 1000000) (x : Stp) (hn : x.name.size ≤ maxLen) (ht : x.to.size ≤ maxLen) (hx : x.text.size ≤ maxLen) :
    Calls Try.prog 28 #[.pointer (some ⟨b, 0, none⟩), .agg (stpA x)] w fun e w' => e = .returned (.int .i64 (code S x)) ∧ IHeld b vt vf w w' (step S x) (l.length + 1) := by
  by_cases hc : code S x = 0
  · rw [hc]
    have k := step_cases hc
    obtain ⟨kind, dir, toDir, p, name, to, text⟩ := x
    rcases k with ⟨k, _⟩ | ⟨k, _⟩ | ⟨k, _⟩ | ⟨k, _⟩ | ⟨k, _⟩ | ⟨k, _⟩
    · have k : kind = 1 := k
      subst k
      exact rDo_make h h1 h2 dir toDir p name to text hn ht hx hc
    · have k : kind = 2 := k
      subst k
      exact rDo_link h h1 h2 dir toDir p name to text hn ht hx hc
    · have k : kind = 3 := k
      subst k
      exact (rDo_unlink h h1 h2 dir toDir p name to text hn ht hx hc).mono fun e w' z => ⟨z.1, z.2.mono (Nat.le_succ _)⟩
    · have k : kind = 4 := k
      subst k
      exact rDo_rename h h1 h2 dir toDir p name to text hn ht hx hc
    · have k : kind = 5 := k
      subst k
      exact (rDo_put h h1 h2 dir toDir p name to text hn ht hx hc).mono fun e w' z => ⟨z.1, z.2.mono (Nat.le_succ _)⟩
    · have k : kind = 6 := k
      subst k
      exact (rDo_cut h h1 h2 dir toDir p name to text hn ht hx hc).mono fun e w' z => ⟨z.1, z.2.mono (Nat.le_succ _)⟩
  · refine (rDo_code h h1 h2 x hn ht hx hc).mono ?_
    rintro e w' ⟨rfl, hb⟩
    have e : step S x = S := by simp [step, hc]
    rw [e]
    exact ⟨rfl, l, vt, vf, h.below hb, Chg.of_below hb, fun k hk => .inl hk, Nat.le_succ _⟩
theorem next_step (S : St) (x : Stp) : (step S x).next ≤ S.next + 1 := by
  by_cases hc : code S x = 0
  · rcases step_cases hc with ⟨_, e⟩ | ⟨_, e⟩ | ⟨_, e⟩ | ⟨_, e⟩ | ⟨_, e⟩ | ⟨_, e⟩ <;> rw [e]
    · exact Nat.le_refl _
    all_goals exact Nat.le_succ _
  · have e : step S x = S := by simp [step, hc]
    rw [e]; exact Nat.le_succ _
theorem IRep.new (w : World) : IRep (w.alloc (.cells #[.slice none 0 0, .slice none 0 0] 58)) w.heap.size St.empty [] (.slice none 0 0) (.slice none 0 0) :=
  ⟨Inv.empty, Tags.empty, heap_alloc_new w _, World.ownsRow_nil _ _ _ _, World.ownsRow_nil _ _ _ _, fun h => (by cases h), fun h => (by cases h), fun k h => (by cases h)⟩
/-- a world, the reference's world, a box with a step; what lay there ahead -/
structure Bo (w : World) (bw br : Nat) (x : Stp) (S T : St) (k : Nat) (W : World) : Prop where
  it : ∃ own sv loc l vt vf, Rep own sv loc W bw S ∧ IRep W br T l vt vf ∧ (∀ i, own i → ¬ iown br vt vf i) ∧ (∀ i, own i → w.heap.size + 1 ≤ i) ∧ (∀ i, iown br vt vf i → w.heap.size + 1 ≤ i) ∧ l.length ≤ k ∧ T.next ≤ k
  bel : Below w.heap.size w W
  box : ∀ j u, (stpA x)[j]? = some u → W.cell? ⟨w.heap.size, j, none⟩ = some u
  size : w.heap.size + 1 ≤ W.heap.size
section
variable {w W : World} {bw br k : Nat} {x : Stp} {S T : St}
theorem Bo.go {W' : World} (h : Bo w bw br x S T k W) {S' T' : St} {k' : Nat} (hb : Below (w.heap.size + 1) W W')
    (hi : ∃ own sv loc l vt vf, Rep own sv loc W' bw S' ∧ IRep W' br T' l vt vf ∧ (∀ i, own i → ¬ iown br vt vf i) ∧ (∀ i, own i → w.heap.size + 1 ≤ i) ∧ (∀ i, iown br vt vf i → w.heap.size + 1 ≤ i) ∧ l.length ≤ k' ∧ T'.next ≤ k') : Bo w bw br x S' T' k' W' :=
  ⟨hi, h.bel.trans (hb.mono (Nat.le_succ _)), fun j u hu => by rw [hb.cell (p := ⟨w.heap.size, j, none⟩) (Nat.lt_succ_self _)]; exact h.box j u hu, Nat.le_trans h.size hb.size⟩
theorem Bo.grow {W' : World} (h : Bo w bw br x S T k W) (hb : Below W.heap.size W W') : Bo w bw br x S T k W' := by
  refine h.go (hb.mono h.size) ?_
  obtain ⟨own, sv, loc, l, vt, vf, r, i, d, b1, b2, hl⟩ := h.it
  exact ⟨own, sv, loc, l, vt, vf, r.below hb, i.below hb, d, b1, b2, hl⟩
theorem Bo.inv (h : Bo w bw br x S T k W) : Inv S ∧ Inv T := by
  obtain ⟨own, sv, loc, l, vt, vf, r, i, _⟩ := h.it
  exact ⟨r.inv, i.inv⟩
theorem Bo.step1 (h : Bo w bw br x S T k W) (hF : Few S 999) (y : Stp) (hy : y.ok) :
    Calls Try.prog 27 #[.pointer (some ⟨bw, 0, none⟩), .agg (stpA y)] W fun e w' => e = .returned (.int .i64 (code S y)) ∧ Bo w bw br x (Idl.step S y) T k w' := by
  obtain ⟨own, sv, loc, l, vt, vf, r, i, d, b1, b2, hl⟩ := h.it
  obtain ⟨x1, x2, x3⟩ := hy.big
  refine (Do_any r hF y x1 x2 x3).mono ?_
  rintro e w' ⟨rfl, o3, s3, l3, r3, c, ho⟩
  refine ⟨rfl, h.go (c.below h.size b1) ⟨o3, s3, l3, l, vt, vf, r3, i.other c (fun j h2 h1 => d j h1 h2), fun j h3 h2 => ?_, fun j h3 => ?_, b2, hl⟩⟩
  · rcases ho j h3 with h1 | h1
    · exact d j h1 h2
    · have := i.lt h2; omega
  · rcases ho j h3 with h1 | h1
    · exact b1 j h1
    · have := h.size; omega
theorem Bo.step2 (h : Bo w bw br x S T k W) (hk : k ≤ 1000) (y : Stp) (hy : y.ok) :
    Calls Try.prog 28 #[.pointer (some ⟨br, 0, none⟩), .agg (stpA y)] W fun e w' => e = .returned (.int .i64 (code T y)) ∧ Bo w bw br x S (Idl.step T y) (k + 1) w' := by
  obtain ⟨own, sv, loc, l, vt, vf, r, i, d, b1, b2, hl, hn⟩ := h.it
  obtain ⟨x1, x2, x3⟩ := hy.big
  refine (rDo_any i (by omega) (by omega) y x1 x2 x3).mono ?_
  rintro e w' ⟨rfl, l', vt', vf', r3, c, ho, hl'⟩
  refine ⟨rfl, h.go (c.below h.size b2) ⟨own, sv, loc, l', vt', vf', r.other c (fun j h1 h2 => d j h1 h2), r3, fun j h1 h3 => ?_, b1, fun j h3 => ?_, by omega, by have := next_step T y; omega⟩⟩
  · rcases ho j h3 with h2 | h2
    · exact d j h1 h2
    · have := r.size j h1; omega
  · rcases ho j h3 with h2 | h2
    · exact b2 j h2
    · have := h.size; omega
theorem Bo.list1 (h : Bo w bw br x S T k W) (hF : Few S 1000) (d : Int) :
    Calls Try.prog 30 #[.pointer (some ⟨bw, 0, none⟩), .int .i64 d] W fun e w' => ∃ v, e = .returned v ∧ w'.ownsRow W.heap.size 9 1 v (names S d).length (strs (names S d)) ∧ Below W.heap.size W w' := by
  obtain ⟨own, sv, loc, l, vt, vf, r, _⟩ := h.it
  exact List_any r hF d
theorem Bo.list2 (h : Bo w bw br x S T k W) (hk : k ≤ 1000) (d : Int) :
    Calls Try.prog 31 #[.pointer (some ⟨br, 0, none⟩), .int .i64 d] W fun e w' => ∃ v, e = .returned v ∧ w'.ownsRow W.heap.size 9 1 v (names T d).length (strs (names T d)) ∧ Below W.heap.size W w' := by
  obtain ⟨own, sv, loc, l, vt, vf, _, i, _, _, _, hl, hn⟩ := h.it
  obtain ⟨ta, fa, tc, fc, _, _, R⟩ := i.rd (by omega) (by omega)
  rw [← names_same i.tags i.inv d]
  exact rList_any (by omega) d W R
theorem Bo.read1 (h : Bo w bw br x S T k W) (hF : Few S 1000) (d : Int) (s : ByteArray) (hs : s.size ≤ maxLen) (p : Int) :
    Calls Try.prog 32 #[.pointer (some ⟨bw, 0, none⟩), .int .i64 d, .string s, .int .i64 p] W fun e w' => e = .returned (.tuple #[.string (rdT S d s p), .bool (rdB S d s p), .int .i64 (code S (cut d s p))]) ∧ Below W.heap.size W w' := by
  obtain ⟨own, sv, loc, l, vt, vf, r, _⟩ := h.it
  exact Read_any r hF d s hs p
theorem Bo.read2 (h : Bo w bw br x S T k W) (hk : k ≤ 1000) (d : Int) (s : ByteArray) (hs : s.size ≤ maxLen) (p : Int) :
    Calls Try.prog 33 #[.pointer (some ⟨br, 0, none⟩), .int .i64 d, .string s, .int .i64 p] W fun e w' => readIs T d s p e ∧ Below W.heap.size W w' := by
  obtain ⟨own, sv, loc, l, vt, vf, _, i, _, _, _, hl, hn⟩ := h.it
  obtain ⟨ta, fa, tc, fc, _, _, R⟩ := i.rd (by omega) (by omega)
  exact rRead_any i.tags i.inv d s hs p W R
theorem Bo.same1 (h : Bo w bw br x S T k W) (hF : Few S 1000) (d : Int) (s : ByteArray) (d2 : Int) (s2 : ByteArray) :
    Calls Try.prog 34 #[.pointer (some ⟨bw, 0, none⟩), .int .i64 d, .string s, .int .i64 d2, .string s2] W fun e w' => e = .returned (.bool (Idl.same S d s d2 s2)) ∧ Below W.heap.size W w' := by
  obtain ⟨own, sv, loc, l, vt, vf, r, _⟩ := h.it
  exact Same_any r hF d s d2 s2
theorem Bo.same2 (h : Bo w bw br x S T k W) (hk : k ≤ 1000) (d : Int) (s : ByteArray) (d2 : Int) (s2 : ByteArray) :
    Calls Try.prog 35 #[.pointer (some ⟨br, 0, none⟩), .int .i64 d, .string s, .int .i64 d2, .string s2] W fun e w' => e = .returned (.bool (Idl.same T d s d2 s2)) ∧ ∃ q, w' = W.drewN q := by
  obtain ⟨own, sv, loc, l, vt, vf, _, i, _, _, _, hl, hn⟩ := h.it
  obtain ⟨ta, fa, tc, fc, _, _, R⟩ := i.rd (by omega) (by omega)
  exact rSame_any i.tags d s d2 s2 W R
theorem Bo.start (hb : Below (w.alloc (.cells (stpA x) 49)).heap.size (w.alloc (.cells (stpA x) 49)) W) :
    Bo w W.heap.size (W.heap.size + 1) x St.empty St.empty 0 ((W.alloc (.cells #[.slice none 0 0, .slice none 0 0, .slice none 0 0] 89)).alloc (.cells #[.slice none 0 0, .slice none 0 0] 58)) := by
  have hs := hb.size
  simp only [World.alloc, Array.size_push] at hs
  have e1 : (W.alloc (.cells #[.slice none 0 0, .slice none 0 0, .slice none 0 0] 89)).heap.size = W.heap.size + 1 := by simp
  have hB : Below (w.heap.size + 1) W ((W.alloc (.cells #[.slice none 0 0, .slice none 0 0, .slice none 0 0] 89)).alloc (.cells #[.slice none 0 0, .slice none 0 0] 58)) := ((Below.refl _ W).alloc hs _).alloc (by omega) _
  have hb' : Below (w.heap.size + 1) (w.alloc (.cells (stpA x) 49)) W := by simpa using hb
  have hT := hb'.trans hB
  have hi := IRep.new (W.alloc (.cells #[.slice none 0 0, .slice none 0 0, .slice none 0 0] 89))
  rw [e1] at hi
  refine ⟨⟨_, _, _, _, _, _, (Rep.new W).below ((Below.refl _ _).alloc (Nat.le_refl _) _), hi, fun k h1 h2 => ?_, fun k h1 => ?_, fun k h1 => ?_, Nat.le_refl _, Nat.le_refl _⟩, ?_, fun j u hu => ?_, by simp; omega⟩
  · rcases h2 with h2 | h2 | h2
    · omega
    · cases h2
    · cases h2
  · omega
  · rcases h1 with h2 | h2 | h2
    · omega
    · cases h2
    · cases h2
  · exact ((Below.refl _ w).alloc (Nat.le_refl _) _).trans (hT.mono (Nat.le_succ _))
  · rw [hT.cell (p := ⟨w.heap.size, j, none⟩) (Nat.lt_succ_self _), World.cell?_alloc_at _ _ _ _ rfl]; exact hu
end
end Idl
end Go.Proofs.Ytmhbphmdfnlmkaa
