/-
  Two worlds beside each other in memory, and a box with a step: what each call leaves of them.
-/
import Derived.Test.YtmhbphmdfnlmkaaVp
import Derived.Test.YtmhbphmdfnlmkaaVn
import Derived.Test.YtmhbphmdfnlmkaaVq
namespace Go.Proofs.Ytmhbphmdfnlmkaa
open Go.RowKit
namespace Idl
theorem Rep.new (w : World) : Rep (fun k => k = w.heap.size) (fun _ => .slice none 0 0) (fun _ => 0) (w.alloc (.cells #[.slice none 0 0, .slice none 0 0, .slice none 0 0] 89)) w.heap.size St.empty := by
  refine ⟨Inv.empty, fun k hk => (by subst hk; simp), heap_alloc_new w _, rfl, fun d _ => World.ownsRow_nil _ _ _ _, fun d k _ hk => (by cases hk), fun d e k _ _ _ hk => (by cases hk), fun i hi => (by cases hi), fun i hi => (by cases hi), fun i j hi => (by cases hi)⟩
structure Two (B : Nat) (W : World) (bw bv : Nat) (S T : St) : Prop where
  both : ∃ own1 sv1 loc1 own2 sv2 loc2, Rep own1 sv1 loc1 W bw S ∧ Rep own2 sv2 loc2 W bv T ∧ (∀ k, own1 k → ¬ own2 k) ∧ (∀ k, own1 k → B ≤ k) ∧ (∀ k, own2 k → B ≤ k)
theorem Two.flip {B : Nat} {W : World} {bw bv : Nat} {S T : St} (h : Two B W bw bv S T) : Two B W bv bw T S := by
  obtain ⟨o1, s1, l1, o2, s2, l2, r1, r2, d, b1, b2⟩ := h.both
  exact ⟨o2, s2, l2, o1, s1, l1, r2, r1, fun k h2 h1 => d k h1 h2, b2, b1⟩
theorem Two.keep {B : Nat} {W W' : World} {bw bv : Nat} {S T : St} (h : Two B W bw bv S T) (hs : W.heap.size ≤ W'.heap.size) (hk : ∀ k, B ≤ k → k < W.heap.size → W'.heap[k]? = W.heap[k]?) : Two B W' bw bv S T := by
  obtain ⟨o1, s1, l1, o2, s2, l2, r1, r2, d, b1, b2⟩ := h.both
  exact ⟨o1, s1, l1, o2, s2, l2, r1.keep hs (fun k ho => hk k (b1 k ho) (r1.size k ho)), r2.keep hs (fun k ho => hk k (b2 k ho) (r2.size k ho)), d, b1, b2⟩
theorem Two.inv {B : Nat} {W : World} {bw bv : Nat} {S T : St} (h : Two B W bw bv S T) : Inv S ∧ Inv T := by
  obtain ⟨o1, s1, l1, o2, s2, l2, r1, r2, _⟩ := h.both
  exact ⟨r1.inv, r2.inv⟩
theorem Two.step {B : Nat} {W : World} {bw bv : Nat} {S T : St} (h : Two B W bw bv S T) (hB : B ≤ W.heap.size) (hF : Few S 999) (x : Stp) (hx : x.ok) :
    Calls Try.prog 27 #[.pointer (some ⟨bw, 0, none⟩), .agg (stpA x)] W fun e w' => e = .returned (.int .i64 (code S x)) ∧ Two B w' bw bv (step S x) T ∧ Below B W w' := by
  obtain ⟨o1, s1, l1, o2, s2, l2, r1, r2, d, b1, b2⟩ := h.both
  obtain ⟨x1, x2, x3⟩ := hx.big
  refine (Do_any r1 hF x x1 x2 x3).mono ?_
  rintro e w' ⟨rfl, o3, s3, l3, r3, c, ho⟩
  refine ⟨rfl, ⟨o3, s3, l3, o2, s2, l2, r3, r2.other c (fun k h2 h1 => d k h1 h2), fun k h3 h2 => ?_, fun k h3 => ?_, b2⟩, c.below hB b1⟩
  · rcases ho k h3 with h1 | h1
    · exact d k h1 h2
    · have := r2.size k h2; omega
  · rcases ho k h3 with h1 | h1
    · exact b1 k h1
    · omega
theorem Two.read {B : Nat} {W : World} {bw bv : Nat} {S T : St} (h : Two B W bw bv S T) (hF : Few S 1000) (d : Int) (s : ByteArray) (hs : s.size ≤ maxLen) (p : Int) :
    Calls Try.prog 32 #[.pointer (some ⟨bw, 0, none⟩), .int .i64 d, .string s, .int .i64 p] W fun e w' => e = .returned (.tuple #[.string (rdT S d s p), .bool (rdB S d s p), .int .i64 (code S (cut d s p))]) ∧ Below W.heap.size W w' := by
  obtain ⟨o1, s1, l1, o2, s2, l2, r1, r2, _⟩ := h.both
  exact Read_any r1 hF d s hs p
theorem Two.same {B : Nat} {W : World} {bw bv : Nat} {S T : St} (h : Two B W bw bv S T) (hF : Few S 1000) (d : Int) (s : ByteArray) (d2 : Int) (s2 : ByteArray) :
    Calls Try.prog 34 #[.pointer (some ⟨bw, 0, none⟩), .int .i64 d, .string s, .int .i64 d2, .string s2] W fun e w' => e = .returned (.bool (Idl.same S d s d2 s2)) ∧ Below W.heap.size W w' := by
  obtain ⟨o1, s1, l1, o2, s2', l2, r1, r2, _⟩ := h.both
  exact Same_any r1 hF d s d2 s2
theorem Two.list {B : Nat} {W : World} {bw bv : Nat} {S T : St} (h : Two B W bw bv S T) (hF : Few S 1000) (d : Int) :
    Calls Try.prog 30 #[.pointer (some ⟨bw, 0, none⟩), .int .i64 d] W fun e w' => ∃ v, e = .returned v ∧ w'.ownsRow W.heap.size 9 1 v (names S d).length (strs (names S d)) ∧ Below W.heap.size W w' := by
  obtain ⟨o1, s1, l1, o2, s2, l2, r1, r2, _⟩ := h.both
  exact List_any r1 hF d
/-- all that a law carries along: two worlds, a box with a step, what lay there ahead -/
structure Lw (w : World) (bw bv : Nat) (x : Stp) (S T : St) (W : World) : Prop where
  two : Two (w.heap.size + 1) W bw bv S T
  bel : Below w.heap.size w W
  box : ∀ j u, (stpA x)[j]? = some u → W.cell? ⟨w.heap.size, j, none⟩ = some u
  free : ∀ j, W.frozen? ⟨w.heap.size, j, none⟩ = false
  size : w.heap.size + 1 ≤ W.heap.size
section
variable {w W : World} {bw bv : Nat} {x : Stp} {S T : St}
theorem Lw.flip (h : Lw w bw bv x S T W) : Lw w bv bw x T S W := ⟨h.two.flip, h.bel, h.box, h.free, h.size⟩
theorem Lw.go {W' : World} {bw' bv' : Nat} {S' T' : St} (h : Lw w bw bv x S T W) (ht : Two (w.heap.size + 1) W' bw' bv' S' T') (hb : Below (w.heap.size + 1) W W') : Lw w bw' bv' x S' T' W' :=
  ⟨ht, h.bel.trans (hb.mono (Nat.le_succ _)), fun j u hu => by rw [hb.cell (p := ⟨w.heap.size, j, none⟩) (Nat.lt_succ_self _)]; exact h.box j u hu,
    fun j => by rw [hb.frozen (p := ⟨w.heap.size, j, none⟩) (Nat.lt_succ_self _)]; exact h.free j, Nat.le_trans h.size hb.size⟩
theorem Lw.grow {W' : World} (h : Lw w bw bv x S T W) (hb : Below W.heap.size W W') : Lw w bw bv x S T W' :=
  h.go (h.two.keep hb.size (fun k _ hk => hb.block k hk)) (hb.mono h.size)
theorem Lw.step (h : Lw w bw bv x S T W) (hF : Few S 999) (y : Stp) (hy : y.ok) :
    Calls Try.prog 27 #[.pointer (some ⟨bw, 0, none⟩), .agg (stpA y)] W fun e w' => e = .returned (.int .i64 (code S y)) ∧ Lw w bw bv x (Idl.step S y) T w' := by
  refine (h.two.step h.size hF y hy).mono ?_
  rintro e w' ⟨rfl, t, b⟩
  exact ⟨rfl, h.go t b⟩
theorem Lw.step2 (h : Lw w bw bv x S T W) (hF : Few T 999) (y : Stp) (hy : y.ok) :
    Calls Try.prog 27 #[.pointer (some ⟨bv, 0, none⟩), .agg (stpA y)] W fun e w' => e = .returned (.int .i64 (code T y)) ∧ Lw w bw bv x S (Idl.step T y) w' := by
  refine (h.flip.step hF y hy).mono ?_
  rintro e w' ⟨rfl, l⟩
  exact ⟨rfl, l.flip⟩
theorem Lw.put (h : Lw w bw bv x S T W) (k : Int) : Lw w bw bv { x with kind := k } S T (W.setCell ⟨w.heap.size, 0, none⟩ (.int .i64 k)) := by
  have hc0 := h.box 0 _ rfl
  have hoth : ∀ k', k' ≠ w.heap.size → (W.setCell ⟨w.heap.size, 0, none⟩ (.int .i64 k)).heap[k']? = W.heap[k']? := fun k' hk => Below.heap_setCell _ _ _ _ hk
  have hsz : (W.setCell ⟨w.heap.size, 0, none⟩ (.int .i64 k)).heap.size = W.heap.size := by simp [World.setCell]
  refine ⟨h.two.keep (by rw [hsz]; exact Nat.le_refl _) (fun k' hk _ => hoth k' (by omega)), h.bel.trans ⟨rfl, rfl, rfl, by rw [hsz]; exact Nat.le_refl _, fun k' hk => hoth k' (by omega)⟩, fun j u hu => ?_, fun j => ?_, by rw [hsz]; exact h.size⟩
  · by_cases hj : j = 0
    · subst hj
      have hu' : some (Value.int .i64 k) = some u := hu
      rw [← hu']
      exact World.cell?_setCell_same _ _ _ hc0
    · rw [World.cell?_setCell_other _ _ _ _ (fun e => hj (by injection e with _ e2; exact e2.symm))]
      refine h.box j u ?_
      rw [← hu]
      match j, hj with
      | 1, _ => rfl
      | 2, _ => rfl
      | 3, _ => rfl
      | 4, _ => rfl
      | 5, _ => rfl
      | 6, _ => rfl
      | j + 7, _ => rfl
  · rw [World.frozen?_setCell]; exact h.free j
def nw : Obj := .cells #[.slice none 0 0, .slice none 0 0, .slice none 0 0] 89
theorem Lw.start (hb : Below (w.alloc (.cells (stpA x) 49)).heap.size (w.alloc (.cells (stpA x) 49)) W) : Lw w W.heap.size (W.alloc nw).heap.size x St.empty St.empty ((W.alloc nw).alloc nw) := by
  have hs := hb.size
  simp only [World.alloc, Array.size_push] at hs
  have e1 : (W.alloc nw).heap.size = W.heap.size + 1 := by simp
  have e2 : ((W.alloc nw).alloc nw).heap.size = W.heap.size + 1 + 1 := by simp
  have hB : Below (w.heap.size + 1) W ((W.alloc nw).alloc nw) := ((Below.refl _ W).alloc hs _).alloc (by omega) _
  have hb' : Below (w.heap.size + 1) (w.alloc (.cells (stpA x) 49)) W := by simpa using hb
  have hT : Below (w.heap.size + 1) (w.alloc (.cells (stpA x) 49)) ((W.alloc nw).alloc nw) := hb'.trans hB
  refine ⟨⟨_, _, _, _, _, _, (Rep.new W).below ((Below.refl _ _).alloc (Nat.le_refl _) _), Rep.new (W.alloc nw), fun k h1 h2 => ?_, fun k h1 => ?_, fun k h1 => ?_⟩, ?_, fun j u hu => ?_, fun j => ?_, by omega⟩
  · rw [e1] at h2; omega
  · omega
  · rw [e1] at h1; omega
  · exact ((Below.refl _ w).alloc (Nat.le_refl _) _).trans (hT.mono (Nat.le_succ _))
  · rw [hT.cell (p := ⟨w.heap.size, j, none⟩) (Nat.lt_succ_self _), World.cell?_alloc_at _ _ _ _ rfl]; exact hu
  · rw [hT.frozen (p := ⟨w.heap.size, j, none⟩) (Nat.lt_succ_self _)]
    exact World.frozen?_alloc_at _ _ _ _ rfl
end
end Idl
end Go.Proofs.Ytmhbphmdfnlmkaa
