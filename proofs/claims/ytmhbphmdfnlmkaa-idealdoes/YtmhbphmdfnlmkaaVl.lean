/-
  The walk of ideal.World.Do: steps that put.
-/
import Derived.Test.YtmhbphmdfnlmkaaVi
import Derived.Test.YtmhbphmdfnlmkaaVk
namespace Go.Proofs.Ytmhbphmdfnlmkaa
open Go.RowKit
namespace Idl
section
variable {own : Nat → Prop} {sv : Nat → Value} {loc : Nat → Nat} {w : World} {b : Nat} {S : St}
set_option maxHeartbeats 20000000 in
set_option maxRecDepth 100000 in
theorem Do_put (h : Rep own sv loc w b S) (hF : Few S 1000) (d : Nat) (hd : d < 3) (toDir : Int) (p : Nat) (name to text : ByteArray) (hn : name.size ≤ maxLen) (ht : to.size ≤ maxLen) (hx : text.size ≤ maxLen) (n : Nat) (hl : look (S.dir d) name = some n) (hnx : n < S.next) (hp : p < 2)
    (hc : code S ⟨5, d, toDir, p, name, to, text⟩ = 0) :
    Calls Try.prog 27 #[.pointer (some ⟨b, 0, none⟩), .agg #[.int .i64 5, .int .i64 d, .int .i64 toDir, .int .i64 p, .string name, .string to, .string text]] w fun e w' => e = .returned (.int .i64 0) ∧ Held own w w' b (S.put n p true text) := by
  have bel0 : Below w.heap.size w (w.alloc (.cells (stpA ⟨5, d, toDir, p, name, to, text⟩) 49)) := (Below.refl _ w).alloc (Nat.le_refl _) _
  have hck := check_any (h.below bel0) hF ⟨5, d, toDir, p, name, to, text⟩ hn ht hx
  rw [hc] at hck
  have HC := hide fun W bW => stp_kept w ⟨5, d, toDir, p, name, to, text⟩ W bW
  have HR := hide h
  have BEL := hide bel0
  clear hc h bel0
  go_enter Try.func27, Try.ntmps27
  go_wp2_with fail
  refine hck.mono ?_
  rintro e w1 ⟨rfl, bel⟩
  have c0 : w1.cell? ⟨w.heap.size, 0, none⟩ = some (.int .i64 5) := unhide HC w1 bel 0 _ rfl
  have c1 : w1.cell? ⟨w.heap.size, 1, none⟩ = some (.int .i64 d) := unhide HC w1 bel 1 _ rfl
  have c3 : w1.cell? ⟨w.heap.size, 3, none⟩ = some (.int .i64 p) := unhide HC w1 bel 3 _ rfl
  have c4 : w1.cell? ⟨w.heap.size, 4, none⟩ = some (.string name) := unhide HC w1 bel 4 _ rfl
  have c6 : w1.cell? ⟨w.heap.size, 6, none⟩ = some (.string text) := unhide HC w1 bel 6 _ rfl
  have B1 : Below w.heap.size w w1 := (unhide BEL).trans (bel.mono (by simp))
  have h1 := (unhide HR).below B1
  have BEL1 := hide B1
  clear bel B1 hck
  have HFl := hide fun W (bW : Below w1.heap.size w1 W) => file_any (h1.below bW) hF d name
  rw [show lookS S d name = some n from by rw [lookS_in (by simp [isD]; omega)]; exact hl] at HFl
  simp only [fptr] at HFl
  have hw1 : w.heap.size < w1.heap.size := World.block_lt_of_cell? w1 ⟨w.heap.size, 0, none⟩ c0
  have bel1 : Below w1.heap.size w1 w1 := Below.refl _ _
  have HPc := hide fun W (bW : Below w1.heap.size w1 W) => (h1.below bW).partCell n p hnx hp
  have HPf := hide fun W (bW : Below w1.heap.size w1 W) => (by simp [World.frozen?, (h1.below bW).fil n hnx] : ∀ o, W.frozen? ⟨loc n, o, none⟩ = false)
  have HPp := hide fun W (bW : Below w1.heap.size w1 W) => (h1.below bW).put n p hnx hp true text
  have hpz : (p : Int) < 2 := by omega
  clear hl hF h1
  go_wp2_with fail
  go_region_with ((go_at_call 64; refine (unhide HFl _ ?_).mono ?_; exact bel1.drew; rintro e0 w2 ⟨rfl, bel2⟩; have B2 : Below w1.heap.size w1 w2 := bel1.drew.trans bel2; have f1 := (unhide HPc w2 B2).1; have f2 := (unhide HPc w2 B2).2.1; have f3 := unhide HPf w2 B2 (p * 2); have f4 := unhide HPf w2 B2 (p * 2 + 1); have d3 : w2.cell? ⟨w.heap.size, 3, none⟩ = some (.int .i64 p) := (B2.cell (p := ⟨w.heap.size, 3, none⟩) hw1).trans c3; have d6 : w2.cell? ⟨w.heap.size, 6, none⟩ = some (.string text) := (B2.cell (p := ⟨w.heap.size, 6, none⟩) hw1).trans c6))
  all_goals
    have HB := hide B2
    clear B2 bel2
    go_wp2
    go_ret
    exact ⟨rfl, own, sv, loc, (unhide HPp w2 (unhide HB)).1, (Chg.of_below ((unhide BEL1).trans ((unhide HB).mono (unhide BEL1).size))).trans (unhide HPp w2 (unhide HB)).2 (fun k hk => .inl hk), fun k hk => .inl hk⟩
end
end Idl
end Go.Proofs.Ytmhbphmdfnlmkaa
