/-
  The walk of ideal.World.Do: steps that link.
-/
import Derived.Test.YtmhbphmdfnlmkaaVi
import Derived.Test.YtmhbphmdfnlmkaaVk
namespace Go.Proofs.Ytmhbphmdfnlmkaa
open Go.RowKit
namespace Idl
section
variable {own : Nat → Prop} {sv : Nat → Value} {loc : Nat → Nat} {w : World} {b : Nat} {S : St}
set_option maxHeartbeats 20000000 in
set_option maxRecDepth 100000 in
theorem Do_link (h : Rep own sv loc w b S) (hF : Few S 1000) (d : Nat) (hd : d < 3) (p : Int) (name to text : ByteArray) (hn : name.size ≤ maxLen) (ht : to.size ≤ maxLen) (hx : text.size ≤ maxLen) (td : Nat) (he : td < 3) (n : Nat) (hl : look (S.dir d) name = some n) (hnx : n < S.next) (hl2 : look (S.dir td) to = none) (hs2 : Img.isNmB to.toList = true)
    (hc : code S ⟨2, d, td, p, name, to, text⟩ = 0) :
    Calls Try.prog 27 #[.pointer (some ⟨b, 0, none⟩), .agg #[.int .i64 2, .int .i64 d, .int .i64 td, .int .i64 p, .string name, .string to, .string text]] w fun e w' => e = .returned (.int .i64 0) ∧ Held own w w' b (S.add td to n) := by
  have bel0 : Below w.heap.size w (w.alloc (.cells (stpA ⟨2, d, td, p, name, to, text⟩) 49)) := (Below.refl _ w).alloc (Nat.le_refl _) _
  have hck := check_any (h.below bel0) hF ⟨2, d, td, p, name, to, text⟩ hn ht hx
  rw [hc] at hck
  have HC := hide fun W bW => stp_kept w ⟨2, d, td, p, name, to, text⟩ W bW
  have HR := hide h
  have BEL := hide bel0
  clear hc h bel0
  go_enter Try.func27, Try.ntmps27
  go_wp2_with fail
  refine hck.mono ?_
  rintro e w1 ⟨rfl, bel⟩
  have c0 : w1.cell? ⟨w.heap.size, 0, none⟩ = some (.int .i64 2) := unhide HC w1 bel 0 _ rfl
  have c1 : w1.cell? ⟨w.heap.size, 1, none⟩ = some (.int .i64 d) := unhide HC w1 bel 1 _ rfl
  have c2 : w1.cell? ⟨w.heap.size, 2, none⟩ = some (.int .i64 td) := unhide HC w1 bel 2 _ rfl
  have c4 : w1.cell? ⟨w.heap.size, 4, none⟩ = some (.string name) := unhide HC w1 bel 4 _ rfl
  have c5 : w1.cell? ⟨w.heap.size, 5, none⟩ = some (.string to) := unhide HC w1 bel 5 _ rfl
  have B1 : Below w.heap.size w w1 := (unhide BEL).trans (bel.mono (by simp))
  have h1 := (unhide HR).below B1
  have BEL1 := hide B1
  clear bel B1 hck
  have HFl := hide fun W (bW : Below w1.heap.size w1 W) => file_any (h1.below bW) hF d name
  rw [show lookS S d name = some n from by rw [lookS_in (by simp [isD]; omega)]; exact hl] at HFl
  simp only [fptr] at HFl
  have hw1 : w.heap.size < w1.heap.size := World.block_lt_of_cell? w1 ⟨w.heap.size, 0, none⟩ c0
  have bel1 : Below w1.heap.size w1 w1 := Below.refl _ _
  have HAd := hide fun W (bW : Below w1.heap.size w1 W) => add_any (h1.below bW) hF td he to n hl2 hs2 hnx
  clear hl hl2 hs2 hF h1
  go_wp2_with fail
  go_region_with (first
    | (go_at_call 64; refine (unhide HFl _ ?_).mono ?_; exact bel1.drew; rintro e0 w2 ⟨rfl, bel2⟩; have B2 : Below w1.heap.size w1 w2 := bel1.drew.trans bel2; have d2 : w2.cell? ⟨w.heap.size, 2, none⟩ = some (.int .i64 td) := (B2.cell (p := ⟨w.heap.size, 2, none⟩) hw1).trans c2; have d5 : w2.cell? ⟨w.heap.size, 5, none⟩ = some (.string to) := (B2.cell (p := ⟨w.heap.size, 5, none⟩) hw1).trans c5)
    | (go_at_call 63; refine (unhide HAd _ B2).mono ?_; rintro e0 w3 ⟨rfl, H⟩))
  all_goals
    have HH := hide H
    have HB := hide B2
    clear H B2 bel2
    go_wp2
    go_ret
    exact ⟨rfl, Held.of ((unhide BEL1).trans ((unhide HB).mono (unhide BEL1).size)) (fun k hk => .inl hk) (unhide HH)⟩
end
end Idl
end Go.Proofs.Ytmhbphmdfnlmkaa
