/-
  The walks of ideal.World.Do: a step with a code; steps that make and unlink.
-/
import Derived.Test.YtmhbphmdfnlmkaaVh
namespace Go.Proofs.Ytmhbphmdfnlmkaa
open Go.RowKit
namespace Idl
section
variable {own : Nat → Prop} {sv : Nat → Value} {loc : Nat → Nat} {w : World} {b : Nat} {S : St}
set_option maxHeartbeats 1000000 in
set_option maxRecDepth 100000 in
theorem Do_code (h : Rep own sv loc w b S) (hF : Few S 1000) (x : Stp) (hn : x.name.size ≤ maxLen) (ht : x.to.size ≤ maxLen) (hx : x.text.size ≤ maxLen) (hc : code S x ≠ 0) :
    Calls Try.prog 27 #[.pointer (some ⟨b, 0, none⟩), .agg (stpA x)] w fun e w' => e = .returned (.int .i64 (code S x)) ∧ Held own w w' b S := by
  have bel0 : Below w.heap.size w (w.alloc (.cells (stpA x) 49)) := (Below.refl _ w).alloc (Nat.le_refl _) _
  have hck := check_any (h.below bel0) hF x hn ht hx
  have hkb : (code S x != 0) = true := by simpa using hc
  have HE := hide fun W (bW : Below w.heap.size w W) => (⟨own, sv, loc, h.below bW, Chg.of_below bW, fun k hk => .inl hk⟩ : Held own w W b S)
  have BEL := hide bel0
  generalize code S x = c at hck hkb ⊢
  clear hc h hF bel0
  go_enter Try.func27, Try.ntmps27
  go_wp2_with fail
  refine hck.mono ?_
  rintro e w1 ⟨rfl, bel⟩
  have BEL1 := hide bel
  clear bel
  go_wp2
  go_ret
  exact ⟨rfl, unhide HE _ ((unhide BEL).trans ((unhide BEL1).mono (by simp)))⟩
set_option maxHeartbeats 1000000 in
set_option maxRecDepth 100000 in
theorem Do_make (h : Rep own sv loc w b S) (hF : Few S 1000) (d : Nat) (hd : d < 3) (toDir : Int) (p : Int) (name to text : ByteArray) (hn : name.size ≤ maxLen) (ht : to.size ≤ maxLen) (hx : text.size ≤ maxLen) (hl : look (S.dir d) name = none) (hs : Img.isNmB name.toList = true)
    (hc : code S ⟨1, d, toDir, p, name, to, text⟩ = 0) :
    Calls Try.prog 27 #[.pointer (some ⟨b, 0, none⟩), .agg #[.int .i64 1, .int .i64 d, .int .i64 toDir, .int .i64 p, .string name, .string to, .string text]] w fun e w' => e = .returned (.int .i64 0) ∧ Held own w w' b (S.fresh.add d name S.next) := by
  have bel0 : Below w.heap.size w (w.alloc (.cells (stpA ⟨1, d, toDir, p, name, to, text⟩) 49)) := (Below.refl _ w).alloc (Nat.le_refl _) _
  have hck := check_any (h.below bel0) hF ⟨1, d, toDir, p, name, to, text⟩ hn ht hx
  rw [hc] at hck
  have HC := hide fun W bW => stp_kept w ⟨1, d, toDir, p, name, to, text⟩ W bW
  have HR := hide h
  have BEL := hide bel0
  clear hc h bel0
  go_enter Try.func27, Try.ntmps27
  go_wp2_with fail
  refine hck.mono ?_
  rintro e w1 ⟨rfl, bel⟩
  have c0 : w1.cell? ⟨w.heap.size, 0, none⟩ = some (.int .i64 1) := unhide HC w1 bel 0 _ rfl
  have c1 : w1.cell? ⟨w.heap.size, 1, none⟩ = some (.int .i64 d) := unhide HC w1 bel 1 _ rfl
  have c4 : w1.cell? ⟨w.heap.size, 4, none⟩ = some (.string name) := unhide HC w1 bel 4 _ rfl
  have B1 : Below w.heap.size w w1 := (unhide BEL).trans (bel.mono (by simp))
  have h1 := (unhide HR).below B1
  have BEL1 := hide B1
  clear bel B1 hck
  have hA := add_any h1.fresh hF d hd name S.next hl hs (Nat.lt_succ_self _)
  rw [show locF loc S w1.heap.size S.next = w1.heap.size from by simp [locF]] at hA
  have B2 : Below w.heap.size w (w1.alloc (.cells #[.bool false, .string ⟨#[]⟩, .bool false, .string ⟨#[]⟩] 97)) := (unhide BEL1).alloc (unhide BEL1).size _
  have HO := hide (⟨B2, (unhide BEL1).size⟩ : Below w.heap.size w (w1.alloc (.cells #[.bool false, .string ⟨#[]⟩, .bool false, .string ⟨#[]⟩] 97)) ∧ w.heap.size ≤ w1.heap.size)
  clear B2 hl hs hF h1
  go_wp2_with fail
  refine hA.mono ?_
  rintro e w2 ⟨rfl, H⟩
  have HH := hide H
  clear H hA
  go_wp2
  go_ret
  exact ⟨rfl, Held.of (unhide HO).1 (fun k hk => by rcases hk with hk | hk; exact .inl hk; exact .inr (by have := (unhide HO).2; omega)) (unhide HH)⟩
set_option maxHeartbeats 1000000 in
set_option maxRecDepth 100000 in
theorem Do_unlink (h : Rep own sv loc w b S) (hF : Few S 1000) (d : Nat) (hd : d < 3) (toDir : Int) (p : Int) (name to text : ByteArray) (hn : name.size ≤ maxLen) (ht : to.size ≤ maxLen) (hx : text.size ≤ maxLen) (n : Nat) (hl : look (S.dir d) name = some n)
    (hc : code S ⟨3, d, toDir, p, name, to, text⟩ = 0) :
    Calls Try.prog 27 #[.pointer (some ⟨b, 0, none⟩), .agg #[.int .i64 3, .int .i64 d, .int .i64 toDir, .int .i64 p, .string name, .string to, .string text]] w fun e w' => e = .returned (.int .i64 0) ∧ Held own w w' b (S.drop d name) := by
  have bel0 : Below w.heap.size w (w.alloc (.cells (stpA ⟨3, d, toDir, p, name, to, text⟩) 49)) := (Below.refl _ w).alloc (Nat.le_refl _) _
  have hck := check_any (h.below bel0) hF ⟨3, d, toDir, p, name, to, text⟩ hn ht hx
  rw [hc] at hck
  have HC := hide fun W bW => stp_kept w ⟨3, d, toDir, p, name, to, text⟩ W bW
  have HR := hide h
  have BEL := hide bel0
  clear hc h bel0
  go_enter Try.func27, Try.ntmps27
  go_wp2_with fail
  refine hck.mono ?_
  rintro e w1 ⟨rfl, bel⟩
  have c0 : w1.cell? ⟨w.heap.size, 0, none⟩ = some (.int .i64 3) := unhide HC w1 bel 0 _ rfl
  have c1 : w1.cell? ⟨w.heap.size, 1, none⟩ = some (.int .i64 d) := unhide HC w1 bel 1 _ rfl
  have c4 : w1.cell? ⟨w.heap.size, 4, none⟩ = some (.string name) := unhide HC w1 bel 4 _ rfl
  have B1 : Below w.heap.size w w1 := (unhide BEL).trans (bel.mono (by simp))
  have h1 := (unhide HR).below B1
  have BEL1 := hide B1
  clear bel B1 hck
  have hA := drop_any h1 hF d hd name n hl
  clear hl hF h1
  go_wp2_with fail
  refine hA.mono ?_
  rintro e w2 ⟨rfl, H⟩
  have HH := hide H
  clear H hA
  go_wp2
  go_ret
  exact ⟨rfl, Held.of (unhide BEL1) (fun k hk => .inl hk) (unhide HH)⟩
end
end Idl
end Go.Proofs.Ytmhbphmdfnlmkaa
