/-
  The walk of ideal.World.Do: steps that rename.
-/
import Derived.Test.YtmhbphmdfnlmkaaVi
namespace Go.Proofs.Ytmhbphmdfnlmkaa
open Go.RowKit
namespace Idl
section
variable {own : Nat → Prop} {sv : Nat → Value} {loc : Nat → Nat} {w : World} {b : Nat} {S : St}
theorem Few.mono {S : St} {a c : Nat} (h : Few S a) (hac : a ≤ c) : Few S c := fun d => Nat.le_trans (h d) hac
theorem Few.add {S : St} {a : Nat} (h : Few S a) (d : Nat) (s : ByteArray) (n : Nat) : Few (S.add d s n) (a + 1) := fun e => by
  show (if e = d then ins (S.dir d) s n else S.dir e).length ≤ _
  split
  · rw [ins_len]; have := h d; omega
  · have := h e; omega
theorem ren_mid {w1 W2 W3 : World} {td n : Nat} {to : ByteArray} (hF : Few S 999) (d : Nat) (hd : d < 3) (name : ByteArray) (m : Nat) (hl3 : look ((S.add td to n).dir d) name = some m) (B1 : Below w.heap.size w w1) (bW : Below w1.heap.size w1 W2)
    (hno : ¬ own w.heap.size) (hw1 : w.heap.size < w1.heap.size) {v1 v4 : Value} (c1 : w1.cell? ⟨w.heap.size, 1, none⟩ = some v1) (c4 : w1.cell? ⟨w.heap.size, 4, none⟩ = some v4)
    (H : ∃ own' svn, Rep own' svn loc W3 b (S.add td to n) ∧ Chg own W2 W3 ∧ ∀ k, own' k → own k ∨ W2.heap.size ≤ k) :
    W3.cell? ⟨w.heap.size, 1, none⟩ = some v1 ∧ W3.cell? ⟨w.heap.size, 4, none⟩ = some v4 ∧
    Calls Try.prog 65 #[.pointer (some ⟨b, 0, none⟩), .int .i64 d, .string name] W3 fun e w' => e = .returned (.tuple #[]) ∧ Held own w w' b ((S.add td to n).drop d name) := by
  obtain ⟨own', svn, r, c, ho⟩ := H
  have s1 := B1.size
  have s2 := bW.size
  have hblk : W3.heap[w.heap.size]? = w1.heap[w.heap.size]? := (c.block _ (by omega) hno).trans (bW.block _ hw1)
  refine ⟨(World.cell?_of_block (w := w1) (a := ⟨w.heap.size, 1, none⟩) hblk).trans c1, (World.cell?_of_block (w := w1) (a := ⟨w.heap.size, 4, none⟩) hblk).trans c4, ?_⟩
  refine (drop_any r ((hF.add td to n).mono (by omega)) d hd name m hl3).mono ?_
  rintro e w' ⟨rfl, own2, sv2, r2, c2, ho2⟩
  have s3 := c.size
  refine ⟨rfl, own2, sv2, loc, r2, ?_, fun k hk => ?_⟩
  · have c0 : Chg own w W2 := Chg.of_below (B1.trans (bW.mono s1))
    refine (c0.trans c (fun k hk => .inl hk)).trans c2 (fun k hk => ?_)
    rcases ho k hk with h1 | h1
    · exact .inl h1
    · exact .inr (by omega)
  · rcases ho2 k hk with h1 | h1
    · rcases ho k h1 with h2 | h2
      · exact .inl h2
      · exact .inr (by omega)
    · exact .inr (by omega)
set_option maxHeartbeats 20000000 in
set_option maxRecDepth 100000 in
theorem Do_rename (h : Rep own sv loc w b S) (hF : Few S 999) (d : Nat) (hd : d < 3) (p : Int) (name to text : ByteArray) (hn : name.size ≤ maxLen) (ht : to.size ≤ maxLen) (hx : text.size ≤ maxLen) (td : Nat) (he : td < 3) (n : Nat) (hl : look (S.dir d) name = some n) (hnx : n < S.next) (hl2 : look (S.dir td) to = none) (hs2 : Img.isNmB to.toList = true) (hl3 : look ((S.add td to n).dir d) name = some n)
    (hc : code S ⟨4, d, td, p, name, to, text⟩ = 0) :
    Calls Try.prog 27 #[.pointer (some ⟨b, 0, none⟩), .agg #[.int .i64 4, .int .i64 d, .int .i64 td, .int .i64 p, .string name, .string to, .string text]] w fun e w' => e = .returned (.int .i64 0) ∧ Held own w w' b ((S.add td to n).drop d name) := by
  have bel0 : Below w.heap.size w (w.alloc (.cells (stpA ⟨4, d, td, p, name, to, text⟩) 49)) := (Below.refl _ w).alloc (Nat.le_refl _) _
  have hck := check_any (h.below bel0) (hF.mono (by omega)) ⟨4, d, td, p, name, to, text⟩ hn ht hx
  rw [hc] at hck
  have HC := hide fun W bW => stp_kept w ⟨4, d, td, p, name, to, text⟩ W bW
  have HR := hide h
  have BEL := hide bel0
  clear hc h bel0
  go_enter Try.func27, Try.ntmps27
  go_wp2_with fail
  refine hck.mono ?_
  rintro e w1 ⟨rfl, bel⟩
  have c0 : w1.cell? ⟨w.heap.size, 0, none⟩ = some (.int .i64 4) := unhide HC w1 bel 0 _ rfl
  have c1 : w1.cell? ⟨w.heap.size, 1, none⟩ = some (.int .i64 d) := unhide HC w1 bel 1 _ rfl
  have c2 : w1.cell? ⟨w.heap.size, 2, none⟩ = some (.int .i64 td) := unhide HC w1 bel 2 _ rfl
  have c4 : w1.cell? ⟨w.heap.size, 4, none⟩ = some (.string name) := unhide HC w1 bel 4 _ rfl
  have c5 : w1.cell? ⟨w.heap.size, 5, none⟩ = some (.string to) := unhide HC w1 bel 5 _ rfl
  have B1 : Below w.heap.size w w1 := (unhide BEL).trans (bel.mono (by simp))
  have h1 := (unhide HR).below B1
  have BEL1 := hide B1
  clear bel B1 hck
  have HFl := hide fun W (bW : Below w1.heap.size w1 W) => file_any (h1.below bW) (hF.mono (by omega)) d name
  rw [show lookS S d name = some n from by rw [lookS_in (by simp [isD]; omega)]; exact hl] at HFl
  simp only [fptr] at HFl
  have hw1 : w.heap.size < w1.heap.size := World.block_lt_of_cell? w1 ⟨w.heap.size, 0, none⟩ c0
  have bel1 : Below w1.heap.size w1 w1 := Below.refl _ _
  have HAd := hide fun W (bW : Below w1.heap.size w1 W) => add_any (h1.below bW) (hF.mono (by omega)) td he to n hl2 hs2 hnx
  have HDr := hide fun (W2 W3 : World) (bW : Below w1.heap.size w1 W2) (H : ∃ own' svn, Rep own' svn loc W3 b (S.add td to n) ∧ Chg own W2 W3 ∧ ∀ k, own' k → own k ∨ W2.heap.size ≤ k) => ren_mid hF d hd name n hl3 (unhide BEL1) bW (fun hk => Nat.lt_irrefl _ ((unhide HR).size _ hk)) hw1 c1 c4 H
  clear hl hl2 hs2 hF h1 hl3
  go_wp2_with fail
  go_region_with (first
    | (go_at_call 64; refine (unhide HFl _ ?_).mono ?_; exact bel1.drew; rintro e0 w2 ⟨rfl, bel2⟩; have B2 : Below w1.heap.size w1 w2 := bel1.drew.trans bel2; have d2 : w2.cell? ⟨w.heap.size, 2, none⟩ = some (.int .i64 td) := (B2.cell (p := ⟨w.heap.size, 2, none⟩) hw1).trans c2; have d5 : w2.cell? ⟨w.heap.size, 5, none⟩ = some (.string to) := (B2.cell (p := ⟨w.heap.size, 5, none⟩) hw1).trans c5)
    | (go_at_call 63; refine (unhide HAd _ B2).mono ?_; rintro e0 w3 ⟨rfl, H⟩))
  all_goals
    obtain ⟨d1, d4, hD⟩ := unhide HDr w2 w3 B2 H
    clear H B2 bel2
    go_wp2_with fail
    refine hD.mono ?_
    rintro e0 w4 ⟨rfl, H4⟩
    have HH := hide H4
    clear H4 hD
    go_wp2
    go_ret
    exact ⟨rfl, unhide HH⟩
end
end Idl
end Go.Proofs.Ytmhbphmdfnlmkaa
