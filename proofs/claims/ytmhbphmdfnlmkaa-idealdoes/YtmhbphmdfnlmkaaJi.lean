/-
  The walk of (*eiderdownref.Ideal).Do: a step with a code.
-/
import Derived.Test.YtmhbphmdfnlmkaaJh
namespace Go.Proofs.Ytmhbphmdfnlmkaa
open Go.RowKit
namespace Idl
section
variable {w : World} {b : Nat} {S : St} {l : List Tg} {vt vf : Value}
theorem code_chk {S : St} {x : Stp} (h : chk x ≠ 0) : code S x = chk x := by unfold code; rw [if_pos h]
theorem code_there {S : St} {x : Stp} {n : Nat} (h : chk x = 0) (hk : x.kind = 1) (hl : lookS S x.dir x.name = some n) : code S x = 4 := by
  unfold code; rw [if_neg (by omega), if_pos hk, hl]; rfl
theorem code_none {S : St} {x : Stp} (h : chk x = 0) (hk : x.kind ≠ 1) (hl : lookS S x.dir x.name = none) : code S x = 5 := by
  unfold code; rw [if_neg (by omega), if_neg hk, hl]; rfl
theorem code_to {S : St} {x : Stp} {n : Nat} (h : chk x = 0) (hk : x.kind ≠ 1) (hl : lookS S x.dir x.name = some n) (hc : code S x ≠ 0) : (x.kind = 2 ∨ x.kind = 4) ∧ ∃ m, lookS S x.toDir x.to = some m ∧ code S x = 4 := by
  unfold code at hc ⊢
  rw [if_neg (by omega), if_neg hk, hl] at hc ⊢
  rw [if_neg (by simp)] at hc ⊢
  by_cases e : (x.kind = 2 ∨ x.kind = 4) ∧ (lookS S x.toDir x.to).isSome
  · obtain ⟨m, hm⟩ := Option.isSome_iff_exists.1 e.2
    exact ⟨e.1, m, hm, by rw [if_pos e]⟩
  · rw [if_neg e] at hc; exact absurd rfl hc
theorem code_one {S : St} {x : Stp} (h : chk x = 0) (hk : x.kind = 1) (hc : code S x ≠ 0) : ∃ n, lookS S x.dir x.name = some n := by
  unfold code at hc
  rw [if_neg (by omega), if_pos hk] at hc
  cases e : lookS S x.dir x.name with
  | none => rw [e] at hc; exact absurd rfl hc
  | some n => exact ⟨n, rfl⟩
set_option maxHeartbeats 2000000 in
set_option maxRecDepth 100000 in
theorem rDo_code (h : IRep w b S l vt vf) (h1 : l.length ≤ 1000000) (h2 : S.next ≤ 1000000) (x : Stp) (hn : x.name.size ≤ maxLen) (ht : x.to.size ≤ maxLen) (hx : x.text.size ≤ maxLen) (hc : code S x ≠ 0) :
    Calls Try.prog 28 #[.pointer (some ⟨b, 0, none⟩), .agg (stpA x)] w fun e w' => e = .returned (.int .i64 (code S x)) ∧ Below w.heap.size w w' := by
  have bel0 : Below w.heap.size w (w.alloc (.cells (stpA x) 49)) := (Below.refl _ w).alloc (Nat.le_refl _) _
  have C1 := hide (stepFault_any x hn ht hx (w.alloc (.cells (stpA x) 49)))
  have BEL := hide bel0
  have HC := hide fun W bW => stp_kept w x W bW
  have HR := hide h
  have T := hide h.tags
  clear h bel0
  by_cases hk : chk x = 0
  · rw [hk] at C1
    by_cases h11 : x.kind = 1
    · obtain ⟨n, hl⟩ := code_one hk h11 hc
      have hcode := code_there hk h11 hl
      rw [hcode]
      rcases atI_lookS (unhide T) x.dir x.name with ⟨_, a2⟩ | ⟨i, _, _, a1, _⟩
      · rw [hl] at a2; cases a2
      · have HA := hide a1
        obtain ⟨kind, dir, toDir, p, name, to, text⟩ := x
        have hkk : kind = 1 := h11
        subst hkk
        clear hcode hc h11 hk hl a1
        go_enter Try.func28, Try.ntmps28
        go_wp2_with fail
        refine (unhide C1).mono ?_
        rintro e w1 ⟨rfl, bel⟩
        have c0 : w1.cell? ⟨w.heap.size, 0, none⟩ = some (.int .i64 1) := unhide HC w1 bel 0 _ rfl
        have c1 : w1.cell? ⟨w.heap.size, 1, none⟩ = some (.int .i64 dir) := unhide HC w1 bel 1 _ rfl
        have c4 : w1.cell? ⟨w.heap.size, 4, none⟩ = some (.string name) := unhide HC w1 bel 4 _ rfl
        have B1 : Below w.heap.size w w1 := (unhide BEL).trans (bel.mono (by simp))
        obtain ⟨ta, fa, tc, fc, _, _, R1⟩ := ((unhide HR).below B1).rd h1 h2
        have C2 := hide (rAt_any dir name w1 R1)
        rw [unhide HA] at C2
        have u1 : decide ((i : Int) ≥ 0) = true := by simp
        have u2 : decide (0 ≤ (i : Int)) = true := by simp
        clear R1 bel HA
        go_wp2_with fail
        refine (unhide C2).mono ?_
        rintro e w2 ⟨rfl, q, rfl⟩
        go_wp2_with fail
        go_ret
        exact ⟨rfl, belowN B1⟩
    · cases hl : lookS S x.dir x.name with
      | none =>
        have hcode := code_none hk h11 hl
        rw [hcode]
        rcases atI_lookS (unhide T) x.dir x.name with ⟨a1, _⟩ | ⟨i, _, _, _, a2⟩
        · have HA := hide a1
          obtain ⟨kind, dir, toDir, p, name, to, text⟩ := x
          have hkk : (kind == 1) = false := by simpa using h11
          clear hcode hc h11 hk hl a1
          go_enter Try.func28, Try.ntmps28
          go_wp2_with fail
          refine (unhide C1).mono ?_
          rintro e w1 ⟨rfl, bel⟩
          have c0 : w1.cell? ⟨w.heap.size, 0, none⟩ = some (.int .i64 kind) := unhide HC w1 bel 0 _ rfl
          have c1 : w1.cell? ⟨w.heap.size, 1, none⟩ = some (.int .i64 dir) := unhide HC w1 bel 1 _ rfl
          have c4 : w1.cell? ⟨w.heap.size, 4, none⟩ = some (.string name) := unhide HC w1 bel 4 _ rfl
          have B1 : Below w.heap.size w w1 := (unhide BEL).trans (bel.mono (by simp))
          obtain ⟨ta, fa, tc, fc, _, _, R1⟩ := ((unhide HR).below B1).rd h1 h2
          have C2 := hide (rAt_any dir name w1 R1)
          rw [unhide HA] at C2
          clear R1 bel HA
          go_wp2_with fail
          refine (unhide C2).mono ?_
          rintro e w2 ⟨rfl, q, rfl⟩
          go_wp2_with fail
          go_ret
          exact ⟨rfl, belowN B1⟩
        · rw [hl] at a2; cases a2
      | some n =>
        obtain ⟨h24, m, hm, hcode⟩ := code_to hk h11 hl hc
        rw [hcode]
        rcases atI_lookS (unhide T) x.dir x.name with ⟨_, a2⟩ | ⟨i, hi, _, a1, _⟩
        · rw [hl] at a2; cases a2
        · rcases atI_lookS (unhide T) x.toDir x.to with ⟨_, b2⟩ | ⟨j, _, _, b1, _⟩
          · rw [hm] at b2; cases b2
          · have HA := hide a1
            have HB := hide b1
            obtain ⟨kind, dir, toDir, p, name, to, text⟩ := x
            have hkk : (kind == 1) = false := by simpa using h11
            have hk24 : kind = 2 ∨ kind = 4 := h24
            clear hcode hc h11 hk hl a1 b1 hm h24 hkk
            rcases hk24 with rfl | rfl
            all_goals
              go_enter Try.func28, Try.ntmps28
              go_wp2_with fail
              refine (unhide C1).mono ?_
              rintro e w1 ⟨rfl, bel⟩
              have c0 := unhide HC w1 bel 0 _ rfl
              have c1 : w1.cell? ⟨w.heap.size, 1, none⟩ = some (.int .i64 dir) := unhide HC w1 bel 1 _ rfl
              have c2 : w1.cell? ⟨w.heap.size, 2, none⟩ = some (.int .i64 toDir) := unhide HC w1 bel 2 _ rfl
              have c4 : w1.cell? ⟨w.heap.size, 4, none⟩ = some (.string name) := unhide HC w1 bel 4 _ rfl
              have c5 : w1.cell? ⟨w.heap.size, 5, none⟩ = some (.string to) := unhide HC w1 bel 5 _ rfl
              have B1 : Below w.heap.size w w1 := (unhide BEL).trans (bel.mono (by simp))
              obtain ⟨ta, fa, tc, fc, _, _, R1⟩ := ((unhide HR).below B1).rd h1 h2
              have C2 := hide (rAt_any dir name w1 R1)
              have C3 := hide (fun q => rAt_any toDir to (w1.drewN q) (R1.draw q))
              rw [unhide HA] at C2
              rw [unhide HB] at C3
              have u1 : decide ((i : Int) < 0) = false := by simp
              have u3 : decide ((j : Int) ≥ 0) = true := by simp
              have u4 : decide (0 ≤ (j : Int)) = true := by simp
              have tv := R1.tv
              have blt := R1.lt
              obtain ⟨g, o, rfl, hg, _, _, t2⟩ := R1.tags i hi
              have iz : (i : Int) < (l.length : Int) := by omega
              generalize l.length = ln at tv iz h1
              generalize ((l[i].file : Nat) : Int) = fl at t2
              clear R1 bel HA HB
              go_wp2_with fail
              refine (unhide C2).mono ?_
              rintro e w2 ⟨rfl, q, rfl⟩
              go_wp2_with fail
              try (go_quiet (fail); go_wp2_with fail)
              refine (unhide C3 _).mono ?_
              rintro e w2 ⟨rfl, q2, rfl⟩
              go_wp2_with fail
              go_ret
              exact ⟨rfl, by first | exact belowN (belowN B1) | (rw [drewNN]; exact belowN B1) | exact belowN B1⟩
  · rw [code_chk hk]
    generalize chk x = ck at C1 hk
    have u1 : (ck != 0) = true := by simpa using hk
    clear hc HC
    obtain ⟨kind, dir, toDir, p, name, to, text⟩ := x
    go_enter Try.func28, Try.ntmps28
    go_wp2_with fail
    refine (unhide C1).mono ?_
    rintro e w1 ⟨rfl, bel⟩
    go_wp2_with fail
    go_ret
    exact ⟨rfl, (unhide BEL).trans (bel.mono (by simp))⟩
end
end Idl
end Go.Proofs.Ytmhbphmdfnlmkaa
