/-
  ideal.World.Do, whole.
-/
import Derived.Test.YtmhbphmdfnlmkaaVj
import Derived.Test.YtmhbphmdfnlmkaaVl
import Derived.Test.YtmhbphmdfnlmkaaVm
import Derived.Test.YtmhbphmdfnlmkaaVo
namespace Go.Proofs.Ytmhbphmdfnlmkaa
open Go.RowKit
namespace Idl
section
variable {own : Nat → Prop} {sv : Nat → Value} {loc : Nat → Nat} {w : World} {b : Nat} {S : St}
theorem Do_any (h : Rep own sv loc w b S) (hF : Few S 999) (x : Stp) (hn : x.name.size ≤ maxLen) (ht : x.to.size ≤ maxLen) (hx : x.text.size ≤ maxLen) :
    Calls Try.prog 27 #[.pointer (some ⟨b, 0, none⟩), .agg (stpA x)] w fun e w' => e = .returned (.int .i64 (code S x)) ∧ Held own w w' b (step S x) := by
  have hF' : Few S 1000 := hF.mono (by omega)
  by_cases hc : code S x = 0
  · have g := goes hc
    have lo : x.kind ≠ 1 → the S x < S.next := fun hk => old_lt h.inv (g.old hk)
    obtain ⟨d0, d3⟩ := isD_iff.1 g.din
    rcases step_cases hc with ⟨k, e⟩ | ⟨k, e⟩ | ⟨k, e⟩ | ⟨k, e⟩ | ⟨k, e⟩ | ⟨k, e⟩ <;> rw [e, hc]
    · have hl := g.mak k
      have hs := g.nm
      obtain ⟨kind, dir, toDir, p, name, to, text⟩ := x
      simp only at k d0 d3 hl hs
      subst k
      obtain ⟨d, rfl⟩ := Int.eq_ofNat_of_zero_le d0
      exact Do_make h hF' d (by omega) toDir p name to text hn ht hx hl hs hc
    · obtain ⟨t1, t2, t3⟩ := g.to (.inl k)
      have hl := g.old (by omega)
      have hnx := lo (by omega)
      obtain ⟨u0, u3⟩ := isD_iff.1 t1
      generalize the S x = n at hl hnx ⊢
      obtain ⟨kind, dir, toDir, p, name, to, text⟩ := x
      simp only at k d0 d3 hl t2 t3 u0 u3
      subst k
      obtain ⟨d, rfl⟩ := Int.eq_ofNat_of_zero_le d0
      obtain ⟨td, rfl⟩ := Int.eq_ofNat_of_zero_le u0
      exact Do_link h hF' d (by omega) p name to text hn ht hx td (by omega) n hl hnx t3 t2 hc
    · have hl := g.old (by omega)
      generalize the S x = n at hl
      obtain ⟨kind, dir, toDir, p, name, to, text⟩ := x
      simp only at k d0 d3 hl
      subst k
      obtain ⟨d, rfl⟩ := Int.eq_ofNat_of_zero_le d0
      exact Do_unlink h hF' d (by omega) toDir p name to text hn ht hx n hl hc
    · obtain ⟨t1, t2, t3⟩ := g.to (.inr k)
      have hl := g.old (by omega)
      have hnx := lo (by omega)
      have hl3 := ren_old h.inv g k
      obtain ⟨u0, u3⟩ := isD_iff.1 t1
      generalize the S x = n at hl hnx hl3 ⊢
      obtain ⟨kind, dir, toDir, p, name, to, text⟩ := x
      simp only at k d0 d3 hl t2 t3 u0 u3 hl3
      subst k
      obtain ⟨d, rfl⟩ := Int.eq_ofNat_of_zero_le d0
      obtain ⟨td, rfl⟩ := Int.eq_ofNat_of_zero_le u0
      exact Do_rename h hF d (by omega) p name to text hn ht hx td (by omega) n hl hnx t3 t2 hl3 hc
    · have hl := g.old (by omega)
      have hnx := lo (by omega)
      obtain ⟨p0, p2⟩ := g.part (.inl k)
      generalize the S x = n at hl hnx ⊢
      obtain ⟨kind, dir, toDir, p, name, to, text⟩ := x
      simp only at k d0 d3 hl p0 p2
      subst k
      obtain ⟨d, rfl⟩ := Int.eq_ofNat_of_zero_le d0
      obtain ⟨q, rfl⟩ := Int.eq_ofNat_of_zero_le p0
      exact Do_put h hF' d (by omega) toDir q name to text hn ht hx n hl hnx (by omega) hc
    · have hl := g.old (by omega)
      have hnx := lo (by omega)
      obtain ⟨p0, p2⟩ := g.part (.inr k)
      generalize the S x = n at hl hnx ⊢
      obtain ⟨kind, dir, toDir, p, name, to, text⟩ := x
      simp only at k d0 d3 hl p0 p2
      subst k
      obtain ⟨d, rfl⟩ := Int.eq_ofNat_of_zero_le d0
      obtain ⟨q, rfl⟩ := Int.eq_ofNat_of_zero_le p0
      exact Do_cut h hF' d (by omega) toDir q name to text hn ht hx n hl hnx (by omega) hc
  · have e : step S x = S := by simp [step, hc]
    rw [e]
    exact Do_code h hF' x hn ht hx hc
theorem Few.drop {S : St} {a : Nat} (h : Few S a) (d : Nat) (s : ByteArray) : Few (S.drop d s) a := fun e => by
  show (if e = d then del (S.dir d) s else S.dir e).length ≤ _
  split
  · have h1 := h d
    simp only [del, List.length_append, List.length_take, List.length_drop]; omega
  · exact h e
theorem Few.step {S : St} {a : Nat} (h : Few S a) (x : Stp) : Few (step S x) (a + 1) := by
  have h' : Few S (a + 1) := h.mono (Nat.le_succ _)
  by_cases hc : code S x = 0
  · rcases step_cases hc with ⟨k, e⟩ | ⟨k, e⟩ | ⟨k, e⟩ | ⟨k, e⟩ | ⟨k, e⟩ | ⟨k, e⟩ <;> rw [e]
    · exact Few.add (S := S.fresh) h _ _ _
    · exact h.add _ _ _
    · exact h'.drop _ _
    · exact (h.add _ _ _).drop _ _
    · exact h'
    · exact h'
  · have e : Idl.step S x = S := by simp [Idl.step, hc]
    rw [e]; exact h'
end
end Idl
end Go.Proofs.Ytmhbphmdfnlmkaa
