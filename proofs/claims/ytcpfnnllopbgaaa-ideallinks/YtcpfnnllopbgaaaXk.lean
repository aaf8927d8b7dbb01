/-
  The walk of eiderdownlaw.IdealLinks.
-/
import Derived.Test.YtcpfnnllopbgaaaXb
import Derived.Test.YtcpfnnllopbgaaaIe
import Derived.Deep.DeepCutAuto
import Derived.Deep.Cut
import Derived.Deep.CutRange
namespace Go.Proofs.Ytcpfnnllopbgaaa
open Go.RowKit
namespace Idl
/-- a world behind w, in which all that lay in w lies as it was -/
structure Beyond (w : World) where
  W : World
  h : Below w.heap.size w W
theorem wp_region_beyond {P : Program} {id : Nat} {Q : Exit → Act → World → Prop} {a : Act} {w : World} {l : List Oper} (hm : P.follows .mixedOrders = true) (hB : Region.lexB .any l.toArray = true)
    (h : wpQuiet P l.toArray (fun w' => ∃ p : Beyond w, w' = p.W) (fun a' => ∀ w', (∃ p : Beyond w, w' = p.W) → Q .normal a' w') l a) : (Code.region id l.toArray true).wp P Q a w :=
  wp_region_quiet (C := fun w' => ∃ p : Beyond w, w' = p.W) hm hB ⟨⟨w.drew, (Below.refl _ _).drew⟩, rfl⟩ (by simpa using h)
theorem Beyond.call {P : Program} {f : FuncId} {args : Array Value} {w : World} {p : Beyond w} {v : Value} (h : Calls P f args p.W fun e w' => e = .returned v ∧ Below p.W.heap.size p.W w') :
    Calls P f args p.W fun e w'' => e = .returned v ∧ ∃ q : Beyond w, w'' = q.W :=
  h.mono fun _ w'' ⟨he, hb⟩ => ⟨he, ⟨w'', p.h.trans (hb.mono p.h.size)⟩, rfl⟩
theorem u64_wrapL (d : Int) : IntKind.u64.wrap d = d % 18446744073709551616 := by
  simp [IntKind.wrap, IntKind.bits, IntKind.signed]
theorem mod2 (d : Int) : ∃ k : Nat, k < 2 ∧ wrap64 ((IntKind.u64.wrap d).tmod 2) = k := by
  have h0 : 0 ≤ IntKind.u64.wrap d := by rw [u64_wrapL]; omega
  generalize IntKind.u64.wrap d = x at h0 ⊢
  rw [Int.tmod_eq_emod_of_nonneg h0]
  exact ⟨(x % 2).toNat, by omega, by unfold wrap64; omega⟩
/-- a listed name: it is one, and leads to a file -/
theorem listed {S : St} (h : Inv S) {d : Nat} (hd : d < 3) {i : Nat} (hi : i < (names S d).length) : Img.isNmB (names S d)[i].toList = true ∧ ∃ n, look (S.dir d) (names S d)[i] = some n := by
  obtain ⟨n, hm⟩ := names_mem hd hi
  exact ⟨h.good d _ hm, n, look_mem (h.rise d) hm⟩
theorem One.step_far {w W0 W : World} {b : Nat} {S : St} (h : One w b S W0) (bel : Below W0.heap.size W0 W) {g : Nat} (hg : W0.heap.size ≤ g) (hgl : g < W.heap.size) (hF : Few S 999) (x : Stp) (hx : x.ok) :
    Calls Try.prog 27 #[.pointer (some ⟨b, 0, none⟩), .agg (stpA x)] W fun e w' => e = .returned (.int .i64 (code S x)) ∧ One w b (Idl.step S x) w' ∧ w'.heap[g]? = W.heap[g]? := by
  obtain ⟨o, s, l, r, ho⟩ := h.it
  obtain ⟨x1, x2, x3⟩ := hx.big
  have hB := h.bel.trans (bel.mono h.bel.size)
  refine (Do_any (r.below bel) hF x x1 x2 x3).mono ?_
  rintro e w' ⟨rfl, o3, s3, l3, r3, c, ho3⟩
  have hs := hB.size
  refine ⟨rfl, ⟨⟨o3, s3, l3, r3, fun k hk => ?_⟩, hB.trans (c.below hs ho)⟩, c.block g hgl (fun hk => ?_)⟩
  · rcases ho3 k hk with h1 | h1
    · exact ho k h1
    · omega
  · have := r.size g hk
    omega
theorem nm_six {s : ByteArray} (h : Img.isNmB s.toList = true) : s.size ≤ 6 := by
  rw [isNmB_eq] at h
  simp only [Bool.and_eq_true, decide_eq_true_eq] at h
  omega
end Idl
end Go.Proofs.Ytcpfnnllopbgaaa
