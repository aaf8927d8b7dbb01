/-
  For every slice of steps l and every step x: the call eiderdownlaw.IdealDoes(l, x) returns true, and leaves its arguments as they were.
  Conditions: none beyond the form's own ('values that can be read as data').
-/
import Derived.Test.YtmhbphmdfnlmkaaJu
import Derived.Test.YtmhbphmdfnlmkaaOq
namespace Go.Proofs.Ytmhbphmdfnlmkaa
open Go.ChangeShapes Go.WideShapes Go.ChangeAt Go.RowKit
namespace Idl
set_option maxRecDepth 100000 in
theorem idealDoes_lifted (os : Os) (started : os.Started) (H : Type) (enc : TypeId × Value → H) :
    ReturnsInHanded {} Try.checked os 6 .any (Rows.idealDoesSpec.pre6 enc Try.prog Try.f6 Rows.idealDoesRow.domain false) (Rows.idealDoesSpec.post enc Try.prog Try.f6 false true false false) := by
  refine returnsInHanded_of_change_sized (C := Try.checked) TryI.own started (by kernel_rfl) Try.func6
    (ChangeSpec.witness6 (enc := enc) (C := Try.checked) false ⟨#[], #[.slice none 0 0, .agg #[.int .i64 0, .int .i64 0, .int .i64 0, .int .i64 0, .string ⟨#[]⟩, .string ⟨#[]⟩, .string ⟨#[]⟩]], []⟩ 8 (by kernel_rfl) (by kernel_rfl) (by kernel_rfl) (by kernel_rfl)) ?_
  intro W base args ds gs before hval0 hW _ hsz0 _
  have hsz : (DataW.weightsEach Try.prog (Try.f6.params.toList ++ Rows.idealDoesSpec.plain.varTypes Try.prog) (ds ++ gs)).all (· ≤ reachBytes) = true := hsz0
  clear hsz0
  have hval : ∀ (j : Nat) t v, Try.f6.params[j]? = some t → args[j]? = some v → Value.okWide Try.prog W .any base t v := hval0
  have hW' := hW
  obtain ⟨p, q, hA0, hV, rfl, _, _⟩ := hW
  have hA : DataW.TrodAll enc Try.prog W 0 (fun _ => true) true Try.f6.params.toList args.toList ds p := hA0
  rw [Try.params6] at hA hval hsz
  obtain ⟨v0, v1, d0, d1, p0, p1, rfl, rfl, rfl, h0, h1⟩ := trodAll_two hA
  obtain ⟨rfl, rfl⟩ := trodVars_none hV
  obtain ⟨a0, len, cap, rfl⟩ := okWide_slice Try.underlying47 (hval 0 47 v0 rfl rfl)
  have lt0 : ∀ y ∈ p0, y.block < W.heap.size := by obtain ⟨n, hn⟩ := h0; exact DataW.trod_lt n _ _ _ hn
  have lt1 : ∀ y ∈ p1, y.block < W.heap.size := by obtain ⟨n, hn⟩ := h1; exact DataW.trod_lt n _ _ _ hn
  clear hA0 hval0
  have w0 : ∀ n ∈ d0.weights Try.prog 47, n ≤ reachBytes := fun n hn => by
    simpa using List.all_eq_true.1 hsz _ (DataW.weights_mem_each (j := 0) (t := 47) (d := d0) rfl rfl n hn)
  have w1 : ∀ n ∈ d1.weights Try.prog 49, n ≤ reachBytes := fun n hn => by
    simpa using List.all_eq_true.1 hsz _ (DataW.weights_mem_each (j := 1) (t := 49) (d := d1) rfl rfl n hn)
  obtain ⟨L, hL⟩ := open_steps h0 w0
  obtain ⟨x, ex, hx⟩ : ∃ x : Stp, v1 = .agg (stpA x) ∧ x.ok := by
    obtain ⟨n, hn⟩ := h1
    obtain ⟨x, e1, e2⟩ := open_step hn
    have e2' : d1 = stepD x := e2
    rw [e2'] at w1
    refine ⟨x, ?_, step_sized w1⟩
    cases v1 with
    | agg cs =>
      have : cs.toList = (stpA x).toList := e1
      rw [Array.toList_inj.1 this]
    | _ =>
      have := congrArg List.length e1
      simp [Value.cells] at this
  subst ex
  refine (idealDoes_any hL x hx).mono fun e W' ⟨he, bel⟩ => ?_
  subst he
  exact ⟨_, rfl, _, _, _, [], _, [], hW', trodAll_mk1 (shut_bool Try.underlying4 _), (trodAll_cons_mk (Below.trod TryI.laidOut (by kernel_rfl) (of_decide_eq_true (by kernel_rfl)) h0 bel lt0) (trodAll_cons_mk (Below.trod TryI.laidOut (by kernel_rfl) (of_decide_eq_true (by kernel_rfl)) h1 bel lt1) trodAll_mk0)), rfl, bel.frame _, fun h => by cases h⟩
end Idl
theorem idealDoes_holds : Rows.IdealDoesSaid :=
  OpenClaim.holds_of_wide 6 Try.f6 rfl rfl rfl rfl rfl rfl rfl ⟨rfl, rfl, rfl, rfl, rfl⟩ rfl rfl rfl rfl rfl (by kernel_rfl) Try.func6 (by kernel_rfl)
    (of_decide_eq_true (by kernel_rfl)) (by unfold Func.isWrapper; first | (rw [if_pos (by decide +kernel)]; kernel_rfl) | (rw [if_neg (by decide +kernel)]; exact ⟨rfl, rfl⟩))
    (fun os started H enc _ => Idl.idealDoes_lifted os started H enc)
#print axioms idealDoes_holds
end Go.Proofs.Ytmhbphmdfnlmkaa
