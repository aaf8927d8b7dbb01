/-
  For every slice of steps l, every number p and every text: the call eiderdownlaw.IdealLinks(l, p, text) returns true, and leaves its arguments as they were.
  Conditions: none beyond the form's own ('values that can be read as data').
-/
import Derived.Test.YtcpfnnllopbgaaaXl
import Derived.Test.YtcpfnnllopbgaaaXm
import Derived.Test.YtcpfnnllopbgaaaOq
namespace Go.Proofs.Ytcpfnnllopbgaaa
open Go.ChangeShapes Go.WideShapes Go.ChangeAt Go.RowKit
open Go.ChangeMaps (open_string shut_string)
namespace Idl
theorem idealLinks_any {w : World} {v : Value} {L : List Stp} (hs : Steps w v L) (p : Int) (text : ByteArray) (htx : text.size ≤ 140737488355328) :
    Calls Try.prog 9 #[v, .int .i64 p, .string text] w fun e w' => e = .returned (.bool true) ∧ Below w.heap.size w w' := by
  rcases hs.form with ⟨_, a, c, rfl⟩ | ⟨g, o, c, rfl, _, _⟩
  · exact idealLinks_nil hs p text htx
  · exact idealLinks_some hs p text htx
set_option maxRecDepth 100000 in
theorem idealLinks_lifted (os : Os) (started : os.Started) (H : Type) (enc : TypeId × Value → H) :
    ReturnsInHanded {} Try.checked os 9 .any (Rows.idealLinksSpec.pre6 enc Try.prog Try.f9 Rows.idealLinksRow.domain false) (Rows.idealLinksSpec.post enc Try.prog Try.f9 false true false false) := by
  refine returnsInHanded_of_change_sized (C := Try.checked) TryI.own started (by kernel_rfl) Try.func9
    (ChangeSpec.witness6 (enc := enc) (C := Try.checked) false ⟨#[], #[.slice none 0 0, .int .i64 0, .string ⟨#[]⟩], []⟩ 8 (by kernel_rfl) (by kernel_rfl) (by kernel_rfl) (by kernel_rfl)) ?_
  intro W base args ds gs before hval0 hW _ hsz0 _
  have hsz : (DataW.weightsEach Try.prog (Try.f9.params.toList ++ Rows.idealLinksSpec.plain.varTypes Try.prog) (ds ++ gs)).all (· ≤ reachBytes) = true := hsz0
  clear hsz0
  have hval : ∀ (j : Nat) t v, Try.f9.params[j]? = some t → args[j]? = some v → Value.okWide Try.prog W .any base t v := hval0
  have hW' := hW
  obtain ⟨p, q, hA0, hV, rfl, _, _⟩ := hW
  have hA : DataW.TrodAll enc Try.prog W 0 (fun _ => true) true Try.f9.params.toList args.toList ds p := hA0
  rw [Try.params9] at hA hval hsz
  obtain ⟨v0, v1, v2, d0, d1, d2, p0, p1, p2, rfl, rfl, rfl, h0, h1, h2⟩ := trodAll_three hA
  obtain ⟨rfl, rfl⟩ := trodVars_none hV
  obtain ⟨a0, len, cap, rfl⟩ := okWide_slice Try.underlying47 (hval 0 47 v0 rfl rfl)
  have lt0 : ∀ y ∈ p0, y.block < W.heap.size := by obtain ⟨n, hn⟩ := h0; exact DataW.trod_lt n _ _ _ hn
  obtain ⟨k, rfl, rfl, rfl, wk⟩ := open_int Try.underlying3 (hval 1 3 v1 rfl rfl) h1
  obtain ⟨s, rfl, rfl, rfl, ws⟩ := open_string Try.underlying9 (hval 2 9 v2 rfl rfl) h2
  clear hA0 hval0
  have w0 : ∀ n ∈ d0.weights Try.prog 47, n ≤ reachBytes := fun n hn => by
    simpa using List.all_eq_true.1 hsz _ (DataW.weights_mem_each (j := 0) (t := 47) (d := d0) rfl rfl n hn)
  have w2 : s.size ≤ 140737488355328 := by
    have h3 := sized_string hsz (j := 2) (t := 9) (bytes := s.data.toList) rfl rfl
    have hb := reachBytes_lt
    have : s.size = s.data.toList.length := by rw [Array.length_toList]; rfl
    rw [this]; omega
  obtain ⟨L, hL⟩ := open_steps h0 w0
  refine (idealLinks_any hL k s w2).mono fun e W' ⟨he, bel⟩ => ?_
  subst he
  exact ⟨_, rfl, _, _, _, [], _, [], hW', trodAll_mk1 (shut_bool Try.underlying4 _), (trodAll_cons_mk (Below.trod TryI.laidOut (by kernel_rfl) (of_decide_eq_true (by kernel_rfl)) h0 bel lt0) (trodAll_cons_mk (shut_int Try.underlying3 wk) (trodAll_cons_mk (shut_string Try.underlying9 ws) trodAll_mk0))), rfl, bel.frame _, fun h => by cases h⟩
end Idl
theorem idealLinks_holds : Rows.IdealLinksSaid :=
  OpenClaim.holds_of_wide 9 Try.f9 rfl rfl rfl rfl rfl rfl rfl ⟨rfl, rfl, rfl, rfl, rfl⟩ rfl rfl rfl rfl rfl (by kernel_rfl) Try.func9 (by kernel_rfl)
    (of_decide_eq_true (by kernel_rfl)) (by unfold Func.isWrapper; first | (rw [if_pos (by decide +kernel)]; kernel_rfl) | (rw [if_neg (by decide +kernel)]; exact ⟨rfl, rfl⟩))
    (fun os started H enc _ => Idl.idealLinks_lifted os started H enc)
#print axioms idealLinks_holds
end Go.Proofs.Ytcpfnnllopbgaaa
