/-
  Steps in memory; the walks of eiderdownlaw.greatStep and greatSteps.
-/
import Derived.Test.YtlbgkpibaahglacGreatXap
namespace Go.Proofs.YtlbgkpibaahglacGreat
open Go.RowKit
namespace Idl
structure Stp.ok (x : Stp) : Prop where
  name : x.name.size ≤ 140737488355328
  tu : x.to.size ≤ 140737488355328
  text : x.text.size ≤ 140737488355328
theorem Stp.ok.big {x : Stp} (h : x.ok) : x.name.size ≤ maxLen ∧ x.to.size ≤ maxLen ∧ x.text.size ≤ maxLen := by
  have h1 := h.name
  have h2 := h.tu
  have h3 := h.text
  unfold maxLen
  omega
/-- a slice of steps in memory -/
structure Steps (w : World) (v : Value) (L : List Stp) : Prop where
  form : (L = [] ∧ ∃ a c, v = .slice a 0 c) ∨ ∃ g o c, v = .slice (some ⟨g, o, none⟩) L.length c ∧ g < w.heap.size ∧ ∀ i (hi : i < L.length) j u, (stpA L[i])[j]? = some u → w.cell? ⟨g, o + i * 7 + j, none⟩ = some u
  ok : ∀ x ∈ L, x.ok
  len : L.length ≤ maxLen
theorem Steps.below {w w' : World} {v : Value} {L : List Stp} (h : Steps w v L) (hb : Below w.heap.size w w') : Steps w' v L := by
  refine ⟨?_, h.ok, h.len⟩
  rcases h.form with hn | ⟨g, o, c, h1, h2, h3⟩
  · exact .inl hn
  · refine .inr ⟨g, o, c, h1, Nat.lt_of_lt_of_le h2 hb.size, fun i hi j u hu => ?_⟩
    rw [hb.cell (p := ⟨g, o + i * 7 + j, none⟩) h2]
    exact h3 i hi j u hu
def great (x : Stp) : Bool := decide (300 < x.name.size + x.to.size + x.text.size)
set_option maxHeartbeats 400000 in
theorem greatStep_any (x : Stp) (hx : x.ok) (w : World) :
    Calls Tryz.prog 34 #[.agg (stpA x)] w fun e w' => e = .returned (.bool (great x)) ∧ Below w.heap.size w w' := by
  obtain ⟨h1, h2, h3⟩ := hx
  go_enter Tryz.func34, Tryz.ntmps34
  go_wp2
  go_ret
  refine ⟨ret_bool ?_, (Below.refl _ _).alloc (Nat.le_refl _) _⟩
  simp only [great, decide_eq_decide]
  omega
/-- the steps of a slice, asked for by their places -/
theorem Steps.cells {w : World} {v : Value} {L : List Stp} (h : Steps w v L) (i : Nat) (hi : i < L.length) : ∃ g o c, v = .slice (some ⟨g, o, none⟩) L.length c ∧ g < w.heap.size ∧ ∀ W, Below w.heap.size w W →
    W.cell? ⟨g, o + i * 7, none⟩ = some (.int .i64 L[i].kind) ∧ W.cell? ⟨g, o + i * 7 + 1, none⟩ = some (.int .i64 L[i].dir) ∧ W.cell? ⟨g, o + i * 7 + 2, none⟩ = some (.int .i64 L[i].toDir) ∧ W.cell? ⟨g, o + i * 7 + 3, none⟩ = some (.int .i64 L[i].p) ∧
    W.cell? ⟨g, o + i * 7 + 4, none⟩ = some (.string L[i].name) ∧ W.cell? ⟨g, o + i * 7 + 5, none⟩ = some (.string L[i].to) ∧ W.cell? ⟨g, o + i * 7 + 6, none⟩ = some (.string L[i].text) := by
  rcases h.form with ⟨h2, _⟩ | ⟨g, o, c, h1, h2, h3⟩
  · rw [h2] at hi; cases hi
  · refine ⟨g, o, c, h1, h2, fun W hb => ?_⟩
    have hc : ∀ j u, (stpA L[i])[j]? = some u → W.cell? ⟨g, o + i * 7 + j, none⟩ = some u := fun j u hu => by
      rw [hb.cell (p := ⟨g, o + i * 7 + j, none⟩) h2]; exact h3 i hi j u hu
    exact ⟨hc 0 _ rfl, hc 1 _ rfl, hc 2 _ rfl, hc 3 _ rfl, hc 4 _ rfl, hc 5 _ rfl, hc 6 _ rfl⟩
def greats (L : List Stp) : Bool := (L.take 300).any great || decide (200 < L.length)
set_option maxHeartbeats 1000000 in
set_option maxRecDepth 100000 in
theorem greatSteps_any {w : World} {v : Value} {L : List Stp} (h : Steps w v L) :
    Calls Tryz.prog 13 #[v] w fun e w' => e = .returned (.bool (greats L)) ∧ Below w.heap.size w w' := by
  have hlen := h.len
  unfold maxLen at hlen
  rcases h.form with ⟨rfl, a, c, rfl⟩ | ⟨g, o, c, rfl, hgl, hcells⟩
  · go_enter Tryz.func13, Tryz.ntmps13
    go_wp2
    go_loopw [3] (fun i wr => i = .int .i64 0 ∧ wr = w) (fun _ _ => 0)
    case atStart => exact ⟨rfl, rfl⟩
    case round =>
      obtain ⟨rfl, rfl⟩ := hrel
      go_wp2
      go_ret
      exact ⟨rfl, Below.refl _ _⟩
  · have HS := hide fun i hi => h.cells i hi
    have HK := hide h.ok
    clear h hcells
    go_enter Tryz.func13, Tryz.ntmps13
    go_wp2
    go_loopw [3] (fun i wr => ∃ k : Nat, k ≤ L.length ∧ k ≤ 300 ∧ i = .int .i64 k ∧ Hid ((L.take k).any great = false) ∧ Below w.heap.size w wr) (fun i _ => 300 - (intOf i).toNat)
    case atStart => exact ⟨0, Nat.zero_le _, by omega, rfl, rfl, Below.refl _ _⟩
    case round =>
      obtain ⟨k, hk, hk3, rfl, hno, hbel⟩ := hrel
      by_cases hlt : k < L.length
      · by_cases hl3 : k < 300
        · obtain ⟨g', o', c', e1, _, hcc⟩ := unhide HS k hlt
          simp only [Value.slice.injEq, Option.some.injEq, Addr.mk.injEq] at e1
          obtain ⟨⟨rfl, rfl, _⟩, _, rfl⟩ := e1
          obtain ⟨q0, q1, q2, q3, q4, q5, q6⟩ := hcc _ hbel
          have hst := greatStep_any L[k] (unhide HK _ (List.getElem_mem _)) wr
          have et : (L.take (k + 1)).any great = ((L.take k).any great || great L[k]) := by
            rw [List.take_add_one, List.any_append, List.getElem?_eq_getElem hlt]; simp
          have z1 : decide ((k : Int) < (L.length : Int)) = true := by simp; omega
          have z2 : decide ((k : Int) < 300) = true := by simp; omega
          rw [unhide hno, Bool.false_or] at et
          have hout : great L[k] = true → greats L = true := fun hg => by
            have : (L.take (k + 1)).any great = true := by rw [et, hg]
            have h2 : (L.take 300).any great = true := by
              obtain ⟨x, hx, hx2⟩ := List.any_eq_true.1 this
              exact List.any_eq_true.2 ⟨x, by
                rw [show k + 1 = min (k + 1) 300 by omega, ← List.take_take] at hx
                exact List.mem_of_mem_take hx, hx2⟩
            simp [greats, h2]
          have HB := hide hbel
          have ET := hide et
          have HO := hide hout
          clear hcc hbel et hout
          cases hgr : great L[k] <;> rw [hgr] at hst
          · have HG := hide hgr
            clear hgr
            go_wp2_with fail
            refine hst.mono ?_
            rintro e w1 ⟨rfl, bel⟩
            have HB1 := hide ((unhide HB).trans (bel.mono (unhide HB).size))
            clear bel hst
            go_wp2
            go_roundw
            case rel => exact ⟨k + 1, by omega, by omega, by go_num, by rw [unhide ET, unhide HG]; exact rfl, unhide HB1⟩
            case measure => simp [intOf]; omega
          · have HG := hide hgr
            clear hgr
            go_wp2_with fail
            refine hst.mono ?_
            rintro e w1 ⟨rfl, bel⟩
            have HB1 := hide ((unhide HB).trans (bel.mono (unhide HB).size))
            clear bel hst
            go_wp2
            go_ret
            exact ⟨ret_bool (unhide HO (unhide HG)).symm, unhide HB1⟩
        · have e2 : greats L = true := by simp [greats]; omega
          have z1 : decide ((k : Int) < (L.length : Int)) = true := by simp; omega
          have z2 : decide ((k : Int) < 300) = false := by simp; omega
          have z3 : (200 : Int) < (L.length : Int) := by omega
          have HB := hide hbel
          have E2 := hide e2
          clear hbel e2
          go_wp2
          go_ret
          exact ⟨ret_bool (unhide E2).symm, unhide HB⟩
      · have ek : k = L.length := by omega
        have e2 : greats L = decide (200 < L.length) := by
          have := unhide hno
          rw [ek, List.take_length] at this
          rw [greats, List.take_of_length_le (by omega), this]; rfl
        have z1 : decide ((k : Int) < (L.length : Int)) = false := by simp; omega
        have HB := hide hbel
        have E2 := hide e2
        clear hbel e2 ek
        go_wp2
        all_goals
          go_ret
          refine ⟨ret_bool ?_, unhide HB⟩
          rw [unhide E2]
          simp only [decide_eq_decide]
          omega
end Idl
end Go.Proofs.YtlbgkpibaahglacGreat
