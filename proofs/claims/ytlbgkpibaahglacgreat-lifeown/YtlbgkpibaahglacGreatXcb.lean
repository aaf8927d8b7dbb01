/-
  Steps that came in: one by value, and a slice of them.
-/
import Derived.Test.YtlbgkpibaahglacGreatXba
import Derived.ProofKit
import Derived.OpenShut
import Derived.ShutString
import Derived.ChangeOld
import Derived.Below
import Derived.SizedLaws
import Derived.Deep.Slices
namespace Go.Proofs.YtlbgkpibaahglacGreat
open Go.ChangeShapes Go.WideShapes Go.ChangeAt Go.RowKit
namespace Idl
theorem TryI.own : ownKnob Tryz.prog.godebug = none := by kernel_rfl
theorem TryI.laidOut : laidOutB Tryz.prog = true := by kernel_rfl
theorem step_cells : Tryz.prog.cellsOf 31 = 7 := by kernel_rfl
theorem int_cells : Tryz.prog.cellsOf 3 = 1 := by kernel_rfl
theorem string_cells : Tryz.prog.cellsOf 9 = 1 := by kernel_rfl
section
variable {H : Type} {enc : TypeId × Value → H} {w : World} {base : Nat} {spare : Nat → Bool} {held : Bool}
def stepD (x : Stp) : DataW H := .agg [.lit (.int .i64 x.kind), .lit (.int .i64 x.dir), .lit (.int .i64 x.toDir), .lit (.int .i64 x.p), .lit (.string x.name.data.toList), .lit (.string x.to.data.toList), .lit (.string x.text.data.toList)]
set_option maxRecDepth 100000 in
theorem open_step {fuel : Nat} {cs : List Value} {y : DataW H × List MemPlace} (h : DataW.trod enc Tryz.prog w base spare held fuel 31 cs = some y) : ∃ x : Stp, cs = (stpA x).toList ∧ y.1 = stepD x := by
  obtain ⟨xs, n, rfl, rfl, hl, hxl, hf⟩ := DataW.trod_struct Tryz.underlying31 h
  rw [step_cells] at hl
  match cs, hl, xs, hxl with
  | [a0, a1, a2, a3, a4, a5, a6], _, [y0, y1, y2, y3, y4, y5, y6], _ =>
    have f0 := hf 0 _ rfl
    have f1 := hf 1 _ rfl
    have f2 := hf 2 _ rfl
    have f3 := hf 3 _ rfl
    have f4 := hf 4 _ rfl
    have f5 := hf 5 _ rfl
    have f6 := hf 6 _ rfl
    simp [int_cells, string_cells] at f0 f1 f2 f3 f4 f5 f6
    obtain ⟨n0, e0, r0, _⟩ := DataW.trod_int Tryz.underlying3 f0
    obtain ⟨n1, e1, r1, _⟩ := DataW.trod_int Tryz.underlying3 f1
    obtain ⟨n2, e2, r2, _⟩ := DataW.trod_int Tryz.underlying3 f2
    obtain ⟨n3, e3, r3, _⟩ := DataW.trod_int Tryz.underlying3 f3
    obtain ⟨s4, e4, r4, _⟩ := DataW.trod_string Tryz.underlying9 f4
    obtain ⟨s5, e5, r5, _⟩ := DataW.trod_string Tryz.underlying9 f5
    obtain ⟨s6, e6, r6, _⟩ := DataW.trod_string Tryz.underlying9 f6
    simp only [List.cons.injEq, and_true] at e0 e1 e2 e3 e4 e5 e6
    subst e0 e1 e2 e3 e4 e5 e6 r0 r1 r2 r3 r4 r5 r6
    exact ⟨⟨n0, n1, n2, n3, s4, s5, s6⟩, rfl, rfl⟩
theorem step_sized {x : Stp} (h : ∀ n ∈ (stepD (H := H) x).weights Tryz.prog 31, n ≤ reachBytes) : x.ok := by
  have hb := reachBytes_lt
  have key : ∀ s : ByteArray, s.data.toList.length ≤ reachBytes → s.size ≤ 140737488355328 := fun s hs => by
    have : s.size = s.data.toList.length := by rw [Array.length_toList]; rfl
    rw [this]; omega
  refine ⟨key _ (h _ ?_), key _ (h _ ?_), key _ (h _ ?_)⟩ <;> simp [stepD, DataW.weights, DataW.weightsEach, Tryz.underlying31]
theorem weightsAll_mem {t : TypeId} {n : Nat} : ∀ {l : List (DataW H)} {d : DataW H}, d ∈ l → n ∈ d.weights Tryz.prog t → n ∈ DataW.weightsAll Tryz.prog t l
  | d0 :: l, d, hd, hn => by
    rw [DataW.weightsAll, List.mem_append]
    rcases List.mem_cons.1 hd with rfl | hd
    · exact .inl hn
    · exact .inr (weightsAll_mem hd hn)
theorem spot_none {a : Addr} {u : Value} (h : w.cell? a = some u) : a.spot = none := by
  unfold World.cell? at h
  split at h
  · split at h
    · cases h
    · rename_i hs
      simpa using hs
  · cases h
set_option maxRecDepth 100000 in
theorem open_steps {a0 : Option Addr} {len cap : Nat} {d : DataW H} {ps : List MemPlace} (h : DataW.Trod enc Tryz.prog w 0 spare held 22 (.slice a0 len cap) d ps) (hsz : ∀ n ∈ d.weights Tryz.prog 22, n ≤ reachBytes) : ∃ L, Steps w (.slice a0 len cap) L := by
  obtain ⟨fuel, hf⟩ := h
  rcases Go.Deep.open_slice Tryz.underlying22 hf with ⟨hc, _⟩ | ⟨a, len', cap', m, n, D, Pl, hc, _, hl, hm, hmm, hx, he⟩
  · simp [Value.cells] at hc
    obtain ⟨rfl, rfl, rfl⟩ := hc
    exact ⟨[], .inl ⟨rfl, _, _, rfl⟩, fun x hx => (by cases hx), Nat.zero_le _⟩
  · simp [Value.cells] at hc
    obtain ⟨rfl, rfl, rfl⟩ := hc
    simp only [Prod.mk.injEq] at hx
    obtain ⟨rfl, rfl⟩ := hx
    have hlm : len ≤ m := by rw [hmm]; split <;> omega
    by_cases h0 : len = 0
    · subst h0
      exact ⟨[], .inl ⟨rfl, _, _, rfl⟩, fun x hx => (by cases hx), Nat.zero_le _⟩
    have each : ∀ i, i < len → ∃ x : Stp, (∀ j u, (stpA x)[j]? = some u → w.cell? ((a.add (i * 7)).add j) = some u) ∧ x.ok := fun i hi => by
      obtain ⟨cs', h1, h2⟩ := he i (by omega)
      rw [step_cells] at h1
      obtain ⟨_, hcl, hcc⟩ := World.cells?_some h1
      obtain ⟨x, ex, ed⟩ := open_step h2
      refine ⟨x, fun j u hu => ?_, step_sized (H := H) fun k hk => hsz k ?_⟩
      · have hj : j < 7 := (Array.getElem?_eq_some_iff.1 hu).1
        rw [hcc j hj, ex]
        simpa using hu
      · simp only [DataW.weights, Tryz.underlying22, List.mem_cons, List.mem_append]
        refine .inr (.inl (weightsAll_mem (d := D i) (List.mem_map.2 ⟨i, List.mem_range.2 hi, rfl⟩) ?_))
        rw [show D i = stepD x from ed]
        exact hk
    obtain ⟨X, hX⟩ := @Go.Deep.choose_lt Stp ⟨⟨0, 0, 0, 0, none0, none0, none0⟩⟩ len _ each
    have hz := (hX 0 (by omega)).1 0 _ rfl
    have hsp : a.spot = none := by
      have : (a.add (0 * 7)).add 0 = a := by unfold Addr.add; simp
      rw [this] at hz
      exact spot_none hz
    obtain ⟨g, o, sp⟩ := a
    simp only at hsp
    subst hsp
    have hgl : g < w.heap.size := by
      have := World.block_lt_of_cell? w _ hz
      rw [Addr.add_lit, Addr.add_lit] at this
      exact this
    refine ⟨(List.range len).map X, .inr ⟨g, o, cap, by rw [List.length_map, List.length_range], hgl, fun i hi j u hu => ?_⟩, fun x hx => ?_, by rw [List.length_map, List.length_range]; omega⟩
    · rw [List.length_map, List.length_range] at hi
      have := (hX i hi).1 j u (by simpa using hu)
      rwa [Addr.add_lit, Addr.add_lit] at this
    · obtain ⟨i, hi, rfl⟩ := List.mem_map.1 hx
      exact (hX i (List.mem_range.1 hi)).2
end
end Idl
end Go.Proofs.YtlbgkpibaahglacGreat
