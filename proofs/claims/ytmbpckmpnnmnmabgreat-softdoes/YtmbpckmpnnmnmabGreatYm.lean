/-
  Steps in memory; the walks of eiderdownlaw.greatStep and greatSteps.
-/
import Derived.Test.YtmbpckmpnnmnmabGreatQVa
import Derived.ProofKit
import Derived.OpenShut
import Derived.ShutString
import Derived.ChangeOld
import Derived.Below
import Derived.SizedLaws
import Derived.Deep.Slices
import Derived.Test.YtmbpckmpnnmnmabGreatQWl
namespace Go.Proofs.YtmbpckmpnnmnmabGreat
open Go.RowKit
namespace Idl
structure Stp.ok (x : Stp) : Prop where
  name : x.name.size ≤ 140737488355328
  to : x.to.size ≤ 140737488355328
  text : x.text.size ≤ 140737488355328
theorem Stp.ok.big {x : Stp} (h : x.ok) : x.name.size ≤ maxLen ∧ x.to.size ≤ maxLen ∧ x.text.size ≤ maxLen := by
  have h1 := h.name
  have h2 := h.to
  have h3 := h.text
  unfold maxLen
  omega
/-- a slice of steps in memory -/
structure Steps (w : World) (v : Value) (L : List Stp) : Prop where
  form : (L = [] ∧ ∃ a c, v = .slice a 0 c) ∨ ∃ g o c, v = .slice (some ⟨g, o, none⟩) L.length c ∧ g < w.heap.size ∧ ∀ i (hi : i < L.length) j u, (stpA L[i])[j]? = some u → w.cell? ⟨g, o + i * 7 + j, none⟩ = some u
  ok : ∀ x ∈ L, x.ok
  len : L.length ≤ maxLen
theorem Steps.below {w w' : World} {v : Value} {L : List Stp} (h : Steps w v L) (hb : Below w.heap.size w w') : Steps w' v L := by
  refine ⟨?_, h.ok, h.len⟩
  rcases h.form with hn | ⟨g, o, c, h1, h2, h3⟩
  · exact .inl hn
  · refine .inr ⟨g, o, c, h1, Nat.lt_of_lt_of_le h2 hb.size, fun i hi j u hu => ?_⟩
    rw [hb.cell (p := ⟨g, o + i * 7 + j, none⟩) h2]
    exact h3 i hi j u hu
def great (x : Stp) : Bool := decide (300 < x.name.size + x.to.size + x.text.size)
set_option maxHeartbeats 400000 in
theorem greatStep_any (x : Stp) (hx : x.ok) (w : World) :
    Calls Tryz.prog 11 #[.agg (stpA x)] w fun e w' => e = .returned (.bool (great x)) ∧ Below w.heap.size w w' := by
  obtain ⟨h1, h2, h3⟩ := hx
  go_enter Tryz.func11, Tryz.ntmps11
  go_wp2
  go_ret
  refine ⟨ret_bool ?_, (Below.refl _ _).alloc (Nat.le_refl _) _⟩
  simp only [great, decide_eq_decide]
  omega
/-- the steps of a slice, asked for by their places -/
theorem Steps.cells {w : World} {v : Value} {L : List Stp} (h : Steps w v L) (i : Nat) (hi : i < L.length) : ∃ g o c, v = .slice (some ⟨g, o, none⟩) L.length c ∧ g < w.heap.size ∧ ∀ W, Below w.heap.size w W →
    W.cell? ⟨g, o + i * 7, none⟩ = some (.int .i64 L[i].kind) ∧ W.cell? ⟨g, o + i * 7 + 1, none⟩ = some (.int .i64 L[i].dir) ∧ W.cell? ⟨g, o + i * 7 + 2, none⟩ = some (.int .i64 L[i].toDir) ∧ W.cell? ⟨g, o + i * 7 + 3, none⟩ = some (.int .i64 L[i].p) ∧
    W.cell? ⟨g, o + i * 7 + 4, none⟩ = some (.string L[i].name) ∧ W.cell? ⟨g, o + i * 7 + 5, none⟩ = some (.string L[i].to) ∧ W.cell? ⟨g, o + i * 7 + 6, none⟩ = some (.string L[i].text) := by
  rcases h.form with ⟨h2, _⟩ | ⟨g, o, c, h1, h2, h3⟩
  · rw [h2] at hi; cases hi
  · refine ⟨g, o, c, h1, h2, fun W hb => ?_⟩
    have hc : ∀ j u, (stpA L[i])[j]? = some u → W.cell? ⟨g, o + i * 7 + j, none⟩ = some u := fun j u hu => by
      rw [hb.cell (p := ⟨g, o + i * 7 + j, none⟩) h2]; exact h3 i hi j u hu
    exact ⟨hc 0 _ rfl, hc 1 _ rfl, hc 2 _ rfl, hc 3 _ rfl, hc 4 _ rfl, hc 5 _ rfl, hc 6 _ rfl⟩
def greats (L : List Stp) : Bool := (L.take 300).any great || decide (200 < L.length)
set_option maxHeartbeats 1000000 in
set_option maxRecDepth 100000 in
theorem greatSteps_any {w : World} {v : Value} {L : List Stp} (h : Steps w v L) :
    Calls Tryz.prog 10 #[v] w fun e w' => e = .returned (.bool (greats L)) ∧ Below w.heap.size w w' := by
  have hlen := h.len
  unfold maxLen at hlen
  rcases h.form with ⟨rfl, a, c, rfl⟩ | ⟨g, o, c, rfl, hgl, hcells⟩
  · go_enter Tryz.func10, Tryz.ntmps10
    go_wp2
    go_loopw [3] (fun i wr => i = .int .i64 0 ∧ wr = w) (fun _ _ => 0)
    case atStart => exact ⟨rfl, rfl⟩
    case round =>
      obtain ⟨rfl, rfl⟩ := hrel
      go_wp2
      go_ret
      exact ⟨rfl, Below.refl _ _⟩
  · have HS := hide fun i hi => h.cells i hi
    have HK := hide h.ok
    clear h hcells
    go_enter Tryz.func10, Tryz.ntmps10
    go_wp2
    go_loopw [3] (fun i wr => ∃ k : Nat, k ≤ L.length ∧ k ≤ 300 ∧ i = .int .i64 k ∧ Hid ((L.take k).any great = false) ∧ Below w.heap.size w wr) (fun i _ => 300 - (intOf i).toNat)
    case atStart => exact ⟨0, Nat.zero_le _, by omega, rfl, rfl, Below.refl _ _⟩
    case round =>
      obtain ⟨k, hk, hk3, rfl, hno, hbel⟩ := hrel
      by_cases hlt : k < L.length
      · by_cases hl3 : k < 300
        · obtain ⟨g', o', c', e1, _, hcc⟩ := unhide HS k hlt
          simp only [Value.slice.injEq, Option.some.injEq, Addr.mk.injEq] at e1
          obtain ⟨⟨rfl, rfl, _⟩, _, rfl⟩ := e1
          obtain ⟨q0, q1, q2, q3, q4, q5, q6⟩ := hcc _ hbel
          have hst := greatStep_any L[k] (unhide HK _ (List.getElem_mem _)) wr
          have et : (L.take (k + 1)).any great = ((L.take k).any great || great L[k]) := by
            rw [List.take_add_one, List.any_append, List.getElem?_eq_getElem hlt]; simp
          have z1 : decide ((k : Int) < (L.length : Int)) = true := by simp; omega
          have z2 : decide ((k : Int) < 300) = true := by simp; omega
          rw [unhide hno, Bool.false_or] at et
          have hout : great L[k] = true → greats L = true := fun hg => by
            have : (L.take (k + 1)).any great = true := by rw [et, hg]
            have h2 : (L.take 300).any great = true := by
              obtain ⟨x, hx, hx2⟩ := List.any_eq_true.1 this
              exact List.any_eq_true.2 ⟨x, by
                rw [show k + 1 = min (k + 1) 300 by omega, ← List.take_take] at hx
                exact List.mem_of_mem_take hx, hx2⟩
            simp [greats, h2]
          have HB := hide hbel
          have ET := hide et
          have HO := hide hout
          clear hcc hbel et hout
          cases hgr : great L[k] <;> rw [hgr] at hst
          · have HG := hide hgr
            clear hgr
            go_wp2_with fail
            refine hst.mono ?_
            rintro e w1 ⟨rfl, bel⟩
            have HB1 := hide ((unhide HB).trans (bel.mono (unhide HB).size))
            clear bel hst
            go_wp2
            go_roundw
            case rel => exact ⟨k + 1, by omega, by omega, by go_num, by rw [unhide ET, unhide HG]; exact rfl, unhide HB1⟩
            case measure => simp [intOf]; omega
          · have HG := hide hgr
            clear hgr
            go_wp2_with fail
            refine hst.mono ?_
            rintro e w1 ⟨rfl, bel⟩
            have HB1 := hide ((unhide HB).trans (bel.mono (unhide HB).size))
            clear bel hst
            go_wp2
            go_ret
            exact ⟨ret_bool (unhide HO (unhide HG)).symm, unhide HB1⟩
        · have e2 : greats L = true := by simp [greats]; omega
          have z1 : decide ((k : Int) < (L.length : Int)) = true := by simp; omega
          have z2 : decide ((k : Int) < 300) = false := by simp; omega
          have z3 : (200 : Int) < (L.length : Int) := by omega
          have HB := hide hbel
          have E2 := hide e2
          clear hbel e2
          go_wp2
          go_ret
          exact ⟨ret_bool (unhide E2).symm, unhide HB⟩
      · have ek : k = L.length := by omega
        have e2 : greats L = decide (200 < L.length) := by
          have := unhide hno
          rw [ek, List.take_length] at this
          rw [greats, List.take_of_length_le (by omega), this]; rfl
        have z1 : decide ((k : Int) < (L.length : Int)) = false := by simp; omega
        have HB := hide hbel
        have E2 := hide e2
        clear hbel e2 ek
        go_wp2
        all_goals
          go_ret
          refine ⟨ret_bool ?_, unhide HB⟩
          rw [unhide E2]
          simp only [decide_eq_decide]
          omega
end Idl
end Go.Proofs.YtmbpckmpnnmnmabGreat
namespace Go.Proofs.YtmbpckmpnnmnmabGreat
open Go.ChangeShapes Go.WideShapes Go.ChangeAt Go.RowKit
namespace Idl
theorem TryI.own : ownKnob Tryz.prog.godebug = none := by kernel_rfl
theorem TryI.laidOut : laidOutB Tryz.prog = true := by kernel_rfl
theorem step_cells : Tryz.prog.cellsOf 37 = 7 := by kernel_rfl
theorem int_cells : Tryz.prog.cellsOf 3 = 1 := by kernel_rfl
theorem string_cells : Tryz.prog.cellsOf 9 = 1 := by kernel_rfl
section
variable {H : Type} {enc : TypeId × Value → H} {w : World} {base : Nat} {spare : Nat → Bool} {held : Bool}
def stepD (x : Stp) : DataW H := .agg [.lit (.int .i64 x.kind), .lit (.int .i64 x.dir), .lit (.int .i64 x.toDir), .lit (.int .i64 x.p), .lit (.string x.name.data.toList), .lit (.string x.to.data.toList), .lit (.string x.text.data.toList)]
set_option maxRecDepth 100000 in
theorem open_step {fuel : Nat} {cs : List Value} {y : DataW H × List MemPlace} (h : DataW.trod enc Tryz.prog w base spare held fuel 37 cs = some y) : ∃ x : Stp, cs = (stpA x).toList ∧ y.1 = stepD x := by
  obtain ⟨xs, n, rfl, rfl, hl, hxl, hf⟩ := DataW.trod_struct Tryz.underlying37 h
  rw [step_cells] at hl
  match cs, hl, xs, hxl with
  | [a0, a1, a2, a3, a4, a5, a6], _, [y0, y1, y2, y3, y4, y5, y6], _ =>
    have f0 := hf 0 _ rfl
    have f1 := hf 1 _ rfl
    have f2 := hf 2 _ rfl
    have f3 := hf 3 _ rfl
    have f4 := hf 4 _ rfl
    have f5 := hf 5 _ rfl
    have f6 := hf 6 _ rfl
    simp [int_cells, string_cells] at f0 f1 f2 f3 f4 f5 f6
    obtain ⟨n0, e0, r0, _⟩ := DataW.trod_int Tryz.underlying3 f0
    obtain ⟨n1, e1, r1, _⟩ := DataW.trod_int Tryz.underlying3 f1
    obtain ⟨n2, e2, r2, _⟩ := DataW.trod_int Tryz.underlying3 f2
    obtain ⟨n3, e3, r3, _⟩ := DataW.trod_int Tryz.underlying3 f3
    obtain ⟨s4, e4, r4, _⟩ := DataW.trod_string Tryz.underlying9 f4
    obtain ⟨s5, e5, r5, _⟩ := DataW.trod_string Tryz.underlying9 f5
    obtain ⟨s6, e6, r6, _⟩ := DataW.trod_string Tryz.underlying9 f6
    simp only [List.cons.injEq, and_true] at e0 e1 e2 e3 e4 e5 e6
    subst e0 e1 e2 e3 e4 e5 e6 r0 r1 r2 r3 r4 r5 r6
    exact ⟨⟨n0, n1, n2, n3, s4, s5, s6⟩, rfl, rfl⟩
theorem step_sized {x : Stp} (h : ∀ n ∈ (stepD (H := H) x).weights Tryz.prog 37, n ≤ reachBytes) : x.ok := by
  have hb := reachBytes_lt
  have key : ∀ s : ByteArray, s.data.toList.length ≤ reachBytes → s.size ≤ 140737488355328 := fun s hs => by
    have : s.size = s.data.toList.length := by rw [Array.length_toList]; rfl
    rw [this]; omega
  refine ⟨key _ (h _ ?_), key _ (h _ ?_), key _ (h _ ?_)⟩ <;> simp [stepD, DataW.weights, DataW.weightsEach, Tryz.underlying37]
theorem weightsAll_mem {t : TypeId} {n : Nat} : ∀ {l : List (DataW H)} {d : DataW H}, d ∈ l → n ∈ d.weights Tryz.prog t → n ∈ DataW.weightsAll Tryz.prog t l
  | d0 :: l, d, hd, hn => by
    rw [DataW.weightsAll, List.mem_append]
    rcases List.mem_cons.1 hd with rfl | hd
    · exact .inl hn
    · exact .inr (weightsAll_mem hd hn)
theorem spot_none {a : Addr} {u : Value} (h : w.cell? a = some u) : a.spot = none := by
  unfold World.cell? at h
  split at h
  · split at h
    · cases h
    · rename_i hs
      simpa using hs
  · cases h
set_option maxRecDepth 100000 in
theorem open_steps {a0 : Option Addr} {len cap : Nat} {d : DataW H} {ps : List MemPlace} (h : DataW.Trod enc Tryz.prog w 0 spare held 35 (.slice a0 len cap) d ps) (hsz : ∀ n ∈ d.weights Tryz.prog 35, n ≤ reachBytes) : ∃ L, Steps w (.slice a0 len cap) L := by
  obtain ⟨fuel, hf⟩ := h
  rcases Go.Deep.open_slice Tryz.underlying35 hf with ⟨hc, _⟩ | ⟨a, len', cap', m, n, D, Pl, hc, _, hl, hm, hmm, hx, he⟩
  · simp [Value.cells] at hc
    obtain ⟨rfl, rfl, rfl⟩ := hc
    exact ⟨[], .inl ⟨rfl, _, _, rfl⟩, fun x hx => (by cases hx), Nat.zero_le _⟩
  · simp [Value.cells] at hc
    obtain ⟨rfl, rfl, rfl⟩ := hc
    simp only [Prod.mk.injEq] at hx
    obtain ⟨rfl, rfl⟩ := hx
    have hlm : len ≤ m := by rw [hmm]; split <;> omega
    by_cases h0 : len = 0
    · subst h0
      exact ⟨[], .inl ⟨rfl, _, _, rfl⟩, fun x hx => (by cases hx), Nat.zero_le _⟩
    have each : ∀ i, i < len → ∃ x : Stp, (∀ j u, (stpA x)[j]? = some u → w.cell? ((a.add (i * 7)).add j) = some u) ∧ x.ok := fun i hi => by
      obtain ⟨cs', h1, h2⟩ := he i (by omega)
      rw [step_cells] at h1
      obtain ⟨_, hcl, hcc⟩ := World.cells?_some h1
      obtain ⟨x, ex, ed⟩ := open_step h2
      refine ⟨x, fun j u hu => ?_, step_sized (H := H) fun k hk => hsz k ?_⟩
      · have hj : j < 7 := (Array.getElem?_eq_some_iff.1 hu).1
        rw [hcc j hj, ex]
        simpa using hu
      · simp only [DataW.weights, Tryz.underlying35, List.mem_cons, List.mem_append]
        refine .inr (.inl (weightsAll_mem (d := D i) (List.mem_map.2 ⟨i, List.mem_range.2 hi, rfl⟩) ?_))
        rw [show D i = stepD x from ed]
        exact hk
    obtain ⟨X, hX⟩ := @Go.Deep.choose_lt Stp ⟨⟨0, 0, 0, 0, none0, none0, none0⟩⟩ len _ each
    have hz := (hX 0 (by omega)).1 0 _ rfl
    have hsp : a.spot = none := by
      have : (a.add (0 * 7)).add 0 = a := by unfold Addr.add; simp
      rw [this] at hz
      exact spot_none hz
    obtain ⟨g, o, sp⟩ := a
    simp only at hsp
    subst hsp
    have hgl : g < w.heap.size := by
      have := World.block_lt_of_cell? w _ hz
      rw [Addr.add_lit, Addr.add_lit] at this
      exact this
    refine ⟨(List.range len).map X, .inr ⟨g, o, cap, by rw [List.length_map, List.length_range], hgl, fun i hi j u hu => ?_⟩, fun x hx => ?_, by rw [List.length_map, List.length_range]; omega⟩
    · rw [List.length_map, List.length_range] at hi
      have := (hX i hi).1 j u (by simpa using hu)
      rwa [Addr.add_lit, Addr.add_lit] at this
    · obtain ⟨i, hi, rfl⟩ := List.mem_map.1 hx
      exact (hX i (List.mem_range.1 hi)).2
end
end Idl
end Go.Proofs.YtmbpckmpnnmnmabGreat
namespace Go.Proofs.YtmbpckmpnnmnmabGreat
open Go.ChangeShapes Go.WideShapes Go.ChangeAt Go.RowKit
def tyAt (i : Nat) : TypeId :=
  if i < 40 then (if i % 5 = 0 then 4 else 3) else if i < 76 then (if (i - 40) % 3 = 0 then 9 else 3) else (if (i - 76) % 2 = 0 then 3 else 9)
set_option maxRecDepth 100000 in
theorem img_types : Tryz.prog.cellTypes Tryz.prog.depth 34 = some ((List.range 94).map tyAt) := by kernel_rfl
set_option maxRecDepth 100000 in
theorem img_cells : Tryz.prog.cellsOf 34 = 94 := by kernel_rfl
set_option maxRecDepth 100000 in
theorem ok_bool {W : World} {r : Reach} {base : Nat} {v : Value} (h : Cell.okWide Tryz.prog W r base 4 v) : isB v = true := by
  simp only [Cell.okWide, Cell.ok, Tryz.underlying4] at h
  cases v <;> simp_all [isB]
set_option maxRecDepth 100000 in
theorem ok_int {W : World} {r : Reach} {base : Nat} {v : Value} (h : Cell.okWide Tryz.prog W r base 3 v) : isN v = true := by
  simp only [Cell.okWide, Cell.ok, Tryz.underlying3] at h
  cases v <;> simp_all [isN]
set_option maxRecDepth 100000 in
theorem ok_string {W : World} {r : Reach} {base : Nat} {v : Value} (h : Cell.okWide Tryz.prog W r base 9 v) : isS v = true ∧ (sOf v).size ≤ maxLen := by
  simp only [Cell.okWide, Cell.ok, Tryz.underlying9] at h
  cases v <;> simp_all [isS, sOf]
  have : IntKind.i64.max = 9223372036854775807 := by decide
  unfold maxLen
  omega
set_option maxRecDepth 100000 in
theorem kinds_of_ok {W : World} {r : Reach} {base : Nat} {v : Value} (h : Value.okWide Tryz.prog W r base 34 v) : ∃ cs, v = .agg cs ∧ Kinds cs := by
  simp only [Value.okWide, img_under] at h
  obtain ⟨cs, rfl, hs, ts, ht, _, hc⟩ := h
  rw [img_cells] at hs
  rw [img_types] at ht
  obtain rfl := (Option.some.inj ht).symm
  refine ⟨cs, rfl, ?_⟩
  have key : ∀ i, i < 94 → Cell.okWide Tryz.prog W r base (tyAt i) (cs.getD i undef) := fun i hi => by
    have hg : cs[i]? = some (cs.getD i undef) := by
      have : i < cs.size := by rw [hs]; exact hi
      simp [Array.getD, this]
    obtain ⟨u, hu, hk⟩ := hc i _ hg
    rw [List.length_map, List.length_range, Nat.mod_eq_of_lt hi, List.getElem?_map, List.getElem?_range hi] at hu
    have : u = tyAt i := by simpa using hu.symm
    rw [← this]; exact hk
  have kind : ∀ i, i < 94 → kindOk i (cs.getD i undef) = true ∧ (sOf (cs.getD i undef)).size ≤ maxLen := fun i hi => by
    have k := key i hi
    unfold tyAt at k
    unfold kindOk
    by_cases h1 : i < 40
    · rw [if_pos h1] at k ⊢
      by_cases h2 : i % 5 = 0
      · rw [if_pos h2] at k ⊢
        have := ok_bool k
        exact ⟨this, by rw [of_isB this]; exact Nat.zero_le _⟩
      · rw [if_neg h2] at k ⊢
        have := ok_int k
        exact ⟨this, by rw [of_isN this]; exact Nat.zero_le _⟩
    · rw [if_neg h1] at k ⊢
      by_cases h3 : i < 76
      · rw [if_pos h3] at k ⊢
        by_cases h2 : (i - 40) % 3 = 0
        · rw [if_pos h2] at k ⊢
          exact ok_string k
        · rw [if_neg h2] at k ⊢
          have := ok_int k
          exact ⟨this, by rw [of_isN this]; exact Nat.zero_le _⟩
      · rw [if_neg h3] at k ⊢
        by_cases h2 : (i - 76) % 2 = 0
        · rw [if_pos h2] at k ⊢
          have := ok_int k
          exact ⟨this, by rw [of_isN this]; exact Nat.zero_le _⟩
        · rw [if_neg h2] at k ⊢
          exact ok_string k
  refine ⟨hs, fun i hi => (kind i hi).1, fun i => ?_⟩
  by_cases hi : i < 94
  · exact (kind i hi).2
  · have : cs.getD i undef = undef := by simp [Array.getD, hs, hi]
    rw [this]; exact Nat.zero_le _
end Go.Proofs.YtmbpckmpnnmnmabGreat
