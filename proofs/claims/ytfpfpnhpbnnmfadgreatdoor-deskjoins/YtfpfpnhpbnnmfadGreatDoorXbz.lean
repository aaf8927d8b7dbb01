/-
  What the rows of layer 9 share: the tables and errors, as the program's text lays them; slices of lines that came in.
-/
import Derived.Test.YtfpfpnhpbnnmfadGreatDoorXbx
import Derived.Test.YtfpfpnhpbnnmfadGreatDoorRows
import Derived.LaidLaws
import Derived.Lay
import Derived.Deep.DeepWitnessRowRef
import Derived.Lib.LaidTab
import Derived.Deep.DeepHandedRow
import Derived.Deep.Slices
import Derived.SizedLaws
import Derived.ProofKit
import Derived.OpenShut
import Derived.ShutString
import Derived.ChangeOld
import Derived.Test.YtfpfpnhpbnnmfadGreatDoorXby
import Derived.Test.YtfpfpnhpbnnmfadGreatDoorCards
import Derived.Test.YtfpfpnhpbnnmfadGreatDoorTie
import Derived.WalkKit
set_option linter.unusedVariables false
namespace Go.Proofs.YtfpfpnhpbnnmfadGreatDoor
open Go.ChangeShapes Go.WideShapes Go.ChangeAt Go.RowKit
theorem TryJ.laidOut : laidOutB Tryz.prog = true := by kernel_rfl
theorem TryJ.own : ownKnob Tryz.prog.godebug = none := by kernel_rfl
def laid6 : List (String × DataW Unit) := [("math/bits.deBruijn32tab", Rows.laid_math_bits_deBruijn32tab), ("math/bits.deBruijn64tab", Rows.laid_math_bits_deBruijn64tab), ("internal/strconv.uint64pow10", Rows.laid_internal_strconv_uint64pow10), ("strconv.ErrRange", Rows.laid_strconv_ErrRange), ("strconv.ErrSyntax", Rows.laid_strconv_ErrSyntax), ("eiderdown/desk.forms", Rows.laid_eiderdown_desk_forms)]
theorem tab_name : Tryz.prog.globalNamed "internal/strconv.uint64pow10" = some 4 := by kernel_rfl
theorem tab_type : (Tryz.prog.globals[4]?).map (·.type) = some 251 := by kernel_rfl
theorem rng_name : Tryz.prog.globalNamed "strconv.ErrRange" = some 3 := by kernel_rfl
theorem rng_type : (Tryz.prog.globals[3]?).map (·.type) = some 121 := by kernel_rfl
theorem syn_name : Tryz.prog.globalNamed "strconv.ErrSyntax" = some 2 := by kernel_rfl
theorem syn_type : (Tryz.prog.globals[2]?).map (·.type) = some 121 := by kernel_rfl
theorem frm_name : Tryz.prog.globalNamed "eiderdown/desk.forms" = some 0 := by kernel_rfl
theorem frm_type : (Tryz.prog.globals[0]?).map (·.type) = some 116 := by kernel_rfl
theorem tab_cells : Tryz.prog.cellsOf 251 = 20 := by kernel_rfl
theorem tab_cell : Tryz.prog.cellsOf 214 = 1 := by kernel_rfl
theorem frm_cells : Tryz.prog.cellsOf 118 = 3 := by kernel_rfl
theorem int_cells9 : Tryz.prog.cellsOf 3 = 1 := by kernel_rfl
theorem string_cells9 : Tryz.prog.cellsOf 9 = 1 := by kernel_rfl
theorem var_cell {W : World} {n : String} {g : Nat} {cs : Array Value} (hg : Tryz.prog.globalNamed n = some g) (hv : W.var? Tryz.prog n = some cs) (i : Nat) : W.cell? ⟨g, i, none⟩ = cs[i]? := by
  unfold World.var? at hv
  rw [hg] at hv
  simp only [Option.bind_some] at hv
  split at hv
  · rename_i c t f he
    cases hv
    simp [World.cell?, he]
  · cases hv
section
variable {H : Type} {enc : TypeId × Value → H} {w : World} {base : Nat} {spare : Nat → Bool} {held : Bool}
def frmD (f : Dsk.Frm) : DataW H := .agg [.lit (.string f.word.data.toList), .lit (.string f.places.data.toList), .lit (.int .i64 f.kind)]
set_option maxRecDepth 100000 in
theorem open_form {fuel : Nat} {cs : List Value} {y : DataW H × List MemPlace} (h : DataW.trod enc Tryz.prog w base spare held fuel 118 cs = some y) : ∃ f : Dsk.Frm, cs = (frmA f).toList ∧ y.1 = frmD f := by
  obtain ⟨xs, n, rfl, rfl, hl, hxl, hf⟩ := DataW.trod_struct Tryz.underlying118 h
  rw [frm_cells] at hl
  match cs, hl, xs, hxl with
  | [a0, a1, a2], _, [y0, y1, y2], _ =>
    have f0 := hf 0 _ rfl
    have f1 := hf 1 _ rfl
    have f2 := hf 2 _ rfl
    simp [int_cells9, string_cells9] at f0 f1 f2
    obtain ⟨s0, e0, r0, _⟩ := DataW.trod_string Tryz.underlying9 f0
    obtain ⟨s1, e1, r1, _⟩ := DataW.trod_string Tryz.underlying9 f1
    obtain ⟨n2, e2, r2, _⟩ := DataW.trod_int Tryz.underlying3 f2
    simp only [List.cons.injEq, and_true] at e0 e1 e2
    subst e0 e1 e2 r0 r1 r2
    exact ⟨⟨s0, s1, n2⟩, rfl, rfl⟩
theorem weightsAll_mem9 {t : TypeId} {n : Nat} : ∀ {l : List (DataW H)} {d : DataW H}, d ∈ l → n ∈ d.weights Tryz.prog t → n ∈ DataW.weightsAll Tryz.prog t l
  | d0 :: l, d, hd, hn => by
    rw [DataW.weightsAll, List.mem_append]
    rcases List.mem_cons.1 hd with rfl | hd
    · exact .inl hn
    · exact .inr (weightsAll_mem9 hd hn)
theorem spot_none9 {a : Addr} {u : Value} (h : w.cell? a = some u) : a.spot = none := by
  unfold World.cell? at h
  split at h
  · split at h
    · cases h
    · rename_i hs
      simpa using hs
  · cases h
set_option maxRecDepth 100000 in
/-- lines that came in -/
theorem open_lines {a0 : Option Addr} {len cap : Nat} {d : DataW H} {ps : List MemPlace} (h : DataW.Trod enc Tryz.prog w 0 spare held 22 (.slice a0 len cap) d ps) (hsz : ∀ n ∈ d.weights Tryz.prog 22, n ≤ reachBytes) :
    ∃ L : List ByteArray, L.length = len ∧ len ≤ cap ∧ len ≤ maxLen ∧ (∀ s ∈ L, s.size ≤ 140737488355328) ∧ Wds w (.slice a0 len cap) L := by
  have hb := reachBytes_lt
  obtain ⟨fuel, hf⟩ := h
  rcases Go.Deep.open_slice Tryz.underlying22 hf with ⟨hc, _⟩ | ⟨a, len', cap', m, n, D, Pl, hc, _, hl, hm, hmm, hx, he⟩
  · simp [Value.cells] at hc
    obtain ⟨rfl, rfl, rfl⟩ := hc
    exact ⟨[], rfl, Nat.le_refl _, Nat.zero_le _, (fun s hs => absurd hs (by simp)), none, 0, rfl, (fun i x hx => absurd hx (by simp))⟩
  · simp [Value.cells] at hc
    obtain ⟨rfl, rfl, rfl⟩ := hc
    simp only [Prod.mk.injEq] at hx
    obtain ⟨rfl, rfl⟩ := hx
    have hlm : len ≤ m := by rw [hmm]; split <;> omega
    have each : ∀ i, i < len → ∃ s : ByteArray, w.cell? (a.add i) = some (.string s) ∧ s.size ≤ 140737488355328 := fun i hi => by
      obtain ⟨cs', h1, h2⟩ := he i (by omega)
      rw [string_cells9, Nat.mul_one] at h1
      obtain ⟨_, hcl, hcc⟩ := World.cells?_some h1
      obtain ⟨s, e0, r0, _⟩ := DataW.trod_string Tryz.underlying9 h2
      refine ⟨s, ?_, ?_⟩
      · have := hcc 0 (by omega)
        rw [e0] at this
        rw [show (a.add i).add 0 = a.add i by unfold Addr.add; simp] at this
        simpa using this
      · have hw := hsz s.data.toList.length (by
          simp only [DataW.weights, Tryz.underlying22, List.mem_cons, List.mem_append]
          refine .inr (.inl (weightsAll_mem9 (d := D i) (List.mem_map.2 ⟨i, List.mem_range.2 hi, rfl⟩) ?_))
          rw [show D i = .lit (.string s.data.toList) from (Prod.mk.inj r0).1]
          simp [DataW.weights])
        have : s.size = s.data.toList.length := by rw [Array.length_toList]; rfl
        omega
    obtain ⟨X, hX⟩ := @Go.Deep.choose_lt ByteArray ⟨⟨#[]⟩⟩ len _ each
    refine ⟨(List.range len).map X, by rw [List.length_map, List.length_range], hl, by omega, fun s hs => ?_, some a, cap, by rw [List.length_map, List.length_range], fun i x hx => ?_⟩
    · obtain ⟨i, hi, rfl⟩ := List.mem_map.1 hs
      exact (hX i (List.mem_range.1 hi)).2
    · have hi : i < len := by have := (List.getElem?_eq_some_iff.1 hx).1; rw [List.length_map, List.length_range] at this; exact this
      have hxx : X i = x := by
        rw [List.getElem?_map, List.getElem?_range hi] at hx
        simpa using hx
      have hcl := (hX i hi).1
      have hsp : a.spot = none := by
        have hz := (hX 0 (by omega)).1
        rw [show a.add 0 = a by unfold Addr.add; simp] at hz
        exact spot_none9 hz
      obtain ⟨g, o, sp⟩ := a
      simp only at hsp
      subst hsp
      refine ⟨g, o, rfl, ?_⟩
      rw [← hxx]
      rw [Addr.add_lit] at hcl
      exact hcl
end
theorem forms_list : (Rows.laid_eiderdown_desk_forms : DataW Unit) = .slice (Dsk.frms.map frmD) [] := by kernel_rfl
theorem frmD_inj {f g : Dsk.Frm} (h : (frmD f : DataW Unit) = frmD g) : f = g := by
  obtain ⟨⟨a⟩, ⟨b⟩, c⟩ := f
  obtain ⟨⟨a'⟩, ⟨b'⟩, c'⟩ := g
  unfold frmD at h
  simp only [DataW.agg.injEq, List.cons.injEq, DataW.lit.injEq, Lit.string.injEq, Lit.int.injEq, true_and, and_true] at h
  obtain ⟨h1, h2, h3⟩ := h
  rw [show a = a' from Array.toList_inj.1 h1, show b = b' from Array.toList_inj.1 h2, h3]
set_option maxRecDepth 100000 in
/-- what the list of laid variables gives -/
theorem tables6 {W : World} (h0 : laidMetH Tryz.prog laid6 W) : Tabs W := by
  have h : laidMet Tryz.prog laid6 W := h0
  obtain ⟨ps, ⟨g0, t0, cs0, f0, p0, q0, hg0, ht0, hv0, hd0, ⟨g1, t1, cs1, f1, p1, q1, hg1, ht1, hv1, hd1, ⟨g2, t2, cs2, f2, p2, q2, hg2, ht2, hv2, hd2, ⟨g3, t3, cs3, f3, p3, q3, hg3, ht3, hv3, hd3, ⟨g4, t4, cs4, f4, p4, q4, hg4, ht4, hv4, hd4, ⟨g5, t5, cs5, f5, p5, q5, hg5, ht5, hv5, hd5, _, _⟩, _⟩, _⟩, _⟩, _⟩, _⟩, _⟩ := h
  refine ⟨?_, ?_, ?_, ?_⟩
  · obtain rfl := Option.some.inj (tab_name.symm.trans hg2)
    obtain rfl := Option.some.inj (tab_type.symm.trans ht2)
    have e : (Rows.laid_internal_strconv_uint64pow10 : DataW Unit) = Lib.tabData .u64 Lib.pow10Tab := by kernel_rfl
    rw [e] at hd2
    unfold Tab Lib.TabIs
    rw [hv2, ← Lib.cells_of_tab Tryz.underlying251 Tryz.underlying214 tab_cell tab_cells hd2]
  · obtain rfl := Option.some.inj (frm_name.symm.trans hg5)
    obtain rfl := Option.some.inj (frm_type.symm.trans ht5)
    rw [forms_list] at hd5
    rcases Go.Deep.open_slice Tryz.underlying116 hd5 with ⟨_, hx⟩ | ⟨a, len, cap, m, n, D, Pl, hc, _, hl, hm, hmm, hx, he⟩
    · cases hx
    simp only [Prod.mk.injEq, DataW.slice.injEq] at hx
    obtain ⟨⟨hD, _⟩, _⟩ := hx
    have hlen : len = 16 := by
      have := congrArg List.length hD
      rw [List.length_map, List.length_map, List.length_range, frms_len] at this
      exact this.symm
    subst hlen
    have hlm : 16 ≤ m := by rw [hmm]; split <;> omega
    have each : ∀ k f, Dsk.frms[k]? = some f → ∀ j u, (frmA f)[j]? = some u → W.cell? ((a.add (k * 3)).add j) = some u := fun k f hf j u hu => by
      have hk : k < 16 := (List.getElem?_eq_some_iff.1 hf).1
      have hDk : frmD f = D k := by
        have := congrArg (fun l => l[k]?) hD
        simp only [List.getElem?_map, hf, List.getElem?_range hk, Option.map_some] at this
        exact Option.some.inj this
      obtain ⟨cs', h1, h2⟩ := he k (by omega)
      rw [frm_cells] at h1
      obtain ⟨_, hcl, hcc⟩ := World.cells?_some h1
      obtain ⟨f', ex, ed⟩ := open_form h2
      have hff : f = f' := frmD_inj (hDk.trans ed)
      subst hff
      have hj : j < 3 := (Array.getElem?_eq_some_iff.1 hu).1
      rw [hcc j hj, ex]
      simpa using hu
    have hz := each 0 _ rfl 0 _ rfl
    have hsp : a.spot = none := by
      have : (a.add (0 * 3)).add 0 = a := by unfold Addr.add; simp
      rw [this] at hz
      exact spot_none9 hz
    obtain ⟨g, o, sp⟩ := a
    simp only at hsp
    subst hsp
    refine ⟨g, o, cap, ?_, fun k f hf => ?_⟩
    · rw [var_cell frm_name hv5]
      have hc2 : cs5 = #[.slice (some ⟨g, o, none⟩) 16 cap] := Array.toList_inj.1 hc
      rw [hc2]; rfl
    · have h0 := each k f hf 0 _ rfl
      have h1 := each k f hf 1 _ rfl
      have h2 := each k f hf 2 _ rfl
      rw [Addr.add_lit, Addr.add_lit] at h0 h1 h2
      exact ⟨h0, h1, h2⟩
  · obtain rfl := Option.some.inj (syn_name.symm.trans hg4)
    obtain rfl := Option.some.inj (syn_type.symm.trans ht4)
    obtain ⟨_, u, v, hc, _⟩ := iface_of_trod Tryz.underlying121 (show DataW.trod _ Tryz.prog W 0 _ false f4 121 cs4.toList = some (.iface _ _, p4) from hd4)
    refine ⟨_, ?_, .inr ⟨u, v, rfl⟩⟩
    rw [var_cell syn_name hv4, show cs4 = #[.iface u v] from Array.toList_inj.1 hc]; rfl
  · obtain rfl := Option.some.inj (rng_name.symm.trans hg3)
    obtain rfl := Option.some.inj (rng_type.symm.trans ht3)
    obtain ⟨_, u, v, hc, _⟩ := iface_of_trod Tryz.underlying121 (show DataW.trod _ Tryz.prog W 0 _ false f3 121 cs3.toList = some (.iface _ _, p3) from hd3)
    refine ⟨_, ?_, .inr ⟨u, v, rfl⟩⟩
    rw [var_cell rng_name hv3, show cs3 = #[.iface u v] from Array.toList_inj.1 hc]; rfl
theorem laid_met6 (os : Os) (args : Array Value) : laidMet Tryz.prog laid6 ((World.laidAll Tryz.prog os laid6).forCall (fun _ _ => 0) ⟨#[], args, []⟩).memory := laidMet_laidAll args (by kernel_rfl) (by kernel_rfl)
end Go.Proofs.YtfpfpnhpbnnmfadGreatDoor
namespace Go.Proofs.YtfpfpnhpbnnmfadGreatDoor
open Go.ChangeShapes Go.WideShapes Go.ChangeAt Go.RowKit
set_option maxRecDepth 100000 in
theorem deskJoins_contract (H : Type) (enc : TypeId × Value → H) (W : World) (base : Nat) (args : Array Value) (ds gs : List (DataW H)) (before : List MemPlace)
    (hval : ∀ (j : Nat) t v, Tryz.f4.params[j]? = some t → args[j]? = some v → Value.okWide Tryz.prog W .any base t v)
    (hW : DataW.Whole enc Tryz.prog Tryz.f4.params.toList Rows.deskJoinsSpec.vars false W args.toList ds gs before)
    (hsz : (DataW.weightsEach Tryz.prog (Tryz.f4.params.toList ++ Rows.deskJoinsSpec.plain.varTypes Tryz.prog) (ds ++ gs)).all (· ≤ reachBytes) = true)
    (hL : laidMetH Tryz.prog laid6 W) :
    Calls Tryz.prog 4 args W fun e W' => ∃ v, e = .returned v ∧ Rows.deskJoinsSpec.post enc Tryz.prog Tryz.f4 false true false false W args v W' := by
  have hW' := hW
  obtain ⟨p, q, hA0, hV, rfl, _, _⟩ := hW
  have hA : DataW.TrodAll enc Tryz.prog W 0 (fun _ => true) true Tryz.f4.params.toList args.toList ds p := hA0
  rw [Tryz.params4] at hA hval hsz
  obtain ⟨v0, v1, d0, d1, p0, p1, rfl, rfl, rfl, h0, h1⟩ := trodAll_two hA
  obtain ⟨rfl, rfl⟩ := trodVars_none hV
  obtain ⟨a0, len, cap, rfl⟩ := okWide_slice Tryz.underlying22 (hval 0 22 v0 rfl rfl)
  have lt0 : ∀ y ∈ p0, y.block < W.heap.size := by obtain ⟨n, hn⟩ := h0; exact DataW.trod_lt n _ _ _ hn
  obtain ⟨z, rfl, rfl, rfl, hz⟩ := open_int Tryz.underlying3 (hval 1 3 v1 rfl rfl) h1
  have w0 : ∀ n ∈ d0.weights Tryz.prog 22, n ≤ reachBytes := fun n hn => by
    simpa using List.all_eq_true.1 hsz _ (DataW.weights_mem_each (j := 0) (t := 22) (d := d0) rfl rfl n hn)
  obtain ⟨L, rfl, hc, hm, hs, hv⟩ := open_lines h0 w0
  clear hA0
  refine (deskJoins_any L hm hs a0 cap hc z W hv (tables6 hL)).mono fun e W' ⟨he, bel⟩ => ?_
  subst he
  exact ⟨_, rfl, _, _, _, [], _, [], hW', trodAll_mk1 (shut_bool Tryz.underlying4 _), (trodAll_cons_mk (Below.trod TryJ.laidOut (by kernel_rfl) (of_decide_eq_true (by kernel_rfl)) h0 bel lt0) (trodAll_cons_mk (shut_int Tryz.underlying3 hz) trodAll_mk0)), rfl, bel.frame _, fun h => by cases h⟩
theorem deskJoins_reads (os : Os) {H : Type} (enc : TypeId × Value → H) : ∃ places, DataW.whole enc Tryz.prog ((World.laidAll Tryz.prog os laid6).forCall (fun _ _ => 0) ⟨#[], #[.slice none 0 0, .int .i64 0], []⟩).memory Tryz.f4.params.toList Rows.deskJoinsSpec.vars false #[Value.slice none 0 0, .int .i64 0].toList 8 = some ([.nil, .lit (.int .i64 0)], [], places) :=
  ⟨[], by kernel_rfl⟩
set_option maxRecDepth 100000 in
theorem deskJoins_lifted (os : Os) (started : os.Started) (H : Type) (enc : TypeId × Value → H) (F : Stop.Interp) :
    ReturnsInHanded {} Tryz.checked os 4 .any ((OpenSpec.ofChange Rows.deskJoinsSpec).preRow enc Tryz.prog Tryz.f4 Rows.deskJoinsRow.domain false Rows.deskJoinsRow.laid) (((OpenSpec.ofChange Rows.deskJoinsSpec).at F).post enc Tryz.prog Tryz.f4 false true false false) := by
  obtain ⟨places, hx⟩ := deskJoins_reads os enc
  refine returnsInHanded_of_row (C := Tryz.checked) (s := OpenSpec.ofChange Rows.deskJoinsSpec) TryJ.own started (by kernel_rfl) Tryz.func4
    (witness_row_atRef (enc := enc) (C := Tryz.checked) false (World.laidAll Tryz.prog os laid6) #[.slice none 0 0, .int .i64 0] (World.laidAll_os _ _ _) (by kernel_rfl) (by kernel_rfl) (by kernel_rfl)
      (OpenSpec.preRow_of_cond 8 hx (by kernel_rfl) (fun k hk => by cases hk) (by kernel_rfl) (laid_met6 os _))) ?_
  intro W base args ds gs before hval hW _ _ hsz hL _ _
  exact deskJoins_contract H enc W base args ds gs before hval hW hsz hL
theorem deskJoins_said : Rows.DeskJoinsSaid :=
  OpenClaim.holds_of_cond 4 Tryz.f4 rfl rfl rfl rfl rfl rfl rfl ⟨rfl, rfl, rfl, rfl, rfl⟩ rfl rfl rfl rfl rfl (by kernel_rfl) Tryz.func4 (by kernel_rfl)
    (of_decide_eq_true (by kernel_rfl)) (by unfold Func.isWrapper; first | (rw [if_pos (by decide +kernel)]; kernel_rfl) | (rw [if_neg (by decide +kernel)]; exact ⟨rfl, rfl⟩))
    (fun os started H enc _ F => by rw [OpenClaim.pre_eq_preRow]; exact deskJoins_lifted os started H enc F)
theorem deskJoins_plain (f : FuncId) (fn : Func) (hf : Tryz.pinned.checked.prog.funcNamed Rows.deskJoinsRow.func = some f) (hfn : Tryz.pinned.checked.prog.funcs[f]? = some fn) :
    true = Tryz.pinned.checked.prog.looks [] ∧ ∀ (j : Nat) t, fn.params[j]? = some t → Tryz.pinned.checked.prog.wantsStandIn t = false := by
  obtain rfl : f = 4 := Option.some.inj ((show Tryz.prog.funcNamed Rows.deskJoinsRow.func = some 4 by kernel_rfl).symm.trans hf) |>.symm
  obtain rfl : fn = Tryz.f4 := (Option.some.inj (Tryz.func4.symm.trans hfn)).symm
  refine ⟨by kernel_rfl, fun j t ht => ?_⟩
  rw [Tryz.params4] at ht
  have hm := Array.mem_of_getElem? ht
  have h2 : t = 22 ∨ t = 3 := by simpa using hm
  rcases h2 with rfl | rfl
  · exact (show Tryz.prog.wantsStandIn 22 = false by kernel_rfl)
  · exact (show Tryz.prog.wantsStandIn 3 = false by kernel_rfl)
theorem deskJoins_card : Rows.DeskJoinsCardSaid :=
  Claim7.holds_tied_plain_at .later [] _ _ _ _ deskJoins_said (fun _ h => by cases h) (by kernel_rfl) (fun _ h => by cases h) deskJoins_row_tie rfl ⟨rfl, rfl⟩ (by kernel_rfl) rfl deskJoins_plain (by kernel_rfl)
#print axioms deskJoins_card
end Go.Proofs.YtfpfpnhpbnnmfadGreatDoor
