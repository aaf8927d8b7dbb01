/-
  The walks of package desk: New, the first line with a newline, Do.
-/
import Derived.Test.YtfpfpnhpbnnmfadGreatDoorXbv
set_option linter.unusedVariables false
namespace Go.Proofs.YtfpfpnhpbnnmfadGreatDoor
open Go.RowKit
open Idl (Stp chk stpA strs)
namespace Dsk
def hasNl (s : ByteArray) : Bool := decide (0 ≤ Lib.indexByte s.data.toList 10)
/-- the first line with a newline in it; -1: there is none -/
def torn (L : List ByteArray) : Int := Img.firstI (fun i => hasNl (L.getD i ⟨#[]⟩)) L.length
theorem spans_len (p : Nat → Bool) (s : ByteArray) : ∀ (f pos : Nat) (st : Option Nat) (acc : List (Nat × Nat)), (Lib.spansFromP p s f pos st acc).1.length ≤ acc.length + f
  | 0, _, _, _ => Nat.le_refl _
  | f + 1, pos, st, acc => by
    unfold Lib.spansFromP
    repeat' split
    all_goals first
      | (refine Nat.le_trans (spans_len p s f _ _ _) ?_; rw [List.length_append, List.length_singleton]; omega)
      | (refine Nat.le_trans (spans_len p s f _ _ _) ?_; omega)
      | (show acc.length ≤ _; omega)
theorem words_few (s : ByteArray) : (words s).length ≤ s.size + 1 := by
  unfold words Lib.goFieldsP Lib.spansOfP Lib.closeSpans
  rw [List.length_map]
  have h := spans_len (fun r => r == 32) s s.size 0 none []
  rw [List.length_nil, Nat.zero_add] at h
  split
  · rw [List.length_append, List.length_singleton]; omega
  · omega
theorem words_short (s : ByteArray) : ∀ x ∈ words s, x.size ≤ s.size := fun x hx => by
  unfold words Lib.goFieldsP at hx
  obtain ⟨y, _, rfl⟩ := List.mem_map.1 hx
  rw [ByteArray.size_extract]
  omega
/-- states along lines -/
structure Path (L : List ByteArray) (P : Nat → Lv) (m : Nat) : Prop where
  few : m + L.length ≤ 1000000
  ok : ∀ k, k ≤ L.length → (P k).Ok (m + k)
  neat : ∀ k, k ≤ L.length → (P k).Neat
  step : ∀ (k : Nat) s, L[k]? = some s → ∀ (w : World) (bl bf bc : Nat) (W : World), Lo w bl bf bc (next (P k) (words s)) W → Lo w bl bf bc (P (k + 1)) W
def pathTell (L : List ByteArray) (P : Nat → Lv) : Nat → List UInt8
  | 0 => []
  | k + 1 => pathTell L P k ++ told (P k) (words (L.getD k ⟨#[]⟩))
end Dsk
section
variable {S : Lv}
theorem yes_len (b : Bool) : (Dsk.yes b).length ≤ 5 := by cases b <;> decide
theorem told_len {n : Nat} (hO : S.Ok n) (hn : n ≤ 1000000) (hN : S.Neat) (ws : List ByteArray) : (Dsk.told S ws).length ≤ 16000000 := by
  have one : ∀ x : List UInt8, x.length ≤ 1000 → (Txt.line [x]).length ≤ 16000000 := fun x hx => by
    have := line_len x [] 0 (fun y hy => by cases hy)
    simp only [List.length_nil] at this
    omega
  have two : ∀ (x y : List UInt8), x.length ≤ 1000 → y.length ≤ 1000 → (Txt.line [x, y]).length ≤ 16000000 := fun x y hx hy => by
    have := line_len x [y] 1000 (fun z hz => by rw [List.mem_singleton.1 hz]; exact hy)
    simp only [List.length_singleton] at this
    omega
  have io : ∀ z : Int, 0 ≤ z → z ≤ 1000000 → (Lib.itoa z).length ≤ 21 := fun z h0 h1 => itoa_len ⟨by omega, by omega⟩
  have rd : ∀ x : Stp, (Dsk.ansRead S x).length ≤ 16000000 := fun x => by
    have hc := read_range S x
    have ht := read_short S x hN.now.text hO.hold.good.ex.ok
    have hs := (Txt.showR_len (Img.sreadT S.now x.dir x.name x.p).toList).2
    rw [len_bytes] at hs
    unfold Dsk.ansRead
    split
    · exact two _ _ (by decide) (by have := io (Img.sreadC S.now x.dir x.name x.p) (by omega) (by omega); omega)
    · split
      · exact one _ (by decide)
      · exact one _ (by show (Txt.showR _).length + 1 ≤ _; omega)
  unfold Dsk.told
  split
  · exact Nat.zero_le _
  · split
    · exact one _ (by decide)
    · rename_i x _
      split
      · unfold Dsk.ansStep
        have hc := code_range S x
        split
        · exact two _ _ (by decide) (by have := io (S.code x) (by omega) (by omega); omega)
        · exact one _ (by decide)
      · unfold Dsk.ansAsk
        repeat' split
        · exact rd x
        · have h := names_len hO.hold.good.ex.ok x.dir
          have := line_len Dsk.wNames ((Img.snames S.now x.dir).map (·.toList)) 6 (fun y hy => by obtain ⟨z, hz, rfl⟩ := List.mem_map.1 hy; exact h.2 z hz)
          rw [List.length_map, show Dsk.wNames.length = 5 from rfl] at this
          omega
        · exact one _ (by have := yes_len (Img.ssame S.now x.dir x.name x.toDir x.to); omega)
        · exact one _ (by have := yes_len (Img.ssure S.now S.disk x.dir x.name); omega)
        · have := printed_le (Lv.fine hN hO hn)
          have h2 : (Txt.line [Dsk.wEnd]).length = 4 := rfl
          rw [List.length_append]; omega
        · have h := dirty_len S 14
          have := line_len Dsk.wDirty ((Dsk.dirtyTo S 14).map Lib.itoa) 21 (fun y hy => by obtain ⟨z, hz, rfl⟩ := List.mem_map.1 hy; have := h.2 z hz; exact io z (by omega) (by omega))
          rw [List.length_map, show Dsk.wDirty.length = 5 from rfl] at this
          omega
        · have h0 := hO.cr0
          have h1 := hO.crn
          have h2 := hN.lf
          have h3 := hN.lc
          have h4 := hN.ld
          have := line_len Dsk.wLost ([S.cr, S.lf, S.lc, S.ld].map Lib.itoa) 21 (fun y hy => by
            obtain ⟨z, hz, rfl⟩ := List.mem_map.1 hy
            simp only [List.mem_cons, List.not_mem_nil, or_false] at hz
            rcases hz with rfl | rfl | rfl | rfl <;> exact io _ (by omega) (by omega))
          rw [List.length_map, show Dsk.wLost.length = 4 from rfl, show [S.cr, S.lf, S.lc, S.ld].length = 4 from rfl] at this
          omega
        · exact Nat.zero_le _
end
theorem Dsk.Path.len {L : List ByteArray} {P : Nat → Lv} {m : Nat} (h : Dsk.Path L P m) : ∀ k, k ≤ L.length → (Dsk.pathTell L P k).length ≤ k * 16000000
  | 0, _ => Nat.le_refl _
  | k + 1, hk => by
    have ih := h.len k (by omega)
    have := told_len (h.ok k (by omega)) (by have := h.few; omega) (h.neat k (by omega)) (Dsk.words (L.getD k ⟨#[]⟩))
    show (Dsk.pathTell L P k ++ Dsk.told (P k) (Dsk.words (L.getD k ⟨#[]⟩))).length ≤ _
    rw [List.length_append]
    omega
section
variable {w W W' : World} {B bd bl bf bc : Nat} {S : Lv} {l : List UInt8}
set_option maxHeartbeats 1000000 in
set_option maxRecDepth 100000 in
theorem dNew_any (w : World) {W : World} (hb : Below w.heap.size w W) : Calls Tryz.prog 7 #[] W fun e w' => ∃ bd bl bf bc, e = .returned (.pointer (some ⟨bd, 0, none⟩)) ∧ W.heap.size ≤ bd ∧ W.heap.size ≤ bl ∧ W.heap.size ≤ bf ∧ W.heap.size ≤ bc ∧ Dk w w.heap.size bd bl bf bc Lv.new [] w' ∧ Below W.heap.size W w' := by
  have hF := hide (lNew_any w hb)
  have hwW := hb.size
  go_enter Tryz.func7, Tryz.ntmps7
  go_wp2_with fail
  refine (unhide hF).mono ?_
  rintro e w1 ⟨bl, bf, bc, rfl, h1, h2, h3, h4, b1⟩
  have F1 := hide h4
  have B1 := hide b1
  clear h4 b1 hF
  go_wp2_with fail
  go_ret
  have ba : Below w1.heap.size w1 (w1.alloc (.cells #[.pointer none, .slice none 0 0, .pointer (some ⟨bl, 0, none⟩)] 46)) := (Below.refl _ w1).alloc (Nat.le_refl _) _
  exact ⟨w1.heap.size, bl, bf, bc, rfl, (unhide B1).size, h1, h2, h3, ⟨(unhide F1).call ba, ⟨_, _, .inl rfl, heap_alloc_last _ _, World.ownsRow_nil _ _ _ _, fun _ => rfl⟩, Nat.le_trans hwW (unhide B1).size, Nat.le_refl _, Nat.le_trans (unhide F1).bel.size ba.size⟩, (unhide B1).trans (ba.mono (unhide B1).size)⟩
theorem nl_any (s : ByteArray) (w : World) : Calls Tryz.prog 15 #[.string s] w fun e w' => e = .returned (.bool (Dsk.hasNl s)) ∧ w' = w := by
  have D := contains_any s 10 w
  unfold Dsk.hasNl
  generalize decide (0 ≤ Lib.indexByte s.data.toList 10) = b at *
  go_enter Tryz.func15, Tryz.ntmps15
  go_wp2_with (go_at_call 16; refine D.mono ?_; rintro e w0 ⟨rfl, e9⟩; rw [e9]; clear e9 w0 D)
  go_ret
  exact ⟨rfl, rfl⟩
set_option maxHeartbeats 1000000 in
set_option maxRecDepth 100000 in
theorem torn_any (L : List ByteArray) (hL : L.length ≤ 1000) (v : Value) (W : World) (hv : Wds W v L) :
    Calls Tryz.prog 14 #[v, .func (.func 15) #[] #[]] W fun e w' => e = .returned (.int .i64 (Dsk.torn L)) ∧ w' = W := by
  obtain ⟨a, c, rfl, hc⟩ := hv
  have HC := hide hc
  have eg : ∀ args w, (callFunc 15 args).run Tryz.prog w = .ok (.enter 15 args) w := enters_of Tryz.func15 (by kernel_rfl) rfl
  clear hc
  go_enter Tryz.func14, Tryz.ntmps14
  go_wp2_with fail
  go_loop [8] (fun s => ∃ i : Nat, i ≤ L.length ∧ s = .int .i64 i ∧ Hid (∀ j, j < i → Dsk.hasNl (L.getD j ⟨#[]⟩) = false)) (fun s => L.length - (intOf s).toNat)
  case atStart => exact ⟨0, Nat.zero_le _, rfl, hide fun j h => by omega⟩
  case round =>
    obtain ⟨i, hi, rfl, N1⟩ := hrel
    by_cases hlt : i < L.length
    case pos =>
      have hz : (i : Int) < (L.length : Int) := by omega
      obtain ⟨x, hx⟩ : ∃ x, L[i]? = some x := ⟨_, List.getElem?_eq_getElem hlt⟩
      obtain ⟨g, o, rfl, hcl⟩ := unhide HC i x hx
      have D := nl_any x W
      have XD := hide (show L.getD i ⟨#[]⟩ = x by rw [List.getD_eq_getElem?_getD, hx]; rfl)
      cases hb : Dsk.hasNl x
      case true =>
        rw [hb] at D
        have E := hide (show Dsk.torn L = (i : Int) from Img.firstI_at (by show Dsk.hasNl (L.getD i ⟨#[]⟩) = true; rw [unhide XD]; exact hb) (unhide N1) hlt)
        clear hb
        go_wp2_with (go_at_fn 15; refine D.mono ?_; rintro e w0 ⟨rfl, e9⟩; rw [e9]; clear e9 w0 D)
        go_ret
        exact ⟨by rw [unhide E]; rfl, rfl⟩
      case false =>
        rw [hb] at D
        have NN := hide (show ∀ j, j < i + 1 → Dsk.hasNl (L.getD j ⟨#[]⟩) = false from fun j hj => by
          by_cases e : j = i
          · subst e; rw [unhide XD]; exact hb
          · exact unhide N1 j (by omega))
        clear hb
        go_wp2_with (go_at_fn 15; refine D.mono ?_; rintro e w0 ⟨rfl, e9⟩; rw [e9]; clear e9 w0 D)
        go_round
        case rel => exact ⟨i + 1, by omega, by go_num, NN⟩
        case measure => simp [intOf]; omega
    case neg =>
      have hz : ¬ (i : Int) < (L.length : Int) := by omega
      obtain rfl : i = L.length := by omega
      have E := hide (show Dsk.torn L = -1 from Img.firstI_none (unhide N1))
      go_wp2_with fail
      go_ret
      exact ⟨by rw [unhide E]; rfl, rfl⟩
end
end Go.Proofs.YtfpfpnhpbnnmfadGreatDoor
set_option linter.unusedVariables false
namespace Go.Proofs.YtfpfpnhpbnnmfadGreatDoor
open Go.RowKit
open Idl (Stp chk stpA strs)
theorem results_tmp_cell {fn : Func} {p u : Tmp} {ty : TypeId} (h : fn.results = #[.tmp u, .cell p ty]) (tmps : Array Value) (P : Program) (w : World) :
    (results fn tmps).run P w = ((asAddr (tmps.getD p undef)).run P w).andThen fun a w₁ => ((loadVar ty a).run P w₁).andThen fun v w₂ => .ok (.tuple #[tmps.getD u undef, v]) w₂ := by
  simp only [results, h]
  simp [Sem.run_bind, Result.andThen]
theorem results_tmp_row {P : Program} {fn : Func} {p u : Tmp} {ty : TypeId} (h : fn.results = #[.tmp u, .cell p ty]) (tmps : Array Value) (w : World) (g : Nat) (t : TypeId) (cs : Array Value) (fr : Nat × Nat) (d : TypeDesc) (v : Value)
    (hp : tmps.getD p undef = .pointer (some ⟨g, 0, none⟩)) (hv : tmps.getD u undef = v) (hg : w.heap[g]? = some (.cells cs t fr))
    (hu : P.underlying ty = some d) (hd : (match d with | .struct _ | .array _ _ => true | _ => false) = true) (hi : (P.info? ty).map (·.size) = some cs.size) :
    (results fn tmps).run P w = .ok (.tuple #[v, .agg cs]) w := by
  rw [results_tmp_cell h, hp, hv]
  simp [asAddr, run_loadVar_row w g t ty cs fr d hg hu hd hi]
theorem flt_under : Tryz.prog.underlying 31 = some (.struct (Tryz.prog.fieldsOf 31)) := by kernel_rfl
theorem flt_info : (Tryz.prog.info? 31).map (·.size) = some 2 := by kernel_rfl
def fltA (c a : Int) : Array Value := #[.int .i64 c, .int .i64 a]
/-- lines that a desk is handed: they lie apart from it -/
def Lns (bd bl bf bc : Nat) (W : World) (v : Value) (L : List ByteArray) : Prop := ∃ a c, v = .slice a L.length c ∧ ∀ (i : Nat) x, L[i]? = some x → ∃ g o, a = some ⟨g, o, none⟩ ∧ (g ≠ bd ∧ g ≠ bl ∧ g ≠ bf ∧ g ≠ bc) ∧ W.cell? ⟨g, o + i, none⟩ = some (.string x)
theorem Lns.wds {bd bl bf bc : Nat} {W : World} {v : Value} {L : List ByteArray} (h : Lns bd bl bf bc W v L) : Wds W v L := by
  obtain ⟨a, c, e, h⟩ := h
  exact ⟨a, c, e, fun i x hx => by obtain ⟨g, o, e1, _, e2⟩ := h i x hx; exact ⟨g, o, e1, e2⟩⟩
/-- a Do: it leaves all but the desk's own -/
structure Dd (bd bl bf bc bf' bc' : Nat) (W W' : World) : Prop where
  size : W.heap.size ≤ W'.heap.size
  old : ∀ j, j < W.heap.size → j ≠ bd → j ≠ bl → j ≠ bf → j ≠ bc → W'.heap[j]? = W.heap[j]?
  new : (bf' = bf ∧ bc' = bc) ∨ (W.heap.size ≤ bf' ∧ W.heap.size ≤ bc')
theorem De.dd {bd bl bf bc bf' bc' : Nat} {W W' : World} (h : De W.heap.size bd bl bf bc bf' bc' W W') : Dd bd bl bf bc bf' bc' W W' := ⟨h.size, fun j hj h1 h2 h3 h4 => h.old j hj h1 h2 h3 h4 (.inl hj), h.new⟩
section
variable {w W W' : World} {B bd bl bf bc : Nat} {S : Lv} {l : List UInt8}
theorem setRow_same {g : Nat} {cs : Array Value} {t : TypeId} (h : W.heap[g]? = some (.cells cs t)) : Below W.heap.size W (W.setRow g cs) := by
  have b := below_setRow (Below.refl W.heap.size W) (g := W.heap.size) (Nat.le_refl _) cs
  have e := setRow_heap W g cs cs t (0, 0) h
  refine ⟨rfl, rfl, rfl, by simp [World.setRow], fun j hj => ?_⟩
  by_cases c : j = g
  · subst c; rw [e, h]
  · exact setRow_other _ _ _ _ c
theorem all2 (a b : Int) : (#[.int .i64 a, .int .i64 b] : Array Value).all (·.oneCell') = true := by kernel_rfl
set_option maxHeartbeats 1000000 in
set_option maxRecDepth 100000 in
/-- more lines than there may be -/
theorem do_many (h : Dk w B bd bl bf bc S [] W) (L : List ByteArray) (hL : 150 < L.length) (hL2 : L.length ≤ maxLen) (v : Value) (hv : ∃ a c, v = .slice a L.length c) :
    Calls Tryz.prog 9 #[.pointer (some ⟨bd, 0, none⟩), v] W fun e w' => e = .returned (.tuple #[.string ⟨#[]⟩, .agg (fltA 14 (-1))]) ∧ Below W.heap.size W w' := by
  obtain ⟨a, c, rfl⟩ := hv
  have hz : decide ((150 : Int) < (L.length : Int)) = true := by simp; omega
  have r0 : (W.alloc (.cells #[.int .i64 0, .int .i64 0] 31)).heap[W.heap.size]? = some (.cells #[.int .i64 0, .int .i64 0] 31) := heap_alloc_last _ _
  have R0 := hide r0
  have B0 := hide (show Below W.heap.size W (W.alloc (.cells #[.int .i64 0, .int .i64 0] 31)) from (Below.refl _ W).alloc (Nat.le_refl _) _)
  clear h r0
  unfold fltA
  go_enter Tryz.func9, Tryz.ntmps9
  go_wp2_with (have hx := unhide R0; refine wpList_store_row rfl 31 _ _ rfl W.heap.size #[.int .i64 14, .int .i64 (-1)] rfl rfl 31 _ hx flt_info rfl (all2 14 (-1)) ?_; clear hx)
  refine bodyPost_ret (v := .tuple #[.string ⟨#[]⟩, .agg #[.int .i64 14, .int .i64 (-1)]]) ?_ rfl ⟨rfl, below_setRow (unhide B0) (Nat.le_refl _) _⟩
  exact results_tmp_row (P := Tryz.prog) Tryz.results9 _ _ W.heap.size 31 _ (0, 0) _ _ rfl rfl (setRow_heap _ _ _ _ _ _ (unhide R0)) flt_under rfl flt_info
set_option maxHeartbeats 1000000 in
set_option maxRecDepth 100000 in
/-- a line with a newline in it -/
theorem do_torn (h : Dk w B bd bl bf bc S [] W) (L : List ByteArray) (hL : L.length ≤ 150) (ht : 0 ≤ Dsk.torn L) (v : Value) (hv : Wds W v L) :
    Calls Tryz.prog 9 #[.pointer (some ⟨bd, 0, none⟩), v] W fun e w' => e = .returned (.tuple #[.string ⟨#[]⟩, .agg (fltA 15 (Dsk.torn L))]) ∧ Below W.heap.size W w' := by
  have r0 : (W.alloc (.cells #[.int .i64 0, .int .i64 0] 31)).heap[W.heap.size]? = some (.cells #[.int .i64 0, .int .i64 0] 31) := heap_alloc_last _ _
  have R0 := hide r0
  have b0 : Below W.heap.size W (W.alloc (.cells #[.int .i64 0, .int .i64 0] 31)) := (Below.refl _ W).alloc (Nat.le_refl _) _
  have B0 := hide b0
  have T := hide (torn_any L (by omega) v _ (hv.below b0))
  obtain ⟨a, c, rfl, _⟩ := hv
  generalize Dsk.torn L = tn at *
  have hz : decide ((150 : Int) < (L.length : Int)) = false := by simp; omega
  have hz2 : decide (0 ≤ tn) = true := by simpa using ht
  clear h r0 b0 ht
  unfold fltA
  go_enter Tryz.func9, Tryz.ntmps9
  go_wp2_with fail
  refine (unhide T).mono ?_
  rintro e w1 ⟨rfl, e9⟩
  rw [e9]
  clear e9 w1 T
  go_wp2_with (have hx := unhide R0; refine wpList_store_row rfl 31 _ _ rfl W.heap.size #[.int .i64 15, .int .i64 tn] rfl rfl 31 _ hx flt_info rfl (all2 15 tn) ?_; clear hx)
  refine bodyPost_ret (v := .tuple #[.string ⟨#[]⟩, .agg #[.int .i64 15, .int .i64 tn]]) ?_ rfl ⟨rfl, below_setRow (unhide B0) (Nat.le_refl _) _⟩
  exact results_tmp_row (P := Tryz.prog) Tryz.results9 _ _ W.heap.size 31 _ (0, 0) _ _ rfl rfl (setRow_heap _ _ _ _ _ _ (unhide R0)) flt_under rfl flt_info
set_option maxHeartbeats 4000000 in
set_option maxRecDepth 100000 in
/-- lines that may be -/
theorem do_fine (h : Dk w B bd bl bf bc S [] W) (tb : Tabs w) (L : List ByteArray) (hL : L.length ≤ 150) (hs : ∀ s ∈ L, s.size ≤ 50000) (ht : Dsk.torn L < 0) (P : Nat → Lv) (m : Nat) (hP : Dsk.Path L P m) (h0 : P 0 = S) (v : Value) (hv : Lns bd bl bf bc W v L) :
    Calls Tryz.prog 9 #[.pointer (some ⟨bd, 0, none⟩), v] W fun e w' => e = .returned (.tuple #[.string ⟨(Dsk.pathTell L P L.length).toArray⟩, .agg (fltA 0 0)]) ∧ ∃ bf' bc', Dk w W.heap.size bd bl bf' bc' (P L.length) [] w' ∧ Dd bd bl bf bc bf' bc' W w' := by
  have r0 : (W.alloc (.cells #[.int .i64 0, .int .i64 0] 31)).heap[W.heap.size]? = some (.cells #[.int .i64 0, .int .i64 0] 31) := heap_alloc_last _ _
  have R0 := hide r0
  have b0 : Below W.heap.size W (W.alloc (.cells #[.int .i64 0, .int .i64 0] 31)) := (Below.refl _ W).alloc (Nat.le_refl _) _
  have H0 := hide (show Dk w W.heap.size bd bl bf bc (P 0) (Dsk.pathTell L P 0) (W.alloc (.cells #[.int .i64 0, .int .i64 0] 31)) by
    rw [h0]; exact (h.call b0).rebase h.lo.bel.size b0.size)
  have D0 := hide (show De W.heap.size bd bl bf bc bf bc W (W.alloc (.cells #[.int .i64 0, .int .i64 0] 31)) from De.of_below b0)
  have T := hide (torn_any L (by omega) v _ (hv.wds.below b0))
  have TB := hide tb
  have HP := hide hP
  have HS := hide hs
  obtain ⟨a, c, rfl, hc⟩ := hv
  have HC := hide hc
  generalize Dsk.torn L = tn at *
  have hz : decide ((150 : Int) < (L.length : Int)) = false := by simp; omega
  have hz2 : decide (0 ≤ tn) = false := by simp; omega
  clear h r0 b0 ht tb hP hs hc h0
  unfold fltA
  go_enter Tryz.func9, Tryz.ntmps9
  go_wp2_with fail
  refine (unhide T).mono ?_
  rintro e w1 ⟨rfl, e9⟩
  rw [e9]
  clear e9 w1 T
  go_wp2_with fail
  generalize W.alloc (.cells #[.int .i64 0, .int .i64 0] 31) = V0 at H0 D0 R0 ⊢
  go_loopw [22] (fun s wr => ∃ (k bf' bc' : Nat), k ≤ L.length ∧ s = .int .i64 k ∧ Hid (Dk w W.heap.size bd bl bf' bc' (P k) (Dsk.pathTell L P k) wr) ∧ Hid (De W.heap.size bd bl bf bc bf' bc' W wr) ∧ Hid (wr.heap[W.heap.size]? = some (.cells #[.int .i64 0, .int .i64 0] 31))) (fun s _ => L.length - (intOf s).toNat)
  case atStart => exact ⟨0, bf, bc, Nat.zero_le _, rfl, H0, D0, R0⟩
  case round =>
    clear H0 D0 R0
    obtain ⟨k, bf', bc', hk, rfl, H1, D1, R1⟩ := hrel
    by_cases hlt : k < L.length
    case pos =>
      have hzk : (k : Int) < (L.length : Int) := by omega
      obtain ⟨s, hs⟩ : ∃ s, L[k]? = some s := ⟨_, List.getElem?_eq_getElem hlt⟩
      obtain ⟨g, o, rfl, hg, hcl⟩ := unhide HC k s hs
      have hcW : wr.cell? ⟨g, o + k, none⟩ = some (.string s) := by
        have hl := Lib.lt_of_cell hcl
        have e := (unhide D1).old g hl hg.1 hg.2.1 hg.2.2.1 hg.2.2.2 (.inl hl)
        unfold World.cell? at hcl ⊢
        rw [show wr.heap[(⟨g, o + k, none⟩ : Addr).block]? = W.heap[(⟨g, o + k, none⟩ : Addr).block]? from e]
        exact hcl
      have hsz := unhide HS s (List.mem_of_getElem? hs)
      have F := hide (words_any s (by omega) wr)
      have E := hide (show Dsk.pathTell L P (k + 1) = Dsk.pathTell L P k ++ Dsk.told (P k) (Dsk.words s) by
        show Dsk.pathTell L P k ++ Dsk.told (P k) (Dsk.words (L.getD k ⟨#[]⟩)) = _
        rw [List.getD_eq_getElem?_getD, hs]; rfl)
      have ST := hide ((unhide HP).step k s hs)
      have LN := hide (show (Dsk.pathTell L P k).length + 20000000 ≤ 140737488355328 by have := (unhide HP).len k hk; omega)
      have LA := hide (fun (V : World) (B0 : Nat) (v : Value) (hv : Dk w W.heap.size bd bl bf' bc' (P k) (Dsk.pathTell L P k) V) (ho : V.ownsRow B0 9 1 v (Dsk.words s).length (strs (Dsk.words s))) => dLine_any hv ((unhide HP).ok k hk) (by have := (unhide HP).few; omega) ((unhide HP).neat k hk) (unhide TB) (unhide LN) (Dsk.words s) (fun x hx => by have := Dsk.words_short s x hx; omega) (by have := Dsk.words_few s; omega) v ho)
      clear hcl hg hs hsz LN
      generalize Dsk.words s = ws at *
      go_wp2_with fail
      refine (unhide F).mono ?_
      rintro e w2 ⟨A, rfl, hA, ho, b2⟩
      have H2 := hide ((unhide H1).call b2)
      have D2 := hide ((unhide D1).trans (De.of_below b2))
      have R2 := hide (show w2.heap[W.heap.size]? = some (.cells #[.int .i64 0, .int .i64 0] 31) by rw [b2.block _ (Array.getElem?_eq_some_iff.1 (unhide R1)).1]; exact unhide R1)
      have O := hide (unhide LA w2 _ _ (unhide H2) ho)
      clear F LA ho b2 hcW
      go_wp2_with fail
      refine (unhide O).mono ?_
      rintro e w3 ⟨rfl, bf3, bc3, h3, d3⟩
      have H3 := hide (show Dk w W.heap.size bd bl bf3 bc3 (P (k + 1)) (Dsk.pathTell L P (k + 1)) w3 by
        rw [unhide E]
        exact ⟨unhide ST _ _ _ _ _ h3.lo, h3.it, h3.d0, h3.w0, h3.b0⟩)
      have D3 := hide ((unhide D2).trans d3)
      have R3 := hide (show w3.heap[W.heap.size]? = some (.cells #[.int .i64 0, .int .i64 0] 31) by
        have r := unhide R2
        obtain ⟨ds, hd⟩ := (unhide H2).row
        have k1 := (unhide H2).lo
        obtain ⟨c1, c2, f⟩ := k1.fo.it
        rw [d3.old _ (Array.getElem?_eq_some_iff.1 r).1 (row_ne r hd (by decide)) (row_ne r k1.root (by decide)) (row_ne r f.root (by decide)) (row_ne r f.row (by decide)) (.inr (nb_of r (by decide)))]
        exact r)
      clear h3 d3 O H2 D2 R2 ST E
      go_wp2_with fail
      go_roundw
      case rel => exact ⟨k + 1, bf3, bc3, by omega, by go_num, H3, D3, R3⟩
      case measure => simp [intOf]; omega
    case neg =>
      have hzk : ¬ (k : Int) < (L.length : Int) := by omega
      obtain rfl : k = L.length := by omega
      have SA := hide (dString_any (unhide H1))
      go_wp2_with fail
      refine (unhide SA).mono ?_
      rintro e w2 ⟨rfl, f2, hb2⟩
      have F2 := hide f2
      have RA := hide (dReset_any (unhide H1) f2 hb2)
      clear SA f2 hb2
      go_wp2_with fail
      refine (unhide RA).mono ?_
      rintro e w3 ⟨rfl, h3, f3⟩
      have H3 := hide h3
      have D3 := hide ((unhide D1).trans (De.of_df f3))
      have R3 := hide (show w3.heap[W.heap.size]? = some (.cells #[.int .i64 0, .int .i64 0] 31) by
        have r := unhide R1
        obtain ⟨ds, hd⟩ := (unhide H1).row
        rw [f3.old _ (Array.getElem?_eq_some_iff.1 r).1 (row_ne r hd (by decide)) (.inr (nb_of r (by decide)))]
        exact r)
      clear h3 f3 RA
      go_wp2_with (have hx := unhide R3; refine wpList_store_row rfl 31 _ _ rfl W.heap.size #[.int .i64 0, .int .i64 0] rfl rfl 31 _ hx flt_info rfl (all2 0 0) ?_; clear hx)
      have BS : Below w3.heap.size w3 (w3.setRow W.heap.size #[.int .i64 0, .int .i64 0]) := setRow_same (unhide R3)
      refine bodyPost_ret (v := .tuple #[.string ⟨(Dsk.pathTell L P L.length).toArray⟩, .agg #[.int .i64 0, .int .i64 0]]) ?_ rfl ⟨rfl, bf', bc', (unhide H3).call BS, ((unhide D3).trans (De.of_below BS)).dd⟩
      exact results_tmp_row (P := Tryz.prog) Tryz.results9 _ _ W.heap.size 31 _ (0, 0) _ _ rfl rfl (setRow_heap _ _ _ _ _ _ (unhide R3)) flt_under rfl flt_info
end
end Go.Proofs.YtfpfpnhpbnnmfadGreatDoor
