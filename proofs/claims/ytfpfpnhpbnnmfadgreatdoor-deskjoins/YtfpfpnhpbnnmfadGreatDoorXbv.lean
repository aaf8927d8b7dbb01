/-
  The walks of package desk: line. (Written by genqk.py.)
-/
import Derived.Test.YtfpfpnhpbnnmfadGreatDoorXbs
import Derived.Test.YtfpfpnhpbnnmfadGreatDoorXbu
import Derived.Test.YtfpfpnhpbnnmfadGreatDoorXar
import Derived.Deep.DeepCutAuto
set_option linter.unusedVariables false
namespace Go.Proofs.YtfpfpnhpbnnmfadGreatDoor
open Go.RowKit
open Idl (Stp chk stpA strs)
section
variable {w W W' : World} {B bd bl bf bc : Nat} {S : Lv} {l : List UInt8}
theorem Op9.st_row {o : Oper} {a : Act} {K : Act → World → Prop} {Q : Exit → Act → World → Prop} {W : World} (ty : TypeId) (x y : Operand) (ho : o.op = .store ty x y) (hd : o.dst = none) {g : Nat} {cells old : Array Value} {t : TypeId} (hx : a.eval x = .pointer (some ⟨g, 0, none⟩)) (hy : a.eval y = .agg cells)
    (hg : W.heap[g]? = some (.cells old t)) (hi : (Tryz.prog.info? ty).map (·.size) = some cells.size) (hz : old.size = cells.size) (hall : cells.all (·.oneCell') = true) (h : K a (W.setRow g cells)) : Oper.wp Tryz.prog o a W K Q := by
  refine Op1.st_part ty x y ho hd hx hy hg hi (by omega) hall ?_
  have : splice old 0 cells = cells := by unfold splice; rw [← hz, Nat.zero_add, List.drop_eq_nil_of_le (by simp)]; simp
  rw [this]; exact h
theorem Op9.ix0 {o : Oper} {ρ : Operand → Value} (x : Operand) (ho : o.op = .indexAddr 22 x (.const (.int .i64 0))) {g n c : Nat} (hx : ρ x = .slice (some ⟨g, 0, none⟩) n c) (hy : ρ (.const (.int .i64 0)) = .int .i64 0) (hj : 0 < n) (w : World) : (execOp ρ o).run Tryz.prog w = .ok (.value (.pointer (some ⟨g, 0, none⟩))) w := by
  have jz : (0 : Int) < (n : Int) := by omega
  unfold execOp
  rw [ho]
  go_simp
theorem str_under9 : Tryz.prog.underlying 22 = some (.slice (Tryz.prog.elem 22)) := by kernel_rfl
theorem str_size9 : (Tryz.prog.info? (Tryz.prog.elem 22)).map (·.size) = some 1 := by kernel_rfl
theorem Op9.cut_hi {P : Program} {size : Nat} {o : Oper} {ρ : Operand → Value} (x y : Operand) (ty : TypeId) (ho : o.op = .slice ty x (some y) none none) {a : Option Addr} {m cap k : Nat} (hx : ρ x = .slice a m cap) (hy : ρ y = .int .i64 (k : Int)) (hk : k ≤ m)
    (hu : P.underlying ty = some (.slice (P.elem ty))) (hs : (P.info? (P.elem ty)).map (·.size) = some size) (w : World) : (execOp ρ o).run P w = .ok (.value (sliced a k m cap size)) w := by
  cases hq : P.info? (P.elem ty) with
  | none => rw [hq] at hs; cases hs
  | some q =>
    rw [hq] at hs
    have hs' : q.size = size := by simpa using hs
    have := run_slice_l (P := P) w ty a m cap hu .i64 (k : Int) (by omega) (by omega)
    unfold execOp
    simp [ho, hx, hy, run_sliceAt_slice, hu, this, sizeOf, typeInfo, hq, hs']
theorem Op9.cut1 {o : Oper} {ρ : Operand → Value} (x : Operand) (ho : o.op = .slice 22 x (some (.const (.int .i64 1))) none none) {a : Option Addr} {m cap : Nat} (hx : ρ x = .slice a m cap) (hy : ρ (.const (.int .i64 1)) = .int .i64 1) (hk : 1 ≤ m) (w : World) : (execOp ρ o).run Tryz.prog w = .ok (.value (sliced a 1 m cap 1)) w :=
  Op9.cut_hi (k := 1) x _ 22 ho hx hy hk str_under9 str_size9 w
/-- the box of line, and the words -/
structure Lb (W V : World) (gw g4 : Nat) (s : ByteArray) (y : Stp) : Prop where
  bel : Below W.heap.size W V
  box : V.heap[g4]? = some (.cells (stpA y) 84)
  wd : V.cell? ⟨gw, 0, none⟩ = some (.string s)
  gt : W.heap.size ≤ g4
theorem words_tail {s : ByteArray} {more : List ByteArray} {gw c : Nat} (hv : W.ownsRow B 9 1 (.slice (some ⟨gw, 0, none⟩) (s :: more).length c) (s :: more).length (strs (s :: more))) : Wds W (sliced (some ⟨gw, 0, none⟩) 1 (s :: more).length c 1) more ∧ W.cell? ⟨gw, 0, none⟩ = some (.string s) := by
  have hc : (s :: more).length ≤ c := by
    rcases hv.2 with ⟨h, _⟩ | ⟨g, cap, cur, h, _, _, hle, _⟩
    · cases h
    · cases h; exact hle
  refine ⟨⟨_, _, rfl, fun i x hx => ?_⟩, by rw [hv.cellAt 0 (by simp)]; rfl⟩
  have hi := (List.getElem?_eq_some_iff.1 hx).1
  rw [List.length_cons] at hc
  rw [if_neg (by omega)]
  refine ⟨gw, 0 + 1 * 1, rfl, ?_⟩
  rw [show 0 + 1 * 1 + i = i + 1 by omega, hv.cellAt (i + 1) (by rw [List.length_cons]; omega)]
  simp [strs, hx]
theorem told_none {s : ByteArray} {more : List ByteArray} (h : Dsk.meant s more = none) : Dsk.told S (s :: more) = Txt.line [Dsk.wWhat] ∧ Dsk.next S (s :: more) = S := by
  unfold Dsk.told Dsk.next; simp only [h]; exact ⟨trivial, trivial⟩
theorem told_step {s : ByteArray} {more : List ByteArray} {x : Stp} (h : Dsk.meant s more = some x) (hk : x.kind ≠ 0) : Dsk.told S (s :: more) = Dsk.ansStep S x ∧ Dsk.next S (s :: more) = S.step x := by
  unfold Dsk.told Dsk.next; simp only [h, if_pos hk]; exact ⟨trivial, trivial⟩
theorem told_ask {s : ByteArray} {more : List ByteArray} {x : Stp} (h : Dsk.meant s more = some x) (hk : x.kind = 0) : Dsk.told S (s :: more) = Dsk.ansAsk S s.toList x ∧ Dsk.next S (s :: more) = S := by
  have : ¬ x.kind ≠ 0 := fun z => z hk
  unfold Dsk.told Dsk.next; simp only [h, if_neg this]; exact ⟨trivial, trivial⟩
theorem fill_parts {x y : Stp} {c : UInt8} {s : ByteArray} (h : Dsk.fill x c s = some y) (hs : s.size ≤ 100000) : y.kind = x.kind ∧ (x.name.size ≤ 100000 → y.name.size ≤ 100000) ∧ (x.to.size ≤ 100000 → y.to.size ≤ 100000) ∧ (x.text.size ≤ 100000 → y.text.size ≤ 100000) := by
  unfold Dsk.fill at h
  repeat' split at h
  all_goals first
    | (cases h; exact ⟨rfl, fun h => by first | exact h | exact hs, fun h => by first | exact h | exact hs, fun h => by first | exact h | exact hs⟩)
    | skip
  obtain ⟨t, ht, rfl⟩ := Option.map_eq_some_iff.1 h
  refine ⟨rfl, fun h => h, fun h => h, fun _ => ?_⟩
  unfold Dsk.mean at ht
  obtain ⟨u, hu, rfl⟩ := Option.map_eq_some_iff.1 ht
  have e := (Dsk.meanL_iff _ _).1 hu
  have h1 := congrArg List.length e
  have h2 := (Txt.showR_len u).1
  rw [len_bytes] at h1
  rw [show (Txt.shows u).length = (Txt.showR u).length + 1 from rfl] at h1
  rw [mk_size]
  show u.length ≤ 100000
  omega
theorem fills_parts : ∀ {cs : List UInt8} {ws : List ByteArray} {x y : Stp}, Dsk.fills x cs ws = some y → (∀ s ∈ ws, s.size ≤ 100000) → x.name.size ≤ 100000 → x.to.size ≤ 100000 → x.text.size ≤ 100000 → y.kind = x.kind ∧ y.name.size ≤ 100000 ∧ y.to.size ≤ 100000 ∧ y.text.size ≤ 100000
  | [], _, x, y, h, _, h1, h2, h3 => by cases h; exact ⟨rfl, h1, h2, h3⟩
  | _ :: _, [], x, y, h, _, h1, h2, h3 => by cases h; exact ⟨rfl, h1, h2, h3⟩
  | c :: cs, s :: ws, x, y, h, hw, h1, h2, h3 => by
    obtain ⟨z, hz, hy⟩ := Option.bind_eq_some_iff.1 (show (Dsk.fill x c s).bind (fun y => Dsk.fills y cs ws) = some y from h)
    have p := fill_parts hz (hw s (List.mem_cons_self ..))
    have q := fills_parts hy (fun s hs => hw s (List.mem_cons_of_mem _ hs)) (p.2.1 h1) (p.2.2.1 h2) (p.2.2.2 h3)
    exact ⟨q.1.trans p.1, q.2⟩
theorem meant_parts {s : ByteArray} {more : List ByteArray} {x : Stp} (h : Dsk.meant s more = some x) (hw : ∀ s ∈ more, s.size ≤ 100000) : (∃ f ∈ Dsk.frms, f.word.toList = s.toList ∧ f.kind = x.kind) ∧ x.name.size ≤ 100000 ∧ x.to.size ≤ 100000 ∧ x.text.size ≤ 100000 := by
  unfold Dsk.meant at h
  split at h
  · cases h
  · rename_i f hf
    have q := fills_parts h hw (Nat.zero_le _) (Nat.zero_le _) (Nat.zero_le _)
    have p := List.find?_some hf
    unfold Dsk.isFrm at p
    rw [Bool.and_eq_true] at p
    exact ⟨⟨f, List.mem_of_find?_eq_some hf, by simpa using p.1, q.1.symm⟩, q.2⟩
/-- the word of what is asked -/
theorem ask_words {s : ByteArray} {more : List ByteArray} {x : Stp} (h : Dsk.meant s more = some x) (hw : ∀ s ∈ more, s.size ≤ 100000) (hk : x.kind = 0) : s = ⟨#[114, 101, 97, 100]⟩ ∨ s = ⟨#[108, 105, 115, 116]⟩ ∨ s = ⟨#[115, 97, 109, 101]⟩ ∨ s = ⟨#[115, 117, 114, 101]⟩ ∨ s = ⟨#[100, 105, 115, 107]⟩ ∨ s = ⟨#[100, 105, 114, 116, 121]⟩ ∨ s = ⟨#[108, 111, 115, 116]⟩ := by
  obtain ⟨⟨f, hf, he, hkk⟩, _⟩ := meant_parts h hw
  have hs : f.word = s := Txt.ba_list he
  have key : ∀ f ∈ Dsk.frms, f.kind = 0 → f.word.data = #[114, 101, 97, 100] ∨ f.word.data = #[108, 105, 115, 116] ∨ f.word.data = #[115, 97, 109, 101] ∨ f.word.data = #[115, 117, 114, 101] ∨ f.word.data = #[100, 105, 115, 107] ∨ f.word.data = #[100, 105, 114, 116, 121] ∨ f.word.data = #[108, 111, 115, 116] := by decide +kernel
  have k := key f hf (hkk.trans hk)
  rw [hs] at k
  rcases k with k | k | k | k | k | k | k
  · exact .inl (ByteArray.ext k)
  · exact .inr (.inl (ByteArray.ext k))
  · exact .inr (.inr (.inl (ByteArray.ext k)))
  · exact .inr (.inr (.inr (.inl (ByteArray.ext k))))
  · exact .inr (.inr (.inr (.inr (.inl (ByteArray.ext k)))))
  · exact .inr (.inr (.inr (.inr (.inr (.inl (ByteArray.ext k))))))
  · exact .inr (.inr (.inr (.inr (.inr (.inr (ByteArray.ext k))))))
theorem ask_any (h : Dk w B bd bl bf bc S l W) {n : Nat} (hO : S.Ok n) (hn : n ≤ 1000000) (hN : S.Neat) (tb : Tabs w) (hlen : l.length + 20000000 ≤ 140737488355328) {s : ByteArray} {more : List ByteArray} {x : Stp} (hm : Dsk.meant s more = some x) (hw : ∀ s ∈ more, s.size ≤ 100000) (hk : x.kind = 0) :
    Calls Tryz.prog 30 #[.pointer (some ⟨bd, 0, none⟩), .string s, .agg (stpA x)] W fun e w' => e = .returned (.tuple #[]) ∧ Dk w B bd bl bf bc S (l ++ Dsk.ansAsk S s.toList x) w' ∧ De B bd bl bf bc bf bc W w' := by
  have h1 : x.name.size ≤ maxLen := by have := (meant_parts hm hw).2.1; unfold maxLen; omega
  rcases ask_words hm hw hk with rfl | rfl | rfl | rfl | rfl | rfl | rfl <;> rw [ByteArray.toList_mk]
  · exact ask_read h hO x h1 tb hN.now.text (by omega)
  · exact ask_list h hO x h1 tb (by omega)
  · exact ask_same h hO x h1 tb (by omega)
  · exact ask_sure h hO x h1 tb (by omega)
  · exact ask_disk h hO x h1 tb (Lv.fine hN hO hn) hlen
  · exact ask_dirty h hO x h1 tb (by omega)
  · exact ask_lost h hO x h1 tb hN hn (by omega)
set_option maxHeartbeats 4000000 in
set_option maxRecDepth 100000 in
theorem dLine_any {B0 : Nat} (h : Dk w B bd bl bf bc S l W) {k : Nat} (hO : S.Ok k) (hn : k ≤ 1000000) (hN : S.Neat) (tb : Tabs w) (hlen : l.length + 20000000 ≤ 140737488355328) (ws : List ByteArray) (hw : ∀ s ∈ ws, s.size ≤ 100000) (hW : ws.length ≤ 100000) (v : Value) (hv : W.ownsRow B0 9 1 v ws.length (strs ws)) :
    Calls Tryz.prog 17 #[.pointer (some ⟨bd, 0, none⟩), v] W fun e w' => e = .returned (.tuple #[]) ∧ ∃ bf' bc', Dk w B bd bl bf' bc' (Dsk.next S ws) (l ++ Dsk.told S ws) w' ∧ De B bd bl bf bc bf' bc' W w' := by
  cases ws with
  | nil =>
    obtain ⟨a, c, rfl⟩ : ∃ a c, v = .slice a 0 c := by
      rcases hv.2 with ⟨hv, _⟩ | ⟨g, cap, cur, hv, _⟩
      · exact ⟨_, _, hv⟩
      · exact ⟨_, _, hv⟩
    have R := hide (show Dk w B bd bl bf bc (Dsk.next S []) (l ++ Dsk.told S []) W by rw [show Dsk.told S [] = [] from rfl, List.append_nil]; exact h)
    clear h hv
    go_enter Tryz.func17, Tryz.ntmps17
    go_wp2_with fail
    (try simp only [Exit.inBlock, Exit.then]); refine bodyPost_ret (results_none rfl _ _ _) rfl ?_
    exact ⟨rfl, bf, bc, unhide R, De.of_below (Below.refl _ _)⟩
  | cons s more =>
    obtain ⟨gw, c, cur, rfl, hgw⟩ : ∃ gw c cur, v = .slice (some ⟨gw, 0, none⟩) (s :: more).length c ∧ W.heap[gw]? = some (.cells cur 9) := by
      rcases hv.2 with ⟨_, hz⟩ | ⟨g, cap, cur, hv, _, hg, _⟩
      · simp at hz
      · exact ⟨g, cap, cur, hv, hg⟩
    obtain ⟨hwd, hc0⟩ := words_tail hv
    have hb : Below W.heap.size W W.drew := (Below.refl _ W).drew
    have hw1 : ∀ s ∈ more, s.size ≤ 100000 := fun s hs => hw s (List.mem_cons_of_mem _ hs)
    have M := hide (fun V (b : Below W.heap.size W V) => dMeant_any s more hw1 (by rw [List.length_cons] at hW; omega) _ V (hwd.below b) (tb.at (h.lo.bel.trans (b.mono h.lo.bel.size))))
    have H := hide h
    have GW := hide hgw
    have ST := hide (fun (x : Stp) (hm : Dsk.meant s more = some x) (hk : x.kind ≠ 0) (hx : x.name.size ≤ maxLen ∧ x.to.size ≤ maxLen ∧ x.text.size ≤ maxLen) V (hv : Dk w B bd bl bf bc S l V) => dStep_any hv hO hn x hx.1 hx.2.1 hx.2.2 tb (by omega))
    have AS := hide (fun (x : Stp) (hm : Dsk.meant s more = some x) (hk : x.kind = 0) V (hv : Dk w B bd bl bf bc S l V) => ask_any hv hO hn hN tb hlen hm hw1 hk)
    have WT := hide (fun V (hv : Dk w B bd bl bf bc S l V) => dWord_any hv Dsk.wWhat (by show _ + 4 + 10 ≤ _; omega))
    have HW := hide hw1
    have n0 : 0 < (s :: more).length := by simp
    generalize (s :: more).length = n at *
    obtain ⟨sv, hsv⟩ : ∃ sv, sliced (some ⟨gw, 0, none⟩) 1 n c 1 = sv := ⟨_, rfl⟩
    rw [hsv] at M
    have HSV := hide hsv
    clear hsv
    have nz : ((n : Int) == 0) = false := by simp; omega
    have nz2 : (n == 0) = false := by simp; omega
    clear h hv hwd hO hn hN tb hlen hw hW hw1
    unfold Dsk.wWhat at WT
    go_enter Tryz.func17, Tryz.ntmps17
    go_upto_region 1 with fail
    go_cut [4, 5] from 9 to 18 (fun p q wx => ∃ (g4 : Nat) (y : Stp) (ok : Bool), p = .pointer (some ⟨g4, 0, none⟩) ∧ q = .bool ok ∧ Hid (Lb W wx gw g4 s y) ∧ Hid ((ok = true ∧ Dsk.meant s more = some y) ∨ (ok = false ∧ Dsk.meant s more = none)))
    case first =>
      refine wp_region_held_drew (S := fun V => V.cell? ⟨gw, 0, none⟩ = some (.string s)) (by kernel_rfl) (hc0) (fun hS => ?_)
      refine wpAnyH_take (i := 0) (oi := { dst := some 10, op := Op.move (Operand.tmp 1), type := 22, pos := "desk.go:85", after := #[], guard := none }) (v := .slice (some ⟨gw, 0, none⟩) n c) rfl (by kernel_rfl) (by kernel_rfl) (by kernel_rfl) (fun _ _ _ h => h) (Or.inl ⟨by kernel_rfl, fun W h => (by first | kernel_rfl | go_simp)⟩) hS ?_
      try simp only [Act.put, List.setIfInBounds_toArray, List.set_cons_zero, List.set_cons_succ]
      refine wpAnyH_take (i := 1) (oi := { dst := some 11, op := Op.indexAddr 22 (Operand.tmp 10) (Operand.const (Value.int IntKind.i64 0)), type := 0, pos := "desk.go:85", after := #[{ on := 0, ground := Ground.data }], guard := none }) (v := .pointer (some ⟨gw, 0, none⟩)) rfl (by kernel_rfl) (by kernel_rfl) (by kernel_rfl) (fun _ _ _ h => h) (Or.inl ⟨by kernel_rfl, fun W h => Op9.ix0 (c := c) (.tmp 10) (by kernel_rfl) (by kernel_rfl) (by kernel_rfl) n0 W⟩) hS ?_
      try simp only [Act.put, List.setIfInBounds_toArray, List.set_cons_zero, List.set_cons_succ]
      refine wpAnyH_take (i := 2) (oi := { dst := some 12, op := Op.load 9 (Operand.tmp 11), type := 9, pos := "desk.go:85", after := #[{ on := 1, ground := Ground.data }], guard := none }) (v := .string s) rfl (by kernel_rfl) (by kernel_rfl) (by kernel_rfl) (fun _ _ _ h => h) (Or.inl ⟨by kernel_rfl, fun W h => Op9.ld_str (.tmp 11) (by kernel_rfl) (by kernel_rfl) W h⟩) hS ?_
      try simp only [Act.put, List.setIfInBounds_toArray, List.set_cons_zero, List.set_cons_succ]
      refine wpAnyH_take (i := 3) (oi := { dst := some 13, op := Op.move (Operand.tmp 1), type := 22, pos := "desk.go:85", after := #[], guard := none }) (v := .slice (some ⟨gw, 0, none⟩) n c) rfl (by kernel_rfl) (by kernel_rfl) (by kernel_rfl) (fun _ _ _ h => h) (Or.inl ⟨by kernel_rfl, fun W h => (by first | kernel_rfl | go_simp)⟩) hS ?_
      try simp only [Act.put, List.setIfInBounds_toArray, List.set_cons_zero, List.set_cons_succ]
      refine wpAnyH_take (i := 4) (oi := { dst := some 14, op := Op.slice 22 (Operand.tmp 13) (some (Operand.const (Value.int IntKind.i64 1))) none none, type := 22, pos := "desk.go:85", after := #[{ on := 3, ground := Ground.data }], guard := none }) (v := sv) rfl (by kernel_rfl) (by kernel_rfl) (by kernel_rfl) (fun _ _ _ h => h) (Or.inl ⟨by kernel_rfl, fun W h => (by rw [← unhide HSV]; exact Op9.cut1 (.tmp 13) (by kernel_rfl) (by kernel_rfl) (by kernel_rfl) n0 W)⟩) hS ?_
      try simp only [Act.put, List.setIfInBounds_toArray, List.set_cons_zero, List.set_cons_succ]
      refine wpAnyH_ready (rs := [5, 9]) (by kernel_rfl) (by simp) ?_
      refine AllReadyH.cons (o := { dst := some 15, op := Op.call { callee := Callee.value (Operand.func 27), args := #[Operand.tmp 12, Operand.tmp 14], argTypes := #[9, 22] }, type := 85, pos := "desk.go:85", after := #[{ on := 2, ground := Ground.data }, { on := 4, ground := Ground.data }], guard := none }) rfl (fun K hK => ?_) (AllReadyH.cons (o := { dst := some 4, op := Op.alloc 84, type := 0, pos := "desk.go:85", after := #[], guard := none }) rfl (fun K hK => ?_) AllReadyH.nil)
      · rw [if_pos (by kernel_rfl)]
        go_simp
        refine (unhide M _ hb).mono ?_
        rintro e w2 ⟨hm, b2⟩
        have b3 : Below W.heap.size W w2 := hb.trans (b2.mono (Nat.le_refl _))
        have c3 : w2.cell? ⟨gw, 0, none⟩ = some (.string s) := cell_below b3 hc0
        rcases hm with ⟨y, hy, rfl⟩ | ⟨hy, rfl⟩
        · go_wp2_with fail
          refine hK.out _ _ (c3) (fun hS2 => ?_)
          clear hK K
          try simp only [Act.put, List.setIfInBounds_toArray, List.set_cons_zero, List.set_cons_succ]
          refine wpAnyH_take (i := 6) (oi := { dst := some 9, op := Op.move (Operand.tmp 15), type := 85, pos := "desk.go:85", after := #[{ on := 5, ground := Ground.data }], guard := none }) (v := .tuple #[.agg (stpA y), .bool true]) rfl (by kernel_rfl) (by kernel_rfl) (by kernel_rfl) (fun _ _ _ h => h) (Or.inl ⟨by kernel_rfl, fun W h => (by first | kernel_rfl | go_simp)⟩) hS2 ?_
          try simp only [Act.put, List.setIfInBounds_toArray, List.set_cons_zero, List.set_cons_succ]
          refine wpAnyH_take (i := 7) (oi := { dst := some 16, op := Op.extract (Operand.tmp 9) 0, type := 84, pos := "desk.go:85", after := #[{ on := 6, ground := Ground.data }], guard := none }) (v := .agg (stpA y)) rfl (by kernel_rfl) (by kernel_rfl) (by kernel_rfl) (fun _ _ _ h => h) (Or.inl ⟨by kernel_rfl, fun W h => (by first | kernel_rfl | go_simp)⟩) hS2 ?_
          try simp only [Act.put, List.setIfInBounds_toArray, List.set_cons_zero, List.set_cons_succ]
          refine wpAnyH_take (i := 8) (oi := { dst := some 17, op := Op.extract (Operand.tmp 9) 1, type := 4, pos := "desk.go:85", after := #[{ on := 6, ground := Ground.data }, { on := 10, ground := Ground.gcOnly Departure.lateStores }], guard := none }) (v := .bool true) rfl (by kernel_rfl) (by kernel_rfl) (by kernel_rfl) (fun _ _ _ h => h) (Or.inl ⟨by kernel_rfl, fun W h => (by first | kernel_rfl | go_simp)⟩) hS2 ?_
          try simp only [Act.put, List.setIfInBounds_toArray, List.set_cons_zero, List.set_cons_succ]
          refine wpAnyH_ready (rs := [9]) (by kernel_rfl) (by simp) ?_
          refine AllReadyH.cons (o := { dst := some 4, op := Op.alloc 84, type := 0, pos := "desk.go:85", after := #[], guard := none }) rfl (fun K hK => ?_) AllReadyH.nil
          rw [if_pos (by kernel_rfl)]
          go_simp
          have rz : (w2.alloc (.cells #[.int .i64 0, .int .i64 0, .int .i64 0, .int .i64 0, .string ⟨#[]⟩, .string ⟨#[]⟩, .string ⟨#[]⟩] 84)).heap[w2.heap.size]? = some (.cells #[.int .i64 0, .int .i64 0, .int .i64 0, .int .i64 0, .string ⟨#[]⟩, .string ⟨#[]⟩, .string ⟨#[]⟩] 84) := heap_alloc_last _ _
          have b4 : Below W.heap.size W (w2.alloc (.cells #[.int .i64 0, .int .i64 0, .int .i64 0, .int .i64 0, .string ⟨#[]⟩, .string ⟨#[]⟩, .string ⟨#[]⟩] 84)) := b3.alloc b3.size _
          have c4 : (w2.alloc (.cells #[.int .i64 0, .int .i64 0, .int .i64 0, .int .i64 0, .string ⟨#[]⟩, .string ⟨#[]⟩, .string ⟨#[]⟩] 84)).cell? ⟨gw, 0, none⟩ = some (.string s) := cell_below b4 hc0
          have sx : Lb W ((w2.alloc (.cells #[.int .i64 0, .int .i64 0, .int .i64 0, .int .i64 0, .string ⟨#[]⟩, .string ⟨#[]⟩, .string ⟨#[]⟩] 84)).setRow w2.heap.size (stpA y)) gw w2.heap.size s y := ⟨below_setRow b4 b3.size _, setRow_heap _ _ _ _ _ _ rz, cell_below (below_setRow b4 b3.size _) hc0, b3.size⟩
          have hmy := hide hy
          refine hK.out _ _ (c4) (fun hS4 => ?_)
          clear hK K
          try simp only [Act.put, List.setIfInBounds_toArray, List.set_cons_zero, List.set_cons_succ]
          refine wpAnyH_ready (rs := [10]) (by kernel_rfl) (by simp) ?_
          refine AllReadyH.cons (o := { dst := none, op := Op.store 84 (Operand.tmp 4) (Operand.tmp 16), type := 0, pos := "desk.go:85", after := #[{ on := 9, ground := Ground.data }, { on := 7, ground := Ground.data }, { on := 5, ground := Ground.chain }, { on := 0, ground := Ground.phase }, { on := 1, ground := Ground.phase }, { on := 2, ground := Ground.phase }, { on := 3, ground := Ground.phase }, { on := 4, ground := Ground.phase }, { on := 5, ground := Ground.phase }, { on := 6, ground := Ground.phase }, { on := 7, ground := Ground.phase }, { on := 8, ground := Ground.textOnly Departure.lateStores }, { on := 9, ground := Ground.phase }], guard := none }) rfl (fun K hK => ?_) AllReadyH.nil
          rw [if_pos (by kernel_rfl)]
          refine Op9.st_row 84 (.tmp 4) (.tmp 16) (by kernel_rfl) (by kernel_rfl) (g := w2.heap.size) (cells := stpA y) (by kernel_rfl) (by kernel_rfl) (t := 84) (old := #[.int .i64 0, .int .i64 0, .int .i64 0, .int .i64 0, .string ⟨#[]⟩, .string ⟨#[]⟩, .string ⟨#[]⟩]) rz stp_info7 rfl (stp_all y) ?_
          refine hK.out _ _ (sx.wd) (fun hSx => ?_)
          clear hK K
          try simp only [Act.put, List.setIfInBounds_toArray, List.set_cons_zero, List.set_cons_succ]
          refine wpAnyH_take (i := 11) (oi := { dst := some 5, op := Op.assign (Operand.tmp 17), type := 4, pos := "desk.go:85", after := #[{ on := 8, ground := Ground.data }, { on := 10, ground := Ground.chain }, { on := 0, ground := Ground.phase }, { on := 1, ground := Ground.phase }, { on := 2, ground := Ground.phase }, { on := 3, ground := Ground.phase }, { on := 4, ground := Ground.phase }, { on := 5, ground := Ground.phase }, { on := 6, ground := Ground.phase }, { on := 7, ground := Ground.phase }, { on := 8, ground := Ground.phase }, { on := 9, ground := Ground.phase }, { on := 10, ground := Ground.phase }], guard := none }) (v := .bool true) rfl (by kernel_rfl) (by kernel_rfl) (by kernel_rfl) (fun _ _ _ h => h) (Or.inl ⟨by kernel_rfl, fun W h => (by first | kernel_rfl | go_simp)⟩) hSx ?_
          try simp only [Act.put, List.setIfInBounds_toArray, List.set_cons_zero, List.set_cons_succ]
          refine wpAnyH_done (by kernel_rfl) ?_ _
          go_wp2_with fail
          go_meet
          exact ⟨_, _, _, rfl, rfl, hide sx, hide (.inl ⟨rfl, unhide hmy⟩)⟩
        · go_wp2_with fail
          refine hK.out _ _ (c3) (fun hS2 => ?_)
          clear hK K
          try simp only [Act.put, List.setIfInBounds_toArray, List.set_cons_zero, List.set_cons_succ]
          refine wpAnyH_take (i := 6) (oi := { dst := some 9, op := Op.move (Operand.tmp 15), type := 85, pos := "desk.go:85", after := #[{ on := 5, ground := Ground.data }], guard := none }) (v := .tuple #[.agg (stpA (Dsk.blank 0)), .bool false]) rfl (by kernel_rfl) (by kernel_rfl) (by kernel_rfl) (fun _ _ _ h => h) (Or.inl ⟨by kernel_rfl, fun W h => (by first | kernel_rfl | go_simp)⟩) hS2 ?_
          try simp only [Act.put, List.setIfInBounds_toArray, List.set_cons_zero, List.set_cons_succ]
          refine wpAnyH_take (i := 7) (oi := { dst := some 16, op := Op.extract (Operand.tmp 9) 0, type := 84, pos := "desk.go:85", after := #[{ on := 6, ground := Ground.data }], guard := none }) (v := .agg (stpA (Dsk.blank 0))) rfl (by kernel_rfl) (by kernel_rfl) (by kernel_rfl) (fun _ _ _ h => h) (Or.inl ⟨by kernel_rfl, fun W h => (by first | kernel_rfl | go_simp)⟩) hS2 ?_
          try simp only [Act.put, List.setIfInBounds_toArray, List.set_cons_zero, List.set_cons_succ]
          refine wpAnyH_take (i := 8) (oi := { dst := some 17, op := Op.extract (Operand.tmp 9) 1, type := 4, pos := "desk.go:85", after := #[{ on := 6, ground := Ground.data }, { on := 10, ground := Ground.gcOnly Departure.lateStores }], guard := none }) (v := .bool false) rfl (by kernel_rfl) (by kernel_rfl) (by kernel_rfl) (fun _ _ _ h => h) (Or.inl ⟨by kernel_rfl, fun W h => (by first | kernel_rfl | go_simp)⟩) hS2 ?_
          try simp only [Act.put, List.setIfInBounds_toArray, List.set_cons_zero, List.set_cons_succ]
          refine wpAnyH_ready (rs := [9]) (by kernel_rfl) (by simp) ?_
          refine AllReadyH.cons (o := { dst := some 4, op := Op.alloc 84, type := 0, pos := "desk.go:85", after := #[], guard := none }) rfl (fun K hK => ?_) AllReadyH.nil
          rw [if_pos (by kernel_rfl)]
          go_simp
          have rz : (w2.alloc (.cells #[.int .i64 0, .int .i64 0, .int .i64 0, .int .i64 0, .string ⟨#[]⟩, .string ⟨#[]⟩, .string ⟨#[]⟩] 84)).heap[w2.heap.size]? = some (.cells #[.int .i64 0, .int .i64 0, .int .i64 0, .int .i64 0, .string ⟨#[]⟩, .string ⟨#[]⟩, .string ⟨#[]⟩] 84) := heap_alloc_last _ _
          have b4 : Below W.heap.size W (w2.alloc (.cells #[.int .i64 0, .int .i64 0, .int .i64 0, .int .i64 0, .string ⟨#[]⟩, .string ⟨#[]⟩, .string ⟨#[]⟩] 84)) := b3.alloc b3.size _
          have c4 : (w2.alloc (.cells #[.int .i64 0, .int .i64 0, .int .i64 0, .int .i64 0, .string ⟨#[]⟩, .string ⟨#[]⟩, .string ⟨#[]⟩] 84)).cell? ⟨gw, 0, none⟩ = some (.string s) := cell_below b4 hc0
          have sx : Lb W ((w2.alloc (.cells #[.int .i64 0, .int .i64 0, .int .i64 0, .int .i64 0, .string ⟨#[]⟩, .string ⟨#[]⟩, .string ⟨#[]⟩] 84)).setRow w2.heap.size (stpA (Dsk.blank 0))) gw w2.heap.size s (Dsk.blank 0) := ⟨below_setRow b4 b3.size _, setRow_heap _ _ _ _ _ _ rz, cell_below (below_setRow b4 b3.size _) hc0, b3.size⟩
          have hmy := hide hy
          refine hK.out _ _ (c4) (fun hS4 => ?_)
          clear hK K
          try simp only [Act.put, List.setIfInBounds_toArray, List.set_cons_zero, List.set_cons_succ]
          refine wpAnyH_ready (rs := [10]) (by kernel_rfl) (by simp) ?_
          refine AllReadyH.cons (o := { dst := none, op := Op.store 84 (Operand.tmp 4) (Operand.tmp 16), type := 0, pos := "desk.go:85", after := #[{ on := 9, ground := Ground.data }, { on := 7, ground := Ground.data }, { on := 5, ground := Ground.chain }, { on := 0, ground := Ground.phase }, { on := 1, ground := Ground.phase }, { on := 2, ground := Ground.phase }, { on := 3, ground := Ground.phase }, { on := 4, ground := Ground.phase }, { on := 5, ground := Ground.phase }, { on := 6, ground := Ground.phase }, { on := 7, ground := Ground.phase }, { on := 8, ground := Ground.textOnly Departure.lateStores }, { on := 9, ground := Ground.phase }], guard := none }) rfl (fun K hK => ?_) AllReadyH.nil
          rw [if_pos (by kernel_rfl)]
          refine Op9.st_row 84 (.tmp 4) (.tmp 16) (by kernel_rfl) (by kernel_rfl) (g := w2.heap.size) (cells := stpA (Dsk.blank 0)) (by kernel_rfl) (by kernel_rfl) (t := 84) (old := #[.int .i64 0, .int .i64 0, .int .i64 0, .int .i64 0, .string ⟨#[]⟩, .string ⟨#[]⟩, .string ⟨#[]⟩]) rz stp_info7 rfl (stp_all (Dsk.blank 0)) ?_
          refine hK.out _ _ (sx.wd) (fun hSx => ?_)
          clear hK K
          try simp only [Act.put, List.setIfInBounds_toArray, List.set_cons_zero, List.set_cons_succ]
          refine wpAnyH_take (i := 11) (oi := { dst := some 5, op := Op.assign (Operand.tmp 17), type := 4, pos := "desk.go:85", after := #[{ on := 8, ground := Ground.data }, { on := 10, ground := Ground.chain }, { on := 0, ground := Ground.phase }, { on := 1, ground := Ground.phase }, { on := 2, ground := Ground.phase }, { on := 3, ground := Ground.phase }, { on := 4, ground := Ground.phase }, { on := 5, ground := Ground.phase }, { on := 6, ground := Ground.phase }, { on := 7, ground := Ground.phase }, { on := 8, ground := Ground.phase }, { on := 9, ground := Ground.phase }, { on := 10, ground := Ground.phase }], guard := none }) (v := .bool false) rfl (by kernel_rfl) (by kernel_rfl) (by kernel_rfl) (fun _ _ _ h => h) (Or.inl ⟨by kernel_rfl, fun W h => (by first | kernel_rfl | go_simp)⟩) hSx ?_
          try simp only [Act.put, List.setIfInBounds_toArray, List.set_cons_zero, List.set_cons_succ]
          refine wpAnyH_done (by kernel_rfl) ?_ _
          go_wp2_with fail
          go_meet
          exact ⟨_, _, _, rfl, rfl, hide sx, hide (.inr ⟨rfl, unhide hmy⟩)⟩
      · rw [if_pos (by kernel_rfl)]
        go_simp
        have b3 : Below W.heap.size W (W.drew.alloc (.cells #[.int .i64 0, .int .i64 0, .int .i64 0, .int .i64 0, .string ⟨#[]⟩, .string ⟨#[]⟩, .string ⟨#[]⟩] 84)) := hb.alloc (Nat.le_refl _) _
        have c3 : (W.drew.alloc (.cells #[.int .i64 0, .int .i64 0, .int .i64 0, .int .i64 0, .string ⟨#[]⟩, .string ⟨#[]⟩, .string ⟨#[]⟩] 84)).cell? ⟨gw, 0, none⟩ = some (.string s) := cell_below b3 hc0
        have r3 : (W.drew.alloc (.cells #[.int .i64 0, .int .i64 0, .int .i64 0, .int .i64 0, .string ⟨#[]⟩, .string ⟨#[]⟩, .string ⟨#[]⟩] 84)).heap[W.heap.size]? = some (.cells #[.int .i64 0, .int .i64 0, .int .i64 0, .int .i64 0, .string ⟨#[]⟩, .string ⟨#[]⟩, .string ⟨#[]⟩] 84) := heap_alloc_last _ _
        refine hK.out _ _ (c3) (fun hS2 => ?_)
        clear hK K
        try simp only [Act.put, List.setIfInBounds_toArray, List.set_cons_zero, List.set_cons_succ]
        refine wpAnyH_ready (rs := [5]) (by kernel_rfl) (by simp) ?_
        refine AllReadyH.cons (o := { dst := some 15, op := Op.call { callee := Callee.value (Operand.func 27), args := #[Operand.tmp 12, Operand.tmp 14], argTypes := #[9, 22] }, type := 85, pos := "desk.go:85", after := #[{ on := 2, ground := Ground.data }, { on := 4, ground := Ground.data }], guard := none }) rfl (fun K hK => ?_) AllReadyH.nil
        rw [if_pos (by kernel_rfl)]
        go_simp
        refine (unhide M _ b3).mono ?_
        rintro e w2 ⟨hm, b2⟩
        have b4 : Below W.heap.size W w2 := b3.trans (b2.mono b3.size)
        have c4 : w2.cell? ⟨gw, 0, none⟩ = some (.string s) := cell_below b4 hc0
        have rz : w2.heap[W.heap.size]? = some (.cells #[.int .i64 0, .int .i64 0, .int .i64 0, .int .i64 0, .string ⟨#[]⟩, .string ⟨#[]⟩, .string ⟨#[]⟩] 84) := by rw [b2.block _ (Array.getElem?_eq_some_iff.1 r3).1]; exact r3
        rcases hm with ⟨y, hy, rfl⟩ | ⟨hy, rfl⟩
        · go_wp2_with fail
          refine hK.out _ _ (c4) (fun hS4 => ?_)
          clear hK K
          try simp only [Act.put, List.setIfInBounds_toArray, List.set_cons_zero, List.set_cons_succ]
          refine wpAnyH_take (i := 6) (oi := { dst := some 9, op := Op.move (Operand.tmp 15), type := 85, pos := "desk.go:85", after := #[{ on := 5, ground := Ground.data }], guard := none }) (v := .tuple #[.agg (stpA y), .bool true]) rfl (by kernel_rfl) (by kernel_rfl) (by kernel_rfl) (fun _ _ _ h => h) (Or.inl ⟨by kernel_rfl, fun W h => (by first | kernel_rfl | go_simp)⟩) hS4 ?_
          try simp only [Act.put, List.setIfInBounds_toArray, List.set_cons_zero, List.set_cons_succ]
          refine wpAnyH_take (i := 7) (oi := { dst := some 16, op := Op.extract (Operand.tmp 9) 0, type := 84, pos := "desk.go:85", after := #[{ on := 6, ground := Ground.data }], guard := none }) (v := .agg (stpA y)) rfl (by kernel_rfl) (by kernel_rfl) (by kernel_rfl) (fun _ _ _ h => h) (Or.inl ⟨by kernel_rfl, fun W h => (by first | kernel_rfl | go_simp)⟩) hS4 ?_
          try simp only [Act.put, List.setIfInBounds_toArray, List.set_cons_zero, List.set_cons_succ]
          refine wpAnyH_take (i := 8) (oi := { dst := some 17, op := Op.extract (Operand.tmp 9) 1, type := 4, pos := "desk.go:85", after := #[{ on := 6, ground := Ground.data }, { on := 10, ground := Ground.gcOnly Departure.lateStores }], guard := none }) (v := .bool true) rfl (by kernel_rfl) (by kernel_rfl) (by kernel_rfl) (fun _ _ _ h => h) (Or.inl ⟨by kernel_rfl, fun W h => (by first | kernel_rfl | go_simp)⟩) hS4 ?_
          try simp only [Act.put, List.setIfInBounds_toArray, List.set_cons_zero, List.set_cons_succ]
          have sx : Lb W (w2.setRow W.heap.size (stpA y)) gw W.heap.size s y := ⟨below_setRow b4 (Nat.le_refl _) _, setRow_heap _ _ _ _ _ _ rz, cell_below (below_setRow b4 (Nat.le_refl _) _) hc0, Nat.le_refl _⟩
          have hmy := hide hy
          refine wpAnyH_ready (rs := [10]) (by kernel_rfl) (by simp) ?_
          refine AllReadyH.cons (o := { dst := none, op := Op.store 84 (Operand.tmp 4) (Operand.tmp 16), type := 0, pos := "desk.go:85", after := #[{ on := 9, ground := Ground.data }, { on := 7, ground := Ground.data }, { on := 5, ground := Ground.chain }, { on := 0, ground := Ground.phase }, { on := 1, ground := Ground.phase }, { on := 2, ground := Ground.phase }, { on := 3, ground := Ground.phase }, { on := 4, ground := Ground.phase }, { on := 5, ground := Ground.phase }, { on := 6, ground := Ground.phase }, { on := 7, ground := Ground.phase }, { on := 8, ground := Ground.textOnly Departure.lateStores }, { on := 9, ground := Ground.phase }], guard := none }) rfl (fun K hK => ?_) AllReadyH.nil
          rw [if_pos (by kernel_rfl)]
          refine Op9.st_row 84 (.tmp 4) (.tmp 16) (by kernel_rfl) (by kernel_rfl) (g := W.heap.size) (cells := stpA y) (by kernel_rfl) (by kernel_rfl) (t := 84) (old := #[.int .i64 0, .int .i64 0, .int .i64 0, .int .i64 0, .string ⟨#[]⟩, .string ⟨#[]⟩, .string ⟨#[]⟩]) rz stp_info7 rfl (stp_all y) ?_
          refine hK.out _ _ (sx.wd) (fun hSx => ?_)
          clear hK K
          try simp only [Act.put, List.setIfInBounds_toArray, List.set_cons_zero, List.set_cons_succ]
          refine wpAnyH_take (i := 11) (oi := { dst := some 5, op := Op.assign (Operand.tmp 17), type := 4, pos := "desk.go:85", after := #[{ on := 8, ground := Ground.data }, { on := 10, ground := Ground.chain }, { on := 0, ground := Ground.phase }, { on := 1, ground := Ground.phase }, { on := 2, ground := Ground.phase }, { on := 3, ground := Ground.phase }, { on := 4, ground := Ground.phase }, { on := 5, ground := Ground.phase }, { on := 6, ground := Ground.phase }, { on := 7, ground := Ground.phase }, { on := 8, ground := Ground.phase }, { on := 9, ground := Ground.phase }, { on := 10, ground := Ground.phase }], guard := none }) (v := .bool true) rfl (by kernel_rfl) (by kernel_rfl) (by kernel_rfl) (fun _ _ _ h => h) (Or.inl ⟨by kernel_rfl, fun W h => (by first | kernel_rfl | go_simp)⟩) hSx ?_
          try simp only [Act.put, List.setIfInBounds_toArray, List.set_cons_zero, List.set_cons_succ]
          refine wpAnyH_done (by kernel_rfl) ?_ _
          go_wp2_with fail
          go_meet
          exact ⟨_, _, _, rfl, rfl, hide sx, hide (.inl ⟨rfl, unhide hmy⟩)⟩
        · go_wp2_with fail
          refine hK.out _ _ (c4) (fun hS4 => ?_)
          clear hK K
          try simp only [Act.put, List.setIfInBounds_toArray, List.set_cons_zero, List.set_cons_succ]
          refine wpAnyH_take (i := 6) (oi := { dst := some 9, op := Op.move (Operand.tmp 15), type := 85, pos := "desk.go:85", after := #[{ on := 5, ground := Ground.data }], guard := none }) (v := .tuple #[.agg (stpA (Dsk.blank 0)), .bool false]) rfl (by kernel_rfl) (by kernel_rfl) (by kernel_rfl) (fun _ _ _ h => h) (Or.inl ⟨by kernel_rfl, fun W h => (by first | kernel_rfl | go_simp)⟩) hS4 ?_
          try simp only [Act.put, List.setIfInBounds_toArray, List.set_cons_zero, List.set_cons_succ]
          refine wpAnyH_take (i := 7) (oi := { dst := some 16, op := Op.extract (Operand.tmp 9) 0, type := 84, pos := "desk.go:85", after := #[{ on := 6, ground := Ground.data }], guard := none }) (v := .agg (stpA (Dsk.blank 0))) rfl (by kernel_rfl) (by kernel_rfl) (by kernel_rfl) (fun _ _ _ h => h) (Or.inl ⟨by kernel_rfl, fun W h => (by first | kernel_rfl | go_simp)⟩) hS4 ?_
          try simp only [Act.put, List.setIfInBounds_toArray, List.set_cons_zero, List.set_cons_succ]
          refine wpAnyH_take (i := 8) (oi := { dst := some 17, op := Op.extract (Operand.tmp 9) 1, type := 4, pos := "desk.go:85", after := #[{ on := 6, ground := Ground.data }, { on := 10, ground := Ground.gcOnly Departure.lateStores }], guard := none }) (v := .bool false) rfl (by kernel_rfl) (by kernel_rfl) (by kernel_rfl) (fun _ _ _ h => h) (Or.inl ⟨by kernel_rfl, fun W h => (by first | kernel_rfl | go_simp)⟩) hS4 ?_
          try simp only [Act.put, List.setIfInBounds_toArray, List.set_cons_zero, List.set_cons_succ]
          have sx : Lb W (w2.setRow W.heap.size (stpA (Dsk.blank 0))) gw W.heap.size s (Dsk.blank 0) := ⟨below_setRow b4 (Nat.le_refl _) _, setRow_heap _ _ _ _ _ _ rz, cell_below (below_setRow b4 (Nat.le_refl _) _) hc0, Nat.le_refl _⟩
          have hmy := hide hy
          refine wpAnyH_ready (rs := [10]) (by kernel_rfl) (by simp) ?_
          refine AllReadyH.cons (o := { dst := none, op := Op.store 84 (Operand.tmp 4) (Operand.tmp 16), type := 0, pos := "desk.go:85", after := #[{ on := 9, ground := Ground.data }, { on := 7, ground := Ground.data }, { on := 5, ground := Ground.chain }, { on := 0, ground := Ground.phase }, { on := 1, ground := Ground.phase }, { on := 2, ground := Ground.phase }, { on := 3, ground := Ground.phase }, { on := 4, ground := Ground.phase }, { on := 5, ground := Ground.phase }, { on := 6, ground := Ground.phase }, { on := 7, ground := Ground.phase }, { on := 8, ground := Ground.textOnly Departure.lateStores }, { on := 9, ground := Ground.phase }], guard := none }) rfl (fun K hK => ?_) AllReadyH.nil
          rw [if_pos (by kernel_rfl)]
          refine Op9.st_row 84 (.tmp 4) (.tmp 16) (by kernel_rfl) (by kernel_rfl) (g := W.heap.size) (cells := stpA (Dsk.blank 0)) (by kernel_rfl) (by kernel_rfl) (t := 84) (old := #[.int .i64 0, .int .i64 0, .int .i64 0, .int .i64 0, .string ⟨#[]⟩, .string ⟨#[]⟩, .string ⟨#[]⟩]) rz stp_info7 rfl (stp_all (Dsk.blank 0)) ?_
          refine hK.out _ _ (sx.wd) (fun hSx => ?_)
          clear hK K
          try simp only [Act.put, List.setIfInBounds_toArray, List.set_cons_zero, List.set_cons_succ]
          refine wpAnyH_take (i := 11) (oi := { dst := some 5, op := Op.assign (Operand.tmp 17), type := 4, pos := "desk.go:85", after := #[{ on := 8, ground := Ground.data }, { on := 10, ground := Ground.chain }, { on := 0, ground := Ground.phase }, { on := 1, ground := Ground.phase }, { on := 2, ground := Ground.phase }, { on := 3, ground := Ground.phase }, { on := 4, ground := Ground.phase }, { on := 5, ground := Ground.phase }, { on := 6, ground := Ground.phase }, { on := 7, ground := Ground.phase }, { on := 8, ground := Ground.phase }, { on := 9, ground := Ground.phase }, { on := 10, ground := Ground.phase }], guard := none }) (v := .bool false) rfl (by kernel_rfl) (by kernel_rfl) (by kernel_rfl) (fun _ _ _ h => h) (Or.inl ⟨by kernel_rfl, fun W h => (by first | kernel_rfl | go_simp)⟩) hSx ?_
          try simp only [Act.put, List.setIfInBounds_toArray, List.set_cons_zero, List.set_cons_succ]
          refine wpAnyH_done (by kernel_rfl) ?_ _
          go_wp2_with fail
          go_meet
          exact ⟨_, _, _, rfl, rfl, hide sx, hide (.inr ⟨rfl, unhide hmy⟩)⟩
    case rest =>
    obtain ⟨g4, y, ok, rfl, rfl, LB, MX⟩ := hcut
    have H1 := hide ((unhide H).call (unhide LB).bel)
    have k0 : wc.cell? ⟨g4, 0, none⟩ = some (.int .i64 y.kind) := by rw [cell_of_row _ _ _ _ _ _ (unhide LB).box]; rfl
    have D1 := hide (show De B bd bl bf bc bf bc W wc from De.of_below (unhide LB).bel)
    clear M
    cases ok
    case false =>
      have hm : Dsk.meant s more = none := by
        rcases unhide MX with ⟨z, _⟩ | ⟨_, z⟩
        · cases z
        · exact z
      have E := hide (told_none (S := S) hm)
      have O := hide (unhide WT wc (unhide H1))
      rw [show ([119, 104, 97, 116] : List UInt8) = Dsk.wWhat from rfl, ← (unhide E).1] at O
      rw [show (⟨Dsk.wWhat.toArray⟩ : ByteArray) = ⟨#[119, 104, 97, 116]⟩ from rfl] at O
      clear WT ST AS MX hm
      go_wp2_with fail
      refine (unhide O).mono ?_
      rintro e w9 ⟨rfl, h9, f9⟩
      have R := hide (And.intro h9 ((unhide D1).trans (De.of_df f9)))
      clear h9 f9 O
      go_wp2_with fail
      go_end0
      exact ⟨rfl, bf, bc, by rw [(unhide E).2]; exact (unhide R).1, (unhide R).2⟩
    case true =>
      have hm : Dsk.meant s more = some y := by
        rcases unhide MX with ⟨_, z⟩ | ⟨z, _⟩
        · exact z
        · cases z
      clear WT MX
      by_cases hk : y.kind = 0
      case neg =>
        have q0 : (y.kind != 0) = true := by simpa using hk
        have E := hide (told_step (S := S) hm hk)
        have hp := (meant_parts hm (unhide HW)).2
        have O := hide (unhide ST y hm hk ⟨by unfold maxLen; omega, by unfold maxLen; omega, by unfold maxLen; omega⟩ wc (unhide H1))
        rw [← (unhide E).1, ← (unhide E).2] at O
        have bx := hide (unhide LB).box
        clear ST AS hm hk hp
        go_wp2_with (have hx := unhide bx; refine wpList_load_row rfl 84 _ rfl g4 rfl 84 (stpA y) (0, 0) _ hx stp_under7 rfl stp_info7 ?_; clear hx bx)
        refine (unhide O).mono ?_
        rintro e w9 ⟨rfl, bf', bc', h9, f9⟩
        have R := hide (And.intro h9 ((unhide D1).trans f9))
        clear h9 f9 O
        go_wp2_with fail
        go_end0
        exact ⟨rfl, bf', bc', unhide R⟩
      case pos =>
        have q0 : (y.kind != 0) = false := by simpa using hk
        have E := hide (told_ask (S := S) hm hk)
        have b1 : Below wc.heap.size wc wc.drew := (Below.refl _ wc).drew
        have O := hide (unhide AS y hm hk wc.drew ((unhide H1).call b1))
        rw [← (unhide E).1] at O
        have S1 : wc.drew.cell? ⟨gw, 0, none⟩ = some (.string s) ∧ wc.drew.heap[g4]? = some (.cells (stpA y) 84) := ⟨(unhide LB).wd, (unhide LB).box⟩
        have gw1 : wc.drew.heap[gw]? = some (.cells cur 9) := by
          show wc.heap[gw]? = _
          rw [(unhide LB).bel.block _ (Array.getElem?_eq_some_iff.1 (unhide GW)).1]; exact unhide GW
        clear ST AS hm hk
        go_upto_region 2 with fail
        refine wp_region_held_drew (S := fun V => V.cell? ⟨gw, 0, none⟩ = some (.string s) ∧ V.heap[g4]? = some (.cells (stpA y) 84)) (by kernel_rfl) (S1) (fun hS => ?_)
        refine wpAnyH_take (i := 0) (oi := { dst := some 18, op := Op.move (Operand.tmp 0), type := 25, pos := "desk.go:92", after := #[], guard := none }) (v := .pointer (some ⟨bd, 0, none⟩)) rfl (by kernel_rfl) (by kernel_rfl) (by kernel_rfl) (fun _ _ _ h => h) (Or.inl ⟨by kernel_rfl, fun W h => (by first | kernel_rfl | go_simp)⟩) hS ?_
        try simp only [Act.put, List.setIfInBounds_toArray, List.set_cons_zero, List.set_cons_succ]
        refine wpAnyH_take (i := 1) (oi := { dst := some 19, op := Op.move (Operand.tmp 1), type := 22, pos := "desk.go:92", after := #[], guard := none }) (v := .slice (some ⟨gw, 0, none⟩) n c) rfl (by kernel_rfl) (by kernel_rfl) (by kernel_rfl) (fun _ _ _ h => h) (Or.inl ⟨by kernel_rfl, fun W h => (by first | kernel_rfl | go_simp)⟩) hS ?_
        try simp only [Act.put, List.setIfInBounds_toArray, List.set_cons_zero, List.set_cons_succ]
        refine wpAnyH_take (i := 2) (oi := { dst := some 20, op := Op.indexAddr 22 (Operand.tmp 19) (Operand.const (Value.int IntKind.i64 0)), type := 0, pos := "desk.go:92", after := #[{ on := 1, ground := Ground.data }], guard := none }) (v := .pointer (some ⟨gw, 0, none⟩)) rfl (by kernel_rfl) (by kernel_rfl) (by kernel_rfl) (fun _ _ _ h => h) (Or.inl ⟨by kernel_rfl, fun W h => Op9.ix0 (c := c) (.tmp 19) (by kernel_rfl) (by kernel_rfl) (by kernel_rfl) n0 W⟩) hS ?_
        try simp only [Act.put, List.setIfInBounds_toArray, List.set_cons_zero, List.set_cons_succ]
        refine wpAnyH_take (i := 3) (oi := { dst := some 21, op := Op.load 9 (Operand.tmp 20), type := 9, pos := "desk.go:92", after := #[{ on := 2, ground := Ground.data }], guard := none }) (v := .string s) rfl (by kernel_rfl) (by kernel_rfl) (by kernel_rfl) (fun _ _ _ h => h) (Or.inl ⟨by kernel_rfl, fun W h => Op9.ld_str (.tmp 20) (by kernel_rfl) (by kernel_rfl) W h.1⟩) hS ?_
        try simp only [Act.put, List.setIfInBounds_toArray, List.set_cons_zero, List.set_cons_succ]
        refine wpAnyH_take (i := 4) (oi := { dst := some 22, op := Op.load 84 (Operand.tmp 4), type := 84, pos := "desk.go:92", after := #[], guard := none }) (v := .agg (stpA y)) rfl (by kernel_rfl) (by kernel_rfl) (by kernel_rfl) (fun _ _ _ h => h) (Or.inl ⟨by kernel_rfl, fun W h => run_exec_load_whole 84 (.tmp 4) (by kernel_rfl) _ (by kernel_rfl) W 84 (stpA y) (0, 0) _ h.2 stp_under7 rfl stp_info7⟩) hS ?_
        try simp only [Act.put, List.setIfInBounds_toArray, List.set_cons_zero, List.set_cons_succ]
        refine wpAnyH_ready (rs := [5]) (by kernel_rfl) (by simp) ?_
        refine AllReadyH.cons (o := { dst := some 23, op := Op.call { callee := Callee.value (Operand.func 30), args := #[Operand.tmp 18, Operand.tmp 21, Operand.tmp 22], argTypes := #[25, 9, 84] }, type := 0, pos := "desk.go:92", after := #[{ on := 0, ground := Ground.data }, { on := 3, ground := Ground.data }, { on := 4, ground := Ground.data }], guard := none }) rfl (fun K hK => ?_) AllReadyH.nil
        rw [if_pos (by kernel_rfl)]
        go_simp
        refine (unhide O).mono ?_
        rintro e w9 ⟨rfl, h9, f9⟩
        have S9 : w9.cell? ⟨gw, 0, none⟩ = some (.string s) ∧ w9.heap[g4]? = some (.cells (stpA y) 84) := by
          obtain ⟨ds, hd⟩ := ((unhide H1).call b1).row
          have k1 := ((unhide H1).call b1).lo
          obtain ⟨c1, c2, f⟩ := k1.fo.it
          have e1 := f9.old gw (Array.getElem?_eq_some_iff.1 gw1).1 (row_ne gw1 hd (by decide)) (row_ne gw1 k1.root (by decide)) (row_ne gw1 f.root (by decide)) (row_ne gw1 f.row (by decide)) (.inr (nb_of gw1 (by decide)))
          have e2 := f9.old g4 (Array.getElem?_eq_some_iff.1 S1.2).1 (row_ne S1.2 hd (by decide)) (row_ne S1.2 k1.root (by decide)) (row_ne S1.2 f.root (by decide)) (row_ne S1.2 f.row (by decide)) (.inr (nb_of S1.2 (by decide)))
          refine ⟨?_, by rw [e2]; exact S1.2⟩
          have := S1.1
          unfold World.cell? at this ⊢
          rw [show w9.heap[(⟨gw, 0, none⟩ : Addr).block]? = wc.drew.heap[(⟨gw, 0, none⟩ : Addr).block]? from e1]
          exact this
        have R := hide (And.intro h9 ((unhide D1).trans ((De.of_below b1).trans f9)))
        clear h9 f9 O
        go_wp2_with fail
        refine hK.out _ _ (S9) (fun hS9 => ?_)
        clear hK K
        try simp only [Act.put, List.setIfInBounds_toArray, List.set_cons_zero, List.set_cons_succ]
        refine wpAnyH_done (by kernel_rfl) ?_ _
        clear hS hS9 S9 S1 gw1 b1
        go_wp2_with fail
        go_end0
        exact ⟨rfl, bf, bc, by rw [(unhide E).2]; exact (unhide R).1, (unhide R).2⟩
end
end Go.Proofs.YtfpfpnhpbnnmfadGreatDoor
