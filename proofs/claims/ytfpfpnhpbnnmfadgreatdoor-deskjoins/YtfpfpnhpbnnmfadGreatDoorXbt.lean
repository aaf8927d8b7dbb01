/-
  The walks of package desk: fill, filled, meant.
-/
import Derived.Test.YtfpfpnhpbnnmfadGreatDoorXbp
import Derived.Test.YtfpfpnhpbnnmfadGreatDoorXag
set_option linter.unusedVariables false
namespace Go.Proofs.YtfpfpnhpbnnmfadGreatDoor
open Go.RowKit
open Idl (Stp chk stpA strs)
theorem stp_set1 (x : Stp) (v : Int) : (stpA x).setIfInBounds 1 (.int .i64 v) = stpA ⟨x.kind, v, x.toDir, x.p, x.name, x.to, x.text⟩ := rfl
theorem stp_set2 (x : Stp) (v : Int) : (stpA x).setIfInBounds 2 (.int .i64 v) = stpA ⟨x.kind, x.dir, v, x.p, x.name, x.to, x.text⟩ := rfl
theorem stp_set3 (x : Stp) (v : Int) : (stpA x).setIfInBounds 3 (.int .i64 v) = stpA ⟨x.kind, x.dir, x.toDir, v, x.name, x.to, x.text⟩ := rfl
theorem stp_set4 (x : Stp) (v : ByteArray) : (stpA x).setIfInBounds 4 (.string v) = stpA ⟨x.kind, x.dir, x.toDir, x.p, v, x.to, x.text⟩ := rfl
theorem stp_set5 (x : Stp) (v : ByteArray) : (stpA x).setIfInBounds 5 (.string v) = stpA ⟨x.kind, x.dir, x.toDir, x.p, x.name, v, x.text⟩ := rfl
theorem stp_set6 (x : Stp) (v : ByteArray) : (stpA x).setIfInBounds 6 (.string v) = stpA ⟨x.kind, x.dir, x.toDir, x.p, x.name, x.to, v⟩ := rfl
/-- what fill leaves: the step in its box, or false -/
def FillIs (o : Option Stp) (g : Nat) (e : Ending) (W : World) : Prop :=
  ∃ y, W.heap[g]? = some (.cells (stpA y) 84) ∧ ((o = some y ∧ e = .returned (.bool true)) ∨ (o = none ∧ e = .returned (.bool false)))
theorem chg_set {W : World} {g o : Nat} {v : Value} : Idl.Chg (fun i => i = g) W (W.setCell ⟨g, o, none⟩ v) := ⟨rfl, rfl, rfl, by simp [World.setCell], fun k _ hk => Below.heap_setCell _ _ _ _ (fun e => hk e)⟩
theorem box_after {W V : World} {g o : Nat} {x : Stp} (hb : W.heap[g]? = some (.cells (stpA x) 84)) (b : Below W.heap.size W V) (v : Value) (y : Stp) (hy : (stpA x).setIfInBounds o v = stpA y) :
    (V.setCell ⟨g, o, none⟩ v).heap[g]? = some (.cells (stpA y) 84) ∧ Idl.Chg (fun i => i = g) W (V.setCell ⟨g, o, none⟩ v) ∧ V.frozen? ⟨g, o, none⟩ = false ∧ V.heap[g]? = some (.cells (stpA x) 84) := by
  have h1 : V.heap[g]? = some (.cells (stpA x) 84) := by rw [b.block _ (Array.getElem?_eq_some_iff.1 hb).1]; exact hb
  exact ⟨by rw [heap_set h1, hy], (Idl.Chg.of_below b).trans chg_set (fun i hi => .inl hi), Lib.frozen_of_heap h1 _, h1⟩
set_option maxHeartbeats 400000 in
set_option maxRecDepth 100000 in
theorem fill_d (g : Nat) (x : Stp) (s : ByteArray) (hs : s.size ≤ 100000) {W : World} (tb : Tabs W) (hb : W.heap[g]? = some (.cells (stpA x) 84)) :
    Calls Tryz.prog 76 #[.pointer (some ⟨g, 0, none⟩), .int .u8 68, .string s] W fun e w' => FillIs (Dsk.fill x 68 s) g e w' ∧ Idl.Chg (fun i => i = g) W w' := by
  have D := hide (number_any s hs W tb)
  have BX := hide (fun V (b : Below W.heap.size W V) => box_after hb b (.int .i64 (Dsk.num s)) ⟨x.kind, Dsk.num s, x.toDir, x.p, x.name, x.to, x.text⟩ (stp_set1 x (Dsk.num s)))
  have E := hide (show Dsk.fill x 68 s = some ⟨x.kind, Dsk.num s, x.toDir, x.p, x.name, x.to, x.text⟩ from rfl)
  clear hb tb
  go_enter Tryz.func76, Tryz.ntmps76
  go_wp2_with fail
  refine (unhide D).mono ?_
  rintro e w1 ⟨rfl, b1⟩
  have R := hide (unhide BX w1 b1)
  have fz := (unhide R).2.2.1
  obtain ⟨cv, hcv⟩ : ∃ v, w1.cell? ⟨g, 1, none⟩ = some v := ⟨_, by rw [cell_of_row _ _ _ _ _ _ (unhide R).2.2.2]; rfl⟩
  clear D BX b1
  go_wp2_with fail
  go_ret
  exact ⟨⟨_, (unhide R).1, .inl ⟨unhide E, rfl⟩⟩, (unhide R).2.1⟩
set_option maxHeartbeats 400000 in
set_option maxRecDepth 100000 in
theorem fill_n (g : Nat) (x : Stp) (s : ByteArray) (hs : s.size ≤ 100000) {W : World} (tb : Tabs W) (hb : W.heap[g]? = some (.cells (stpA x) 84)) :
    Calls Tryz.prog 76 #[.pointer (some ⟨g, 0, none⟩), .int .u8 78, .string s] W fun e w' => FillIs (Dsk.fill x 78 s) g e w' ∧ Idl.Chg (fun i => i = g) W w' := by
  have D := hide (clone_any s hs W)
  have BX := hide (fun V (b : Below W.heap.size W V) => box_after hb b (.string s) ⟨x.kind, x.dir, x.toDir, x.p, s, x.to, x.text⟩ (stp_set4 x s))
  have E := hide (show Dsk.fill x 78 s = some ⟨x.kind, x.dir, x.toDir, x.p, s, x.to, x.text⟩ from rfl)
  clear hb tb
  go_enter Tryz.func76, Tryz.ntmps76
  go_wp2_with fail
  refine (unhide D).mono ?_
  rintro e w1 ⟨rfl, b1⟩
  have R := hide (unhide BX w1 b1)
  have fz := (unhide R).2.2.1
  obtain ⟨cv, hcv⟩ : ∃ v, w1.cell? ⟨g, 4, none⟩ = some v := ⟨_, by rw [cell_of_row _ _ _ _ _ _ (unhide R).2.2.2]; rfl⟩
  clear D BX b1
  go_wp2_with fail
  go_ret
  exact ⟨⟨_, (unhide R).1, .inl ⟨unhide E, rfl⟩⟩, (unhide R).2.1⟩
set_option maxHeartbeats 400000 in
set_option maxRecDepth 100000 in
theorem fill_e (g : Nat) (x : Stp) (s : ByteArray) (hs : s.size ≤ 100000) {W : World} (tb : Tabs W) (hb : W.heap[g]? = some (.cells (stpA x) 84)) :
    Calls Tryz.prog 76 #[.pointer (some ⟨g, 0, none⟩), .int .u8 69, .string s] W fun e w' => FillIs (Dsk.fill x 69 s) g e w' ∧ Idl.Chg (fun i => i = g) W w' := by
  have D := hide (number_any s hs W tb)
  have BX := hide (fun V (b : Below W.heap.size W V) => box_after hb b (.int .i64 (Dsk.num s)) ⟨x.kind, x.dir, Dsk.num s, x.p, x.name, x.to, x.text⟩ (stp_set2 x (Dsk.num s)))
  have E := hide (show Dsk.fill x 69 s = some ⟨x.kind, x.dir, Dsk.num s, x.p, x.name, x.to, x.text⟩ from rfl)
  clear hb tb
  go_enter Tryz.func76, Tryz.ntmps76
  go_wp2_with fail
  refine (unhide D).mono ?_
  rintro e w1 ⟨rfl, b1⟩
  have R := hide (unhide BX w1 b1)
  have fz := (unhide R).2.2.1
  obtain ⟨cv, hcv⟩ : ∃ v, w1.cell? ⟨g, 2, none⟩ = some v := ⟨_, by rw [cell_of_row _ _ _ _ _ _ (unhide R).2.2.2]; rfl⟩
  clear D BX b1
  go_wp2_with fail
  go_ret
  exact ⟨⟨_, (unhide R).1, .inl ⟨unhide E, rfl⟩⟩, (unhide R).2.1⟩
set_option maxHeartbeats 400000 in
set_option maxRecDepth 100000 in
theorem fill_m (g : Nat) (x : Stp) (s : ByteArray) (hs : s.size ≤ 100000) {W : World} (tb : Tabs W) (hb : W.heap[g]? = some (.cells (stpA x) 84)) :
    Calls Tryz.prog 76 #[.pointer (some ⟨g, 0, none⟩), .int .u8 77, .string s] W fun e w' => FillIs (Dsk.fill x 77 s) g e w' ∧ Idl.Chg (fun i => i = g) W w' := by
  have D := hide (clone_any s hs W)
  have BX := hide (fun V (b : Below W.heap.size W V) => box_after hb b (.string s) ⟨x.kind, x.dir, x.toDir, x.p, x.name, s, x.text⟩ (stp_set5 x s))
  have E := hide (show Dsk.fill x 77 s = some ⟨x.kind, x.dir, x.toDir, x.p, x.name, s, x.text⟩ from rfl)
  clear hb tb
  go_enter Tryz.func76, Tryz.ntmps76
  go_wp2_with fail
  refine (unhide D).mono ?_
  rintro e w1 ⟨rfl, b1⟩
  have R := hide (unhide BX w1 b1)
  have fz := (unhide R).2.2.1
  obtain ⟨cv, hcv⟩ : ∃ v, w1.cell? ⟨g, 5, none⟩ = some v := ⟨_, by rw [cell_of_row _ _ _ _ _ _ (unhide R).2.2.2]; rfl⟩
  clear D BX b1
  go_wp2_with fail
  go_ret
  exact ⟨⟨_, (unhide R).1, .inl ⟨unhide E, rfl⟩⟩, (unhide R).2.1⟩
set_option maxHeartbeats 400000 in
set_option maxRecDepth 100000 in
theorem fill_p (g : Nat) (x : Stp) (s : ByteArray) (hs : s.size ≤ 100000) {W : World} (tb : Tabs W) (hb : W.heap[g]? = some (.cells (stpA x) 84)) :
    Calls Tryz.prog 76 #[.pointer (some ⟨g, 0, none⟩), .int .u8 80, .string s] W fun e w' => FillIs (Dsk.fill x 80 s) g e w' ∧ Idl.Chg (fun i => i = g) W w' := by
  have D := hide (number_any s hs W tb)
  have BX := hide (fun V (b : Below W.heap.size W V) => box_after hb b (.int .i64 (Dsk.num s)) ⟨x.kind, x.dir, x.toDir, Dsk.num s, x.name, x.to, x.text⟩ (stp_set3 x (Dsk.num s)))
  have E := hide (show Dsk.fill x 80 s = some ⟨x.kind, x.dir, x.toDir, Dsk.num s, x.name, x.to, x.text⟩ from rfl)
  clear hb tb
  go_enter Tryz.func76, Tryz.ntmps76
  go_wp2_with fail
  refine (unhide D).mono ?_
  rintro e w1 ⟨rfl, b1⟩
  have R := hide (unhide BX w1 b1)
  have fz := (unhide R).2.2.1
  obtain ⟨cv, hcv⟩ : ∃ v, w1.cell? ⟨g, 3, none⟩ = some v := ⟨_, by rw [cell_of_row _ _ _ _ _ _ (unhide R).2.2.2]; rfl⟩
  clear D BX b1
  go_wp2_with fail
  go_ret
  exact ⟨⟨_, (unhide R).1, .inl ⟨unhide E, rfl⟩⟩, (unhide R).2.1⟩
set_option maxHeartbeats 400000 in
set_option maxRecDepth 100000 in
theorem fill_b (g : Nat) (x : Stp) (s : ByteArray) (hs : s.size ≤ 100000) {W : World} (tb : Tabs W) (hb : W.heap[g]? = some (.cells (stpA x) 84)) :
    Calls Tryz.prog 76 #[.pointer (some ⟨g, 0, none⟩), .int .u8 66, .string s] W fun e w' => FillIs (Dsk.fill x 66 s) g e w' ∧ Idl.Chg (fun i => i = g) W w' := by
  have D := hide (number_any s hs W tb)
  have BX := hide (fun V (b : Below W.heap.size W V) => box_after hb b (.int .i64 (Dsk.num s)) ⟨x.kind, x.dir, x.toDir, Dsk.num s, x.name, x.to, x.text⟩ (stp_set3 x (Dsk.num s)))
  have E := hide (show Dsk.fill x 66 s = some ⟨x.kind, x.dir, x.toDir, Dsk.num s, x.name, x.to, x.text⟩ from rfl)
  clear hb tb
  go_enter Tryz.func76, Tryz.ntmps76
  go_wp2_with fail
  refine (unhide D).mono ?_
  rintro e w1 ⟨rfl, b1⟩
  have R := hide (unhide BX w1 b1)
  have fz := (unhide R).2.2.1
  obtain ⟨cv, hcv⟩ : ∃ v, w1.cell? ⟨g, 3, none⟩ = some v := ⟨_, by rw [cell_of_row _ _ _ _ _ _ (unhide R).2.2.2]; rfl⟩
  clear D BX b1
  go_wp2_with fail
  go_ret
  exact ⟨⟨_, (unhide R).1, .inl ⟨unhide E, rfl⟩⟩, (unhide R).2.1⟩
set_option maxHeartbeats 400000 in
set_option maxRecDepth 100000 in
theorem fill_t (g : Nat) (x : Stp) (s : ByteArray) (hs : s.size ≤ 100000) {W : World} (tb : Tabs W) (hb : W.heap[g]? = some (.cells (stpA x) 84)) :
    Calls Tryz.prog 76 #[.pointer (some ⟨g, 0, none⟩), .int .u8 84, .string s] W fun e w' => FillIs (Dsk.fill x 84 s) g e w' ∧ Idl.Chg (fun i => i = g) W w' := by
  have D := hide (Mean_any s (by omega) W)
  have BX := hide (fun V (b : Below W.heap.size W V) u => box_after hb b (.string u) ⟨x.kind, x.dir, x.toDir, x.p, x.name, x.to, u⟩ (stp_set6 x u))
  have E := hide (show Dsk.fill x 84 s = (Dsk.mean s).map fun t => ⟨x.kind, x.dir, x.toDir, x.p, x.name, x.to, t⟩ from rfl)
  clear hb tb
  go_enter Tryz.func76, Tryz.ntmps76
  go_wp2_with fail
  refine (unhide D).mono ?_
  rintro e w1 ⟨hm, b1⟩
  clear D
  rcases hm with ⟨u, hu, rfl⟩ | ⟨hu, rfl⟩
  · have E2 := hide (show Dsk.fill x 84 s = some ⟨x.kind, x.dir, x.toDir, x.p, x.name, x.to, ⟨u.toArray⟩⟩ by
      rw [unhide E]; unfold Dsk.mean; rw [(Dsk.meanL_iff _ _).2 hu]; rfl)
    have R := hide (unhide BX w1 b1 ⟨u.toArray⟩)
    have fz := (unhide R).2.2.1
    obtain ⟨cv, hcv⟩ : ∃ v, w1.cell? ⟨g, 6, none⟩ = some v := ⟨_, by rw [cell_of_row _ _ _ _ _ _ (unhide R).2.2.2]; rfl⟩
    clear BX b1 hu E
    go_wp2_with fail
    go_ret
    exact ⟨⟨_, (unhide R).1, .inl ⟨unhide E2, rfl⟩⟩, (unhide R).2.1⟩
  · have E2 := hide (show Dsk.fill x 84 s = none by
      rw [unhide E]; unfold Dsk.mean
      cases hc : Dsk.meanL s.toList with
      | none => rfl
      | some t => exact absurd ((Dsk.meanL_iff _ _).1 hc) (hu t))
    have R := hide (unhide BX w1 b1 ⟨#[]⟩)
    have fz := (unhide R).2.2.1
    obtain ⟨cv, hcv⟩ : ∃ v, w1.cell? ⟨g, 6, none⟩ = some v := ⟨_, by rw [cell_of_row _ _ _ _ _ _ (unhide R).2.2.2]; rfl⟩
    clear BX b1 hu E
    go_wp2_with fail
    go_ret
    exact ⟨⟨_, (unhide R).1, .inr ⟨unhide E2, rfl⟩⟩, (unhide R).2.1⟩
def letter (c : UInt8) : Prop := c = 68 ∨ c = 78 ∨ c = 69 ∨ c = 77 ∨ c = 80 ∨ c = 66 ∨ c = 84
theorem fill_any (g : Nat) (x : Stp) (c : UInt8) (hc : letter c) (s : ByteArray) (hs : s.size ≤ 100000) {W : World} (tb : Tabs W) (hb : W.heap[g]? = some (.cells (stpA x) 84)) :
    Calls Tryz.prog 76 #[.pointer (some ⟨g, 0, none⟩), .int .u8 (c.toNat : Int), .string s] W fun e w' => FillIs (Dsk.fill x c s) g e w' ∧ Idl.Chg (fun i => i = g) W w' := by
  rcases hc with rfl | rfl | rfl | rfl | rfl | rfl | rfl
  · exact fill_d g x s hs tb hb
  · exact fill_n g x s hs tb hb
  · exact fill_e g x s hs tb hb
  · exact fill_m g x s hs tb hb
  · exact fill_p g x s hs tb hb
  · exact fill_b g x s hs tb hb
  · exact fill_t g x s hs tb hb
/-- what meant and filled answer -/
def MeantIs (o : Option Stp) (e : Ending) : Prop := (∃ y, o = some y ∧ e = .returned (.tuple #[.agg (stpA y), .bool true])) ∨ (o = none ∧ e = .returned (.tuple #[.agg (stpA (Dsk.blank 0)), .bool false]))
end Go.Proofs.YtfpfpnhpbnnmfadGreatDoor
set_option linter.unusedVariables false
namespace Go.Proofs.YtfpfpnhpbnnmfadGreatDoor
open Go.RowKit
open Idl (Stp chk stpA strs)
def frmA (f : Dsk.Frm) : Array Value := #[.string f.word, .string f.places, .int .i64 f.kind]
theorem stp_zero (a : Int) : stpA (Dsk.blank a) = #[.int .i64 a, .int .i64 0, .int .i64 0, .int .i64 0, .string ⟨#[]⟩, .string ⟨#[]⟩, .string ⟨#[]⟩] := rfl
theorem stp_all (x : Stp) : (stpA x).all (·.oneCell') = true := by obtain ⟨a, b, c, d, e, f, g⟩ := x; kernel_rfl
/-- three boxes of filled -/
structure Fb (W V : World) (f : Dsk.Frm) (y : Stp) : Prop where
  bel : Below W.heap.size W V
  frm : V.heap[W.heap.size]? = some (.cells (frmA f) 118)
  res : V.heap[W.heap.size + 1]? = some (.cells (stpA (Dsk.blank 0)) 84)
  box : V.heap[W.heap.size + 2]? = some (.cells (stpA y) 84)
theorem Fb.start (W : World) (f : Dsk.Frm) : Fb W (((W.alloc (.cells (frmA f) 118)).alloc (.cells (stpA (Dsk.blank 0)) 84)).alloc (.cells (stpA (Dsk.blank f.kind)) 84)) f (Dsk.blank f.kind) := by
  have h0 := heap_alloc_last W (.cells (frmA f) 118)
  have s0 : (W.alloc (.cells (frmA f) 118)).heap.size = W.heap.size + 1 := by simp
  have h1 := heap_alloc_last (W.alloc (.cells (frmA f) 118)) (.cells (stpA (Dsk.blank 0)) 84)
  have s1 : ((W.alloc (.cells (frmA f) 118)).alloc (.cells (stpA (Dsk.blank 0)) 84)).heap.size = W.heap.size + 2 := by simp
  have h2 := heap_alloc_last ((W.alloc (.cells (frmA f) 118)).alloc (.cells (stpA (Dsk.blank 0)) 84)) (.cells (stpA (Dsk.blank f.kind)) 84)
  rw [s0] at h1
  rw [s1] at h2
  refine ⟨(((Below.refl _ W).alloc (Nat.le_refl _) _).alloc (by rw [s0]; omega) _).alloc (by rw [s1]; omega) _, ?_, ?_, h2⟩
  · rw [Below.heap_alloc _ _ _ (by rw [s1]; omega), Below.heap_alloc _ _ _ (by rw [s0]; omega)]; exact h0
  · rw [Below.heap_alloc _ _ _ (by rw [s1]; omega)]; exact h1
theorem Fb.next {W V V' : World} {f : Dsk.Frm} {y z : Stp} (h : Fb W V f y) (c : Idl.Chg (fun i => i = W.heap.size + 2) V V') (hz : V'.heap[W.heap.size + 2]? = some (.cells (stpA z) 84)) : Fb W V' f z := by
  have l1 := (Array.getElem?_eq_some_iff.1 h.frm).1
  have l2 := (Array.getElem?_eq_some_iff.1 h.res).1
  exact ⟨h.bel.trans (c.below h.bel.size (fun k hk => by omega)), by rw [c.block _ l1 (by omega)]; exact h.frm, by rw [c.block _ l2 (by omega)]; exact h.res, hz⟩
theorem fills_step (y : Stp) (P : List UInt8) (ws : List ByteArray) (i : Nat) (c : UInt8) (s : ByteArray) (hc : P[i]? = some c) (hs : ws[i]? = some s) : Dsk.fills y (P.drop i) (ws.drop i) = (Dsk.fill y c s).bind fun z => Dsk.fills z (P.drop (i + 1)) (ws.drop (i + 1)) := by
  obtain ⟨h1, e1⟩ := List.getElem?_eq_some_iff.1 hc
  obtain ⟨h2, e2⟩ := List.getElem?_eq_some_iff.1 hs
  rw [List.drop_eq_getElem_cons h1, List.drop_eq_getElem_cons h2, e1, e2]
  rfl
theorem fills_end (y : Stp) (P : List UInt8) (ws : List ByteArray) : Dsk.fills y P (ws.drop ws.length) = some y := by
  rw [List.drop_length]
  cases P <;> rfl
/-- a slice of words, anywhere -/
def Wds (W : World) (v : Value) (ws : List ByteArray) : Prop := ∃ a c, v = .slice a ws.length c ∧ ∀ (i : Nat) x, ws[i]? = some x → ∃ g o, a = some ⟨g, o, none⟩ ∧ W.cell? ⟨g, o + i, none⟩ = some (.string x)
theorem Wds.below {W V : World} {v : Value} {ws : List ByteArray} (h : Wds W v ws) (hb : Below W.heap.size W V) : Wds V v ws := by
  obtain ⟨a, c, e, h⟩ := h
  exact ⟨a, c, e, fun i x hx => by obtain ⟨g, o, e1, e2⟩ := h i x hx; exact ⟨g, o, e1, cell_below hb e2⟩⟩
set_option maxHeartbeats 2000000 in
set_option maxRecDepth 100000 in
theorem filled_any (f : Dsk.Frm) (hf : ∀ c ∈ f.places.toList, letter c) (ws : List ByteArray) (hw : ∀ s ∈ ws, s.size ≤ 100000) (hn : ws.length = f.places.size) (hN : ws.length ≤ 1000) (v : Value) (W : World) (hv : Wds W v ws) (tb : Tabs W) :
    Calls Tryz.prog 49 #[.agg (frmA f), v] W fun e w' => MeantIs (Dsk.fills (Dsk.blank f.kind) f.places.toList ws) e ∧ Below W.heap.size W w' := by
  obtain ⟨a, cp, rfl, hc⟩ := hv
  have F0 := hide (Fb.start W f)
  have HC := hide hc
  have HF := hide hf
  have HW := hide hw
  have TB := hide tb
  have HNN := hide hn
  have k0 : ((W.alloc (.cells (frmA f) 118)).alloc (.cells (stpA (Dsk.blank 0)) 84)).cell? ⟨W.heap.size, 2, none⟩ = some (.int .i64 f.kind) := by
    have h0 := heap_alloc_last W (.cells (frmA f) 118)
    have h1 : ((W.alloc (.cells (frmA f) 118)).alloc (.cells (stpA (Dsk.blank 0)) 84)).heap[W.heap.size]? = some (.cells (frmA f) 118) := by rw [Below.heap_alloc _ _ _ (by simp)]; exact h0
    rw [cell_of_row _ _ _ _ _ _ h1]; rfl
  clear hc hf hw tb hn
  rw [stp_zero] at F0
  rw [stp_zero] at F0
  rw [stp_zero] at k0
  go_enter Tryz.func49, Tryz.ntmps49
  go_wp2_with fail
  generalize hV : World.alloc _ _ = V0 at F0 ⊢
  clear hV k0
  go_loopw [14] (fun s wr => ∃ (i : Nat) (y : Stp), i ≤ ws.length ∧ s = .int .i64 i ∧ Hid (Fb W wr f y) ∧ Hid (Dsk.fills (Dsk.blank f.kind) f.places.toList ws = Dsk.fills y (f.places.toList.drop i) (ws.drop i))) (fun s _ => ws.length - (intOf s).toNat)
  case atStart => exact ⟨0, _, Nat.zero_le _, rfl, F0, hide rfl⟩
  case round =>
    clear F0
    obtain ⟨i, y, hi, rfl, F1, E1⟩ := hrel
    by_cases hlt : i < ws.length
    case pos =>
      have hz : (i : Int) < (ws.length : Int) := by omega
      have hip : i < f.places.size := by have := unhide HNN; omega
      have hzp : (i : Int) < (f.places.size : Int) := by omega
      obtain ⟨s, hs⟩ : ∃ s, ws[i]? = some s := ⟨_, List.getElem?_eq_getElem hlt⟩
      obtain ⟨g, o, rfl, hcl⟩ := unhide HC i s hs
      have hcW : wr.cell? ⟨g, o + i, none⟩ = some (.string s) := cell_below (unhide F1).bel hcl
      have hpl : wr.cell? ⟨W.heap.size, 1, none⟩ = some (.string f.places) := by rw [cell_of_row _ _ _ _ _ _ (unhide F1).frm]; rfl
      have hcp : f.places.toList[i]? = some (f.places[i]) := by
        rw [ByteArray.toList_eq]
        exact List.getElem?_eq_getElem (show i < f.places.data.toList.length from hip)
      have E2 := hide (fills_step y f.places.toList ws i _ s hcp hs)
      have D := hide (fill_any (W.heap.size + 2) y (f.places[i]) (unhide HF _ (List.mem_of_getElem? hcp)) s (unhide HW s (List.mem_of_getElem? hs)) ((unhide TB).at (unhide F1).bel) (unhide F1).box)
      clear hcl hcp
      go_wp2_with fail
      refine (unhide D).mono ?_
      rintro e w2 ⟨⟨z, hz2, hor⟩, c2⟩
      have F2 := hide ((unhide F1).next c2 hz2)
      rcases hor with ⟨ho, rfl⟩ | ⟨ho, rfl⟩
      · have E3 := hide (show Dsk.fills (Dsk.blank f.kind) f.places.toList ws = Dsk.fills z (f.places.toList.drop (i + 1)) (ws.drop (i + 1)) by rw [unhide E1, unhide E2, ho]; rfl)
        clear c2 hz2 ho D E2 E1 F1 hcW hpl
        go_wp2_with fail
        go_roundw
        case rel => exact ⟨i + 1, z, by omega, by go_num, F2, E3⟩
        case measure => simp [intOf]; omega
      · have E3 := hide (show Dsk.fills (Dsk.blank f.kind) f.places.toList ws = none by rw [unhide E1, unhide E2, ho]; rfl)
        have rz := hide (unhide F2).res
        clear c2 hz2 ho D E2 E1 F1 hcW hpl
        rw [stp_zero] at rz
        go_wp2_with (have hx := unhide rz; refine wpList_store_row rfl 84 _ _ rfl (W.heap.size + 1) #[.int .i64 0, .int .i64 0, .int .i64 0, .int .i64 0, .string ⟨#[]⟩, .string ⟨#[]⟩, .string ⟨#[]⟩] rfl rfl 84 _ hx stp_info7 rfl (stp_all (Dsk.blank 0)) ?_; clear hx)
        refine bodyPost_ret (v := .tuple #[.agg (stpA (Dsk.blank 0)), .bool false]) ?_ rfl ⟨.inr ⟨unhide E3, rfl⟩, below_setRow (unhide F2).bel (by omega) _⟩
        exact results_row_tmp (P := Tryz.prog) Tryz.results49 _ _ (W.heap.size + 1) 84 _ (0, 0) _ _ rfl rfl (setRow_heap _ _ _ _ _ _ (unhide rz)) stp_under7 rfl stp_info7
    case neg =>
      have hz : ¬ (i : Int) < (ws.length : Int) := by omega
      obtain rfl : i = ws.length := by omega
      have E3 := hide (show Dsk.fills (Dsk.blank f.kind) f.places.toList ws = some y by rw [unhide E1]; exact fills_end y _ ws)
      have rz := hide (unhide F1).res
      have bx := hide (unhide F1).box
      go_wp2_with (first | (have hx := unhide bx; refine wpList_load_row rfl 84 _ rfl (W.heap.size + 2) rfl 84 (stpA y) (0, 0) _ hx stp_under7 rfl stp_info7 ?_; clear hx bx) | (have hx := unhide rz; refine wpList_store_row rfl 84 _ _ rfl (W.heap.size + 1) (stpA y) rfl rfl 84 _ hx stp_info7 rfl (stp_all y) ?_; clear hx))
      refine bodyPost_ret (v := .tuple #[.agg (stpA y), .bool true]) ?_ rfl ⟨.inl ⟨y, unhide E3, rfl⟩, below_setRow (unhide F1).bel (by omega) _⟩
      exact results_row_tmp (P := Tryz.prog) Tryz.results49 _ _ (W.heap.size + 1) 84 _ (0, 0) _ _ rfl rfl (setRow_heap _ _ _ _ _ _ (unhide rz)) stp_under7 rfl stp_info7
end Go.Proofs.YtfpfpnhpbnnmfadGreatDoor
