/-
  The walks of package life: Step, Crashes, Lost. (Written by genhd.py.)
-/
import Derived.Test.YtfpfpnhpbnnmfadGreatDoorXbh
import Derived.Test.YtfpfpnhpbnnmfadGreatDoorXbo
import Derived.Test.YtfpfpnhpbnnmfadGreatDoorXbc
namespace Go.Proofs.YtfpfpnhpbnnmfadGreatDoor
open Go.RowKit
open Idl (Stp chk stpA)
section
variable {w W W' : World} {bl bf bc : Nat} {S : Lv}
theorem Lv.step_seven (S : Lv) {x : Stp} (h : x.kind = 7) : S.step x = { S with disk := Img.write S.now S.disk x.p } ∧ S.code x = (if Img.inB x.p = true then 0 else 1) := by
  unfold Lv.step Lv.code Img.lnow Img.ldisk Img.llast Img.lcode
  rw [h]; exact ⟨rfl, rfl⟩
theorem Lv.step_eight (S : Lv) {x : Stp} (h : x.kind = 8) : S.step x = { S with disk := (Img.syn S.now 8 S.disk).2 } ∧ S.code x = 0 := by
  unfold Lv.step Lv.code Img.lnow Img.ldisk Img.llast Img.lcode
  rw [h]; exact ⟨rfl, rfl⟩
theorem Lv.step_nine (S : Lv) {x : Stp} (h : x.kind = 9) : S.step x = S.crash ∧ S.code x = 0 := by
  unfold Lv.step Lv.code Img.lcode
  rw [if_pos h, if_pos h]; exact ⟨rfl, rfl⟩
theorem Lv.step_file (S : Lv) {x : Stp} (h : x.kind ≠ 7 ∧ x.kind ≠ 8 ∧ x.kind ≠ 9) : S.step x = { S with now := Img.sstep S.now S.disk S.last x, last := Img.slast S.now S.disk S.last x } ∧ S.code x = Img.scode S.now S.disk x := by
  obtain ⟨h1, h2, h3⟩ := h
  unfold Lv.step Lv.code Img.lnow Img.ldisk Img.llast Img.lcode
  simp only [if_neg h1, if_neg h2, if_neg h3, if_neg (show ¬ (x.kind = 7 ∨ x.kind = 8) by omega)]
  exact ⟨trivial, trivial⟩
theorem Op1.ld_files {o : Oper} {ρ : Operand → Value} (x : Operand) (ho : o.op = .load 60 x) {g o0 : Nat} (hx : ρ x = .pointer (some ⟨g, o0, none⟩)) {p : Option Addr} (w : World) (h : w.cell? ⟨g, o0, none⟩ = some (.pointer p)) : (execOp ρ o).run Tryz.prog w = .ok (.value (.pointer p)) w := by
  unfold execOp
  rw [ho]
  go_simp
theorem Lc.below {B : World} {bf' bc' : Nat} (hb : Below W.heap.size W B) (h : Lc bl bf bc bf' bc' B W') : Lc bl bf bc bf' bc' W W' := (Lc.of_below hb).trans h
theorem stp_info7 : (Tryz.prog.info? 84).map (·.size) = some 7 := by kernel_rfl
theorem stp_under7 : Tryz.prog.underlying 84 = some (.struct (Tryz.prog.fieldsOf 84)) := by kernel_rfl
set_option maxHeartbeats 2000000 in
set_option maxRecDepth 100000 in
theorem lStep_none (h : Lo w bl bf bc S W) {n : Nat} (hO : S.Ok n) (hn : n ≤ 1000000) (x : Stp) (hx : x.kind = 7 ∨ x.kind = 8 ∨ x.kind = 9) :
    Calls Tryz.prog 52 #[.pointer (some ⟨bl, 0, none⟩), .agg (stpA x)] W fun e w' => e = .returned (.int .i64 (S.code x)) ∧ ∃ bf' bc', Lo w bl bf' bc' (S.step x) w' ∧ Lc bl bf bc bf' bc' W w' := by
  have hB : Below W.heap.size W (W.alloc (.cells (stpA x) 84)) := (Below.refl _ W).alloc (Nat.le_refl _) _
  have L1 := hide (h.call hB)
  have BB := hide hB
  have r1 : (W.alloc (.cells (stpA x) 84)).heap[W.heap.size]? = some (.cells (stpA x) 84) := heap_alloc_last _ _
  have e0 : (W.alloc (.cells (stpA x) 84)).cell? ⟨W.heap.size, 0, none⟩ = some (.int .i64 x.kind) := by rw [cell_of_row _ _ _ _ _ _ r1]; rfl
  have e3 : (W.alloc (.cells (stpA x) 84)).cell? ⟨W.heap.size, 3, none⟩ = some (.int .i64 x.p) := by rw [cell_of_row _ _ _ _ _ _ r1]; rfl
  have c1 := (unhide L1).ptr
  have c2 := (unhide L1).ptr2
  have C7 := hide (lWrite_any (unhide L1) x.p)
  have C8 := hide (unhide L1).fo.sync
  have C9 := hide (lCrash_any (unhide L1) hO.hold.ok ⟨hO.cr0, by have := hO.crn; omega⟩)
  clear h hB r1 hO hn
  obtain ⟨kind, dir, toDir, p, name, tu, text⟩ := x
  simp only at hx
  rcases hx with rfl | rfl | rfl
  · rw [(S.step_seven (x := ⟨7, dir, toDir, p, name, tu, text⟩) rfl).1, (S.step_seven (x := ⟨7, dir, toDir, p, name, tu, text⟩) rfl).2]
    simp only [stpA] at L1 BB e0 e3 c1 c2 C7 C8 C9 ⊢
    generalize (if Img.inB p = true then (0 : Int) else 1) = cd at C7 ⊢
    go_enter Tryz.func52, Tryz.ntmps52
    go_wp2_with fail
    refine (unhide C7).mono ?_
    rintro e w' ⟨rfl, h1, h2⟩
    have R := hide (And.intro h1 (h2.below (unhide BB)))
    clear h1 h2
    go_wp2_with fail
    go_ret
    exact ⟨rfl, bf, bc, (unhide R).1, (unhide R).2⟩
  · rw [(S.step_eight (x := ⟨8, dir, toDir, p, name, tu, text⟩) rfl).1, (S.step_eight (x := ⟨8, dir, toDir, p, name, tu, text⟩) rfl).2]
    simp only [stpA] at L1 BB e0 e3 c1 c2 C7 C8 C9
    go_enter Tryz.func52, Tryz.ntmps52
    go_wp2_with fail
    refine (unhide C8).mono ?_
    rintro e w' ⟨rfl, h1, h2⟩
    have R0 := Fo.fmut (unhide L1) h1 h2
    have R := hide (And.intro R0.1 (R0.2.below (unhide BB)))
    clear h1 h2 R0
    go_wp2_with fail
    go_ret
    exact ⟨rfl, bf, bc, (unhide R).1, (unhide R).2⟩
  · rw [(S.step_nine (x := ⟨9, dir, toDir, p, name, tu, text⟩) rfl).1, (S.step_nine (x := ⟨9, dir, toDir, p, name, tu, text⟩) rfl).2]
    simp only [stpA] at L1 BB e0 e3 c1 c2 C7 C8 C9
    go_enter Tryz.func52, Tryz.ntmps52
    go_wp2_with fail
    refine (unhide C9).mono ?_
    rintro e w' ⟨rfl, bf', bc', h1, h2⟩
    have R := hide (And.intro h1 (h2.below (unhide BB)))
    clear h1 h2
    go_wp2_with fail
    go_ret
    exact ⟨rfl, bf', bc', (unhide R).1, (unhide R).2⟩
set_option maxHeartbeats 2000000 in
set_option maxRecDepth 100000 in
theorem lStep_file (h : Lo w bl bf bc S W) {n : Nat} (hO : S.Ok n) (hn : n ≤ 1000000) (x : Stp) (h1 : x.name.size ≤ maxLen) (h2 : x.to.size ≤ maxLen) (h3 : x.text.size ≤ maxLen) (hx : x.kind ≠ 7 ∧ x.kind ≠ 8 ∧ x.kind ≠ 9) :
    Calls Tryz.prog 52 #[.pointer (some ⟨bl, 0, none⟩), .agg (stpA x)] W fun e w' => e = .returned (.int .i64 (S.code x)) ∧ ∃ bf' bc', Lo w bl bf' bc' (S.step x) w' ∧ Lc bl bf bc bf' bc' W w' := by
  have hB : Below W.heap.size W (W.alloc (.cells (stpA x) 84)).drew := ((Below.refl _ W).alloc (Nat.le_refl _) _).drew
  have L1 := hide (h.call hB)
  have BB := hide hB
  have hl := h.lt
  have r1 : (W.alloc (.cells (stpA x) 84)).heap[W.heap.size]? = some (.cells (stpA x) 84) := heap_alloc_last _ _
  have R1 := hide (show (W.alloc (.cells (stpA x) 84)).drew.heap[W.heap.size]? = some (.cells (stpA x) 84) from r1)
  have e0 : (W.alloc (.cells (stpA x) 84)).cell? ⟨W.heap.size, 0, none⟩ = some (.int .i64 x.kind) := by rw [cell_of_row _ _ _ _ _ _ r1]; rfl
  have k7 : (x.kind == 7) = false := by simpa using hx.1
  have k8 : (x.kind == 8) = false := by simpa using hx.2.1
  have k9 : (x.kind == 9) = false := by simpa using hx.2.2
  have NX := hide (show W.heap.size ≠ bl ∧ W.heap.size ≠ bf ∧ W.heap.size ≠ bc by have := h.fo.cells.2.1; have := h.fo.cells.2.2.1; omega)
  have CF := hide ((unhide L1).fo.step hO.hold.good (by have := hO.few; omega) x h1 h2 h3)
  rw [(S.step_file hx).1, (S.step_file hx).2]
  clear h hB r1 hO hn h1 h2 h3 hx
  go_enter Tryz.func52, Tryz.ntmps52
  go_upto_region 9 with fail
  refine wp_region_held_drew (S := fun V => V.cell? ⟨bl, 0, none⟩ = some (.pointer (some ⟨bf, 0, none⟩)) ∧ V.heap[W.heap.size]? = some (.cells (stpA x) 84)) (by kernel_rfl) (⟨(unhide L1).ptr, unhide R1⟩) (fun hS => ?_)
  refine wpAnyH_take (i := 0) (oi := { dst := some 27, op := Op.move (Operand.tmp 0), type := 39, pos := "life.go:37", after := #[], guard := none }) (v := .pointer (some ⟨bl, 0, none⟩)) rfl (by kernel_rfl) (by kernel_rfl) (by kernel_rfl) (fun _ _ _ h => h) (Or.inl ⟨by kernel_rfl, fun W h => (by first | kernel_rfl | go_simp)⟩) hS ?_
  try simp only [Act.put, List.setIfInBounds_toArray, List.set_cons_zero, List.set_cons_succ]
  refine wpAnyH_take (i := 1) (oi := { dst := some 28, op := Op.nilCheck (Operand.tmp 27), type := 0, pos := "life.go:37", after := #[{ on := 0, ground := Ground.data }], guard := none }) (v := .pointer (some ⟨bl, 0, none⟩)) rfl (by kernel_rfl) (by kernel_rfl) (by kernel_rfl) (fun _ _ _ h => h) (Or.inl ⟨by kernel_rfl, fun W h => (by first | kernel_rfl | go_simp)⟩) hS ?_
  try simp only [Act.put, List.setIfInBounds_toArray, List.set_cons_zero, List.set_cons_succ]
  refine wpAnyH_take (i := 2) (oi := { dst := some 29, op := Op.fieldAddr 65 (Operand.tmp 28) 0, type := 0, pos := "life.go:37", after := #[{ on := 1, ground := Ground.data }], guard := none }) (v := .pointer (some ⟨bl, 0, none⟩)) rfl (by kernel_rfl) (by kernel_rfl) (by kernel_rfl) (fun _ _ _ h => h) (Or.inl ⟨by kernel_rfl, fun W h => (by first | kernel_rfl | go_simp)⟩) hS ?_
  try simp only [Act.put, List.setIfInBounds_toArray, List.set_cons_zero, List.set_cons_succ]
  refine wpAnyH_take (i := 3) (oi := { dst := some 30, op := Op.load 60 (Operand.tmp 29), type := 60, pos := "life.go:37", after := #[{ on := 2, ground := Ground.data }], guard := none }) (v := .pointer (some ⟨bf, 0, none⟩)) rfl (by kernel_rfl) (by kernel_rfl) (by kernel_rfl) (fun _ _ _ h => h) (Or.inl ⟨by kernel_rfl, fun W h => Op1.ld_files (.tmp 29) (by kernel_rfl) (by kernel_rfl) W h.1⟩) hS ?_
  try simp only [Act.put, List.setIfInBounds_toArray, List.set_cons_zero, List.set_cons_succ]
  refine wpAnyH_take (i := 4) (oi := { dst := some 31, op := Op.load 84 (Operand.tmp 3), type := 84, pos := "life.go:37", after := #[], guard := none }) (v := .agg (stpA x)) rfl (by kernel_rfl) (by kernel_rfl) (by kernel_rfl) (fun _ _ _ h => h) (Or.inl ⟨by kernel_rfl, fun W h => run_exec_load_whole 84 (.tmp 3) (by kernel_rfl) _ (by kernel_rfl) W 84 (stpA x) (0, 0) _ h.2 stp_under7 rfl stp_info7⟩) hS ?_
  try simp only [Act.put, List.setIfInBounds_toArray, List.set_cons_zero, List.set_cons_succ]
  refine wpAnyH_ready (rs := [5]) (by kernel_rfl) (by simp) ?_
  refine AllReadyH.cons (o := { dst := some 32, op := Op.call { callee := Callee.value (Operand.func 81), args := #[Operand.tmp 30, Operand.tmp 31], argTypes := #[60, 84] }, type := 3, pos := "life.go:37", after := #[{ on := 3, ground := Ground.data }, { on := 4, ground := Ground.data }], guard := none }) rfl (fun K hK => ?_) AllReadyH.nil
  rw [if_pos (by kernel_rfl)]
  go_simp
  refine (unhide CF).mono ?_
  rintro e w2 ⟨rfl, hf, hc⟩
  have rl : w2.heap[bl]? = some (.cells (lvA bf S) 65) := by rw [hc.block bl (unhide L1).lt (fun z => by rcases z with z | z; exact (unhide L1).nf z; exact (unhide L1).nc z)]; exact (unhide L1).root
  have rb : w2.heap[W.heap.size]? = some (.cells (stpA x) 84) := by rw [hc.block _ (Array.getElem?_eq_some_iff.1 (unhide R1)).1 (fun z => by rcases z with z | z; exact (unhide NX).2.1 z; exact (unhide NX).2.2 z)]; exact unhide R1
  have S2 : w2.cell? ⟨bl, 0, none⟩ = some (.pointer (some ⟨bf, 0, none⟩)) ∧ w2.heap[W.heap.size]? = some (.cells (stpA x) 84) := ⟨by rw [cell_of_row _ _ _ _ _ _ rl]; rfl, rb⟩
  have FF := hide (show Lo w bl bf bc { S with now := Img.sstep S.now S.disk S.last x, last := Img.slast S.now S.disk S.last x } w2 ∧ Lc bl bf bc bf bc W w2 from ⟨⟨hf, rl, (unhide L1).l0, (unhide L1).nf, (unhide L1).nc⟩, Nat.le_trans (unhide BB).size hc.size, fun j hj a b c => by rw [hc.block j (Nat.lt_of_lt_of_le hj (unhide BB).size) (fun z => by rcases z with z | z; exact b z; exact c z), (unhide BB).block j hj], .inl ⟨rfl, rfl⟩⟩)
  clear hf hc rl rb
  go_wp2_with fail
  refine hK.out _ _ (S2) (fun hS2 => ?_)
  clear hK K
  try simp only [Act.put, List.setIfInBounds_toArray, List.set_cons_zero, List.set_cons_succ]
  refine wpAnyH_take (i := 6) (oi := { dst := some 4, op := Op.assign (Operand.tmp 32), type := 3, pos := "life.go:37", after := #[{ on := 5, ground := Ground.data }, { on := 5, ground := Ground.chain }, { on := 0, ground := Ground.phase }, { on := 1, ground := Ground.phase }, { on := 2, ground := Ground.phase }, { on := 3, ground := Ground.phase }, { on := 4, ground := Ground.phase }, { on := 5, ground := Ground.phase }], guard := none }) (v := .int .i64 (Img.scode S.now S.disk x)) rfl (by kernel_rfl) (by kernel_rfl) (by kernel_rfl) (fun _ _ _ h => h) (Or.inl ⟨by kernel_rfl, fun W h => (by first | kernel_rfl | go_simp)⟩) hS2 ?_
  try simp only [Act.put, List.setIfInBounds_toArray, List.set_cons_zero, List.set_cons_succ]
  refine wpAnyH_done (by kernel_rfl) ?_ _
  clear hS hS2
  go_wp2_with fail
  go_ret
  exact ⟨rfl, bf, bc, (unhide FF).1, (unhide FF).2⟩
theorem lStep_any (h : Lo w bl bf bc S W) {n : Nat} (hO : S.Ok n) (hn : n ≤ 1000000) (x : Stp) (h1 : x.name.size ≤ maxLen) (h2 : x.to.size ≤ maxLen) (h3 : x.text.size ≤ maxLen) :
    Calls Tryz.prog 52 #[.pointer (some ⟨bl, 0, none⟩), .agg (stpA x)] W fun e w' => e = .returned (.int .i64 (S.code x)) ∧ ∃ bf' bc', Lo w bl bf' bc' (S.step x) w' ∧ Lc bl bf bc bf' bc' W w' := by
  by_cases hx : x.kind = 7 ∨ x.kind = 8 ∨ x.kind = 9
  · exact lStep_none h hO hn x hx
  · exact lStep_file h hO hn x h1 h2 h3 (by omega)
set_option maxHeartbeats 1000000 in
set_option maxRecDepth 100000 in
theorem lCrashes_any (h : Lo w bl bf bc S W) : Calls Tryz.prog 64 #[.pointer (some ⟨bl, 0, none⟩)] W fun e w' => e = .returned (.int .i64 S.cr) ∧ w' = W := by
  have c1 := h.crs
  clear h
  go_enter Tryz.func64, Tryz.ntmps64
  go_wp2_with fail
  go_ret
  exact ⟨rfl, rfl⟩
set_option maxHeartbeats 1000000 in
set_option maxRecDepth 100000 in
theorem lLost_any (h : Lo w bl bf bc S W) : Calls Tryz.prog 62 #[.pointer (some ⟨bl, 0, none⟩)] W fun e w' => e = .returned (.agg (lostA S.lf S.lc S.ld)) ∧ Below W.heap.size W w' := by
  have hl := h.lt
  have r0 := h.root
  have r1 := hide (show (W.alloc (.cells (lostA 0 0 0) 63)).heap[bl]? = some (.cells (lvA bf S) 65) by rw [Below.heap_alloc _ _ _ hl]; exact r0)
  have s1 := hide (heap_alloc_last W (.cells (lostA 0 0 0) 63))
  have ex : (lvA bf S).extract 2 (2 + 3) = lostA S.lf S.lc S.ld := rfl
  clear h r0
  unfold lostA at s1 r1
  go_enter Tryz.func62, Tryz.ntmps62
  go_wp2_with (first | (have hx := unhide r1; refine wpList_load_part rfl 63 _ rfl bl 2 3 rfl 65 (lvA bf S) _ hx lost_under rfl lost_info (by unfold lvA; simp) ?_; rw [ex]; clear hx r1) | (have hx := unhide s1; refine wpList_store_row rfl 63 _ _ rfl W.heap.size (lostA S.lf S.lc S.ld) rfl rfl 63 _ hx lost_info rfl (lost_all S.lf S.lc S.ld) ?_; clear hx))
  refine bodyPost_ret (v := .agg (lostA S.lf S.lc S.ld)) ?_ rfl ⟨rfl, below_setRow ((Below.refl _ _).alloc (Nat.le_refl _) _) (Nat.le_refl _) _⟩
  exact results_cell_row (P := Tryz.prog) Tryz.results62 _ _ W.heap.size 63 _ (0, 0) _ rfl (setRow_heap _ _ _ _ _ _ (unhide s1)) lost_under rfl lost_info
end
end Go.Proofs.YtfpfpnhpbnnmfadGreatDoor
namespace Go.Proofs.YtfpfpnhpbnnmfadGreatDoor
open Go.RowKit
open Idl (Stp chk stpA strs one_new one_str)
section
variable {P : Program}
/-- an operation that yields a value and leaves the world as it is -/
theorem wpList_value {ops : Array Oper} {rest : List Oper} {o : Oper} {a : Act} {w : World} {Q : Exit → Act → World → Prop} (hgd : o.guard = none) {v : Value} (h0 : (execOp a.eval o).run P w = .ok (.value v) w)
    (h : wpList P ops Q rest (a.put o.dst v) w) : wpList P ops Q (o :: rest) a w :=
  wpList_plain hgd fun _ hK => by
    unfold Oper.wp
    rw [h0]
    exact hK _ _ h
end
section
variable {w W W' : World} {bl bf bc : Nat} {S : Lv}
theorem Img.Hold.clean {m k : Img} {last : Int} (h : Img.Hold m k last) : Img.Hold m m last := ⟨h.good, h.good.ex.ok, Img.fit_self h.good.ex.ok, fun n hn hl => h.good.last n hn hl⟩
theorem Lo.clean (h : Lo w bl bf bc S W) (ha : Img.Agree S.now S.disk) : Lo w bl bf bc { S with disk := S.now } W := by
  refine ⟨?_, h.root, h.l0, h.nf, h.nc⟩
  obtain ⟨⟨cs, ds, f⟩, h2, h3, h4⟩ := h.fo
  have e : cs = ds := f.now.agree f.disk ha
  subst e
  exact ⟨⟨cs, cs, f.root, f.row, f.now, f.now, f.ne⟩, h2, h3, h4⟩
theorem Lv.Ok.clean {n : Nat} (h : S.Ok n) : Lv.Ok { S with disk := S.now } n := ⟨h.hold.clean, h.few, h.cr0, h.crn⟩
end
namespace Lif

end Lif
end Go.Proofs.YtfpfpnhpbnnmfadGreatDoor
set_option linter.unusedVariables false
namespace Go.Proofs.YtfpfpnhpbnnmfadGreatDoor
open Go.RowKit
open Idl (Stp chk stpA strs)
namespace Dsk
def cat : List (List UInt8) → List UInt8
  | [] => []
  | x :: r => 32 :: (x ++ cat r)
theorem cat_append : ∀ a b, cat (a ++ b) = cat a ++ cat b
  | [], _ => rfl
  | x :: a, b => by show 32 :: (x ++ cat (a ++ b)) = 32 :: (x ++ cat a) ++ cat b; rw [cat_append]; simp
theorem tail_cat : ∀ r, Txt.tailW r = cat r ++ [10]
  | [] => rfl
  | x :: r => by show 32 :: (x ++ Txt.tailW r) = _; rw [tail_cat r]; simp [cat]
/-- what is told when i of the words behind the first are -/
def pre (l : List UInt8) (x : List UInt8) (ws : List (List UInt8)) (i : Nat) : List UInt8 := l ++ (x ++ cat (ws.take i))
theorem pre_zero (l x : List UInt8) (ws : List (List UInt8)) : pre l x ws 0 = l ++ x := by simp [pre, cat]
theorem pre_succ {l x y : List UInt8} {ws : List (List UInt8)} {i : Nat} (h : ws[i]? = some y) : pre l x ws (i + 1) = (pre l x ws i ++ [32]) ++ y := by
  unfold pre
  rw [List.take_add_one, h, cat_append]
  simp [cat]
theorem pre_all (l x : List UInt8) (ws : List (List UInt8)) : pre l x ws ws.length ++ [10] = l ++ Txt.line (x :: ws) := by
  unfold pre
  rw [List.take_length, show Txt.line (x :: ws) = x ++ Txt.tailW ws from rfl, tail_cat]
  simp
theorem pre_len (l x : List UInt8) (ws : List (List UInt8)) (i : Nat) : (pre l x ws i).length + 1 ≤ l.length + (Txt.line (x :: ws)).length := by
  have h := congrArg List.length (pre_all l x ws)
  have h2 : (pre l x ws i).length ≤ (pre l x ws ws.length).length := by
    unfold pre
    have := congrArg List.length (cat_append (ws.take i) (ws.drop i))
    rw [List.take_append_drop, List.length_append] at this
    rw [List.take_length]
    simp only [List.length_append]
    omega
  simp only [List.length_append, List.length_cons, List.length_nil] at h
  omega
end Dsk
theorem Fo.drt9 {w W : World} {bf bc : Nat} {m k : Img} {last : Int} (h : Fo w bf bc m k last W) (b : Int) : Calls Tryz.prog 92 #[.pointer (some ⟨bc, 0, none⟩), .int .i64 b] W fun e w' => e = .returned (.bool (Img.dirty m k b)) ∧ Below W.heap.size W w' := by
  obtain ⟨cs, ds, f⟩ := h.it
  exact cDirty_any bc cs ds m k f.now f.disk b W f.row
section
variable {w W W' : World} {B bd bl bf bc : Nat} {S : Lv} {l : List UInt8}
theorem df_cell (hd : Df B bd W W') {g : Nat} (hl : g < W.heap.size) (hn : g ≠ bd) (hb : NB W g) {o : Nat} {v : Value} (h : W.cell? ⟨g, o, none⟩ = some v) : W'.cell? ⟨g, o, none⟩ = some v := by
  unfold World.cell? at h ⊢
  rw [show W'.heap[(⟨g, o, none⟩ : Addr).block]? = W.heap[(⟨g, o, none⟩ : Addr).block]? from hd.old g hl hn (.inr hb)]
  exact h
/-- a slice of words -/
theorem strs_form {B0 : Nat} {ws : List ByteArray} {v : Value} (hv : W.ownsRow B0 9 1 v ws.length (strs ws)) (hd : ∃ cs, W.heap[bd]? = some (.cells cs 46)) : ∃ a c, v = .slice a ws.length c ∧ ∀ (i : Nat) x, ws[i]? = some x → ∃ g, a = some ⟨g, 0, none⟩ ∧ g < W.heap.size ∧ g ≠ bd ∧ NB W g ∧ W.cell? ⟨g, i, none⟩ = some (.string x) := by
  rcases hv.2 with ⟨h, hz⟩ | ⟨g, cap, cur, h, _, hg, _⟩
  · exact ⟨none, 0, by rw [h, hz], fun i n e => by have := (List.getElem?_eq_some_iff.1 e).1; omega⟩
  · obtain ⟨cs, hd⟩ := hd
    refine ⟨some ⟨g, 0, none⟩, cap, h, fun i n e => ⟨g, rfl, (Array.getElem?_eq_some_iff.1 hg).1, row_ne hg hd (by decide), nb_of hg (by decide), ?_⟩⟩
    have hlt := (List.getElem?_eq_some_iff.1 e).1
    rw [h] at hv
    rw [hv.cellAt i (by omega)]
    simp [strs, e]
theorem Dk.row (h : Dk w B bd bl bf bc S l W) : ∃ cs, W.heap[bd]? = some (.cells cs 46) := by
  obtain ⟨p, v, _, hb, _⟩ := h.it
  exact ⟨_, hb⟩
set_option maxHeartbeats 1000000 in
set_option maxRecDepth 100000 in
theorem dSay_any {B0 : Nat} (h : Dk w B bd bl bf bc S l W) (word : ByteArray) (ws : List ByteArray) (v : Value) (hv : W.ownsRow B0 9 1 v ws.length (strs ws)) (hn : ws.length ≤ 1000) (hlen : l.length + (Txt.line (word.toList :: ws.map (·.toList))).length ≤ 140737488355328) :
    Calls Tryz.prog 28 #[.pointer (some ⟨bd, 0, none⟩), .string word, v] W fun e w' => e = .returned (.tuple #[]) ∧ Dk w B bd bl bf bc S (l ++ Txt.line (word.toList :: ws.map (·.toList))) w' ∧ Df B bd W w' := by
  obtain ⟨a, c, rfl, hc⟩ := strs_form hv h.row
  have HC := hide hc
  have PA := hide (Dsk.pre_all l word.toList (ws.map (·.toList)))
  have PL := hide (fun i => Nat.le_trans (Dsk.pre_len l word.toList (ws.map (·.toList)) i) hlen)
  have PZ := hide (Dsk.pre_zero l word.toList (ws.map (·.toList)))
  have D0 := hide (dStr_any word h (by have := unhide PL 0; rw [unhide PZ, List.length_append, len_bytes] at this; omega))
  rw [← unhide PZ] at D0
  rw [← unhide PA]
  rw [show (ws.map (·.toList)).length = ws.length by simp]
  have PS := hide (fun i x (hx : ws[i]? = some x) => Dsk.pre_succ (l := l) (x := word.toList) (ws := ws.map (·.toList)) (i := i) (y := x.toList) (by simp [hx]))
  clear hc h hv hlen PA PZ
  generalize Dsk.pre l word.toList (ws.map (·.toList)) = pr at *
  go_enter Tryz.func28, Tryz.ntmps28
  go_wp2_with fail
  refine (unhide D0).mono ?_
  rintro e w1 ⟨rfl, h1, f1⟩
  have H1 := hide h1
  have F1 := hide f1
  clear h1 f1 D0
  go_wp2_with fail
  go_loopw [15] (fun s wr => ∃ i : Nat, i ≤ ws.length ∧ s = .int .i64 i ∧ Hid (Dk w B bd bl bf bc S (pr i) wr) ∧ Hid (Df B bd W wr)) (fun s _ => ws.length - (intOf s).toNat)
  case atStart => exact ⟨0, Nat.zero_le _, rfl, H1, F1⟩
  case round =>
    clear H1 F1
    obtain ⟨i, hi, rfl, H1, F1⟩ := hrel
    by_cases hlt : i < ws.length
    case pos =>
      have hz : (i : Int) < (ws.length : Int) := by omega
      obtain ⟨x, hx⟩ : ∃ x, ws[i]? = some x := ⟨_, List.getElem?_eq_getElem hlt⟩
      obtain ⟨g, rfl, hg1, hg2, hg3, hg4⟩ := unhide HC i x hx
      have hcW : wr.cell? ⟨g, i, none⟩ = some (.string x) := df_cell (unhide F1) hg1 hg2 hg3 hg4
      have E := hide (unhide PS i x hx)
      have L0 := unhide PL i
      have L1 := unhide PL (i + 1)
      rw [unhide E] at L1
      have W1 := hide (dByte_any 32 (unhide H1) (by omega))
      clear hg1 hg2 hg3 hg4
      go_wp2_with fail
      refine (unhide W1).mono ?_
      rintro e w2 ⟨rfl, h2, f2⟩
      have F2 := hide ((unhide F1).trans f2)
      have W2 := hide (dStr_any x h2 (by rw [List.length_append, len_bytes] at L1; omega))
      clear h2 f2 W1
      go_wp2_with fail
      refine (unhide W2).mono ?_
      rintro e w3 ⟨rfl, h3, f3⟩
      have F3 := hide ((unhide F2).trans f3)
      have H3 := hide (show Dk w B bd bl bf bc S (pr (i + 1)) w3 by rw [unhide E]; exact h3)
      clear h3 f3 W2 F2
      go_wp2_with fail
      go_roundw
      case rel => exact ⟨i + 1, by omega, by go_num, H3, F3⟩
      case measure => simp [intOf]; omega
    case neg =>
      have hz : ¬ (i : Int) < (ws.length : Int) := by omega
      obtain rfl : i = ws.length := by omega
      have W1 := hide (dByte_any 10 (unhide H1) (unhide PL _))
      go_wp2_with fail
      refine (unhide W1).mono ?_
      rintro e w2 ⟨rfl, h2, f2⟩
      have F2 := hide ((unhide F1).trans f2)
      have H2 := hide h2
      clear h2 f2 W1
      go_wp2_with fail
      go_end0
      exact ⟨rfl, unhide H2, unhide F2⟩
theorem strs_none (W : World) : W.ownsRow 0 9 1 (.slice none 0 0) ([] : List ByteArray).length (strs []) := World.ownsRow_nil _ _ _ _
theorem strs_one (W : World) (x : ByteArray) : (W.alloc (.cells #[.string x] 9)).ownsRow 0 9 1 (.slice (some ⟨W.heap.size, 0, none⟩) 1 1) [x].length (strs [x]) :=
  ⟨rfl, .inr ⟨W.heap.size, 1, _, rfl, Nat.zero_le _, heap_alloc_last _ _, Nat.le_refl _, by unfold maxLen; decide, rfl, rfl⟩⟩
/-- the same, words as lists of bytes -/
theorem dSay_w {B0 : Nat} (h : Dk w B bd bl bf bc S l W) (x : List UInt8) (xs : List (List UInt8)) (ws : List ByteArray) (hw : ws.map (·.toList) = xs) (v : Value) (hv : W.ownsRow B0 9 1 v ws.length (strs ws)) (hn : ws.length ≤ 1000) (hlen : l.length + (Txt.line (x :: xs)).length ≤ 140737488355328) :
    Calls Tryz.prog 28 #[.pointer (some ⟨bd, 0, none⟩), .string ⟨x.toArray⟩, v] W fun e w' => e = .returned (.tuple #[]) ∧ Dk w B bd bl bf bc S (l ++ Txt.line (x :: xs)) w' ∧ Df B bd W w' := by
  have h1 := dSay_any h ⟨x.toArray⟩ ws v hv hn (by rw [hw, ByteArray.toList_mk]; exact hlen)
  rw [hw, ByteArray.toList_mk] at h1
  exact h1
/-- one word alone -/
theorem dWord_any (h : Dk w B bd bl bf bc S l W) (x : List UInt8) (hlen : l.length + x.length + 10 ≤ 140737488355328) :
    Calls Tryz.prog 28 #[.pointer (some ⟨bd, 0, none⟩), .string ⟨x.toArray⟩, .slice none 0 0] W fun e w' => e = .returned (.tuple #[]) ∧ Dk w B bd bl bf bc S (l ++ Txt.line [x]) w' ∧ Df B bd W w' :=
  dSay_w h x [] [] rfl _ (strs_none W) (Nat.zero_le _) (by show l.length + (x ++ [10]).length ≤ _; rw [List.length_append]; simp; omega)
set_option maxHeartbeats 600000 in
set_option maxRecDepth 100000 in
theorem dNo_any (h : Dk w B bd bl bf bc S l W) (c : Int) (hc : I64 c) (tb : Tabs w) (hlen : l.length + 100 ≤ 140737488355328) :
    Calls Tryz.prog 53 #[.pointer (some ⟨bd, 0, none⟩), .int .i64 c] W fun e w' => e = .returned (.tuple #[]) ∧ Dk w B bd bl bf bc S (l ++ Txt.line [Dsk.wNo, Lib.itoa c]) w' ∧ Df B bd W w' := by
  have I := hide (itoa_any c hc.1 hc.2 W (tb.at h.lo.bel).tab)
  have IL := hide (itoa_len hc)
  have H := hide h
  obtain ⟨z, hz⟩ : ∃ z : List UInt8, z = Lib.itoa c := ⟨_, rfl⟩
  rw [← hz] at I IL ⊢
  clear h tb hc hz
  unfold Dsk.wNo
  go_enter Tryz.func53, Tryz.ntmps53
  go_wp2_with fail
  refine (unhide I).mono ?_
  rintro e w1 ⟨rfl, b1⟩
  have H1 := hide (((unhide H).call b1).call ((Below.refl _ w1).alloc (Nat.le_refl _) (.cells #[.string ⟨z.toArray⟩] 9)))
  have B1 := hide (show Below W.heap.size W (w1.alloc (.cells #[.string ⟨z.toArray⟩] 9)) from b1.alloc b1.size _)
  have D := hide (dSay_w (unhide H1) Dsk.wNo [z] [⟨z.toArray⟩] (by simp [ByteArray.toList_mk]) _ (strs_one w1 _) (by simp) (by
    show l.length + ([110, 111] ++ (32 :: (z ++ [10]))).length ≤ _
    have := unhide IL
    simp; omega))
  unfold Dsk.wNo at D
  clear b1 I
  go_wp2_with fail
  refine (unhide D).mono ?_
  rintro e w2 ⟨rfl, h2, f2⟩
  have R := hide (And.intro h2 ((Df.of_below (unhide B1)).trans f2))
  clear h2 f2 D
  go_wp2_with fail
  go_end0
  exact ⟨rfl, (unhide R).1, (unhide R).2⟩
end
end Go.Proofs.YtfpfpnhpbnnmfadGreatDoor
