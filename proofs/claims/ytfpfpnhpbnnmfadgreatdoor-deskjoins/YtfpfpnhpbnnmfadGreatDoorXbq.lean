/-
  The walks of package desk: step, read. (Written by genqf.py.)
-/
import Derived.Test.YtfpfpnhpbnnmfadGreatDoorXbp
set_option linter.unusedVariables false
namespace Go.Proofs.YtfpfpnhpbnnmfadGreatDoor
open Go.RowKit
open Idl (Stp chk stpA strs)
theorem Op9.ld_life {o : Oper} {ρ : Operand → Value} (x : Operand) (ho : o.op = .load 39 x) {g o0 : Nat} (hx : ρ x = .pointer (some ⟨g, o0, none⟩)) {p : Option Addr} (w : World) (h : w.cell? ⟨g, o0, none⟩ = some (.pointer p)) : (execOp ρ o).run Tryz.prog w = .ok (.value (.pointer p)) w := by
  unfold execOp
  rw [ho]
  go_simp
theorem Op9.ld_int {o : Oper} {ρ : Operand → Value} (x : Operand) (ho : o.op = .load 3 x) {g o0 : Nat} (hx : ρ x = .pointer (some ⟨g, o0, none⟩)) {p : Int} (w : World) (h : w.cell? ⟨g, o0, none⟩ = some (.int .i64 p)) : (execOp ρ o).run Tryz.prog w = .ok (.value (.int .i64 p)) w := by
  unfold execOp
  rw [ho]
  go_simp
theorem Op9.ld_str {o : Oper} {ρ : Operand → Value} (x : Operand) (ho : o.op = .load 9 x) {g o0 : Nat} (hx : ρ x = .pointer (some ⟨g, o0, none⟩)) {p : ByteArray} (w : World) (h : w.cell? ⟨g, o0, none⟩ = some (.string p)) : (execOp ρ o).run Tryz.prog w = .ok (.value (.string p)) w := by
  unfold execOp
  rw [ho]
  go_simp
/-- a call of a desk: what it leaves of other blocks -/
structure De (B bd bl bf bc bf' bc' : Nat) (W W' : World) : Prop where
  size : W.heap.size ≤ W'.heap.size
  old : ∀ j, j < W.heap.size → j ≠ bd → j ≠ bl → j ≠ bf → j ≠ bc → (j < B ∨ NB W j) → W'.heap[j]? = W.heap[j]?
  new : (bf' = bf ∧ bc' = bc) ∨ (W.heap.size ≤ bf' ∧ W.heap.size ≤ bc')
section
variable {w W W' W2 : World} {B bd bl bf bc : Nat} {S : Lv} {l : List UInt8}
theorem De.of_df (h : Df B bd W W') : De B bd bl bf bc bf bc W W' := ⟨h.size, fun j hj h1 _ _ _ ho => h.old j hj h1 ho, .inl ⟨rfl, rfl⟩⟩
theorem De.of_lc {bf' bc' : Nat} (h : Lc bl bf bc bf' bc' W W') : De B bd bl bf bc bf' bc' W W' := ⟨h.size, fun j hj _ h2 h3 h4 _ => h.old j hj h2 h3 h4, h.new⟩
theorem De.of_below (h : Below W.heap.size W W') : De B bd bl bf bc bf bc W W' := ⟨h.size, fun j hj _ _ _ _ _ => h.block j hj, .inl ⟨rfl, rfl⟩⟩
theorem De.trans {bf1 bc1 bf2 bc2 : Nat} (h : De B bd bl bf bc bf1 bc1 W W') (k : De B bd bl bf1 bc1 bf2 bc2 W' W2) : De B bd bl bf bc bf2 bc2 W W2 := by
  refine ⟨Nat.le_trans h.size k.size, fun j hj h1 h2 h3 h4 ho => ?_, ?_⟩
  · have := h.size
    have e := h.old j hj h1 h2 h3 h4 ho
    rw [k.old j (by omega) h1 h2 (by rcases h.new with z | z <;> omega) (by rcases h.new with z | z <;> omega) (by rcases ho with z | z; exact .inl z; exact .inr (nb_same z e)), e]
  · have := h.size
    rcases k.new with z | z
    · rcases h.new with y | y
      · exact .inl ⟨z.1.trans y.1, z.2.trans y.2⟩
      · exact .inr ⟨by omega, by omega⟩
    · exact .inr ⟨by omega, by omega⟩
theorem code_range (S : Lv) (x : Stp) : 0 ≤ S.code x ∧ S.code x ≤ 7 := by
  have sp : ∀ d s, 0 ≤ Idl.spot d s ∧ Idl.spot d s ≤ 7 := fun d s => by
    unfold Idl.spot
    repeat' split
    all_goals omega
  have h0 := sp x.dir x.name
  have h1 := sp x.toDir x.to
  have hc : 0 ≤ chk x ∧ chk x ≤ 7 := by
    unfold chk
    repeat' split
    all_goals omega
  have hs : 0 ≤ Img.scode S.now S.disk x ∧ Img.scode S.now S.disk x ≤ 7 := by
    unfold Img.scode Img.scheck
    repeat' split
    all_goals omega
  unfold Lv.code Img.lcode
  repeat' split
  all_goals omega
set_option maxHeartbeats 2000000 in
set_option maxRecDepth 100000 in
theorem dStep_any (h : Dk w B bd bl bf bc S l W) {n : Nat} (hO : S.Ok n) (hn : n ≤ 1000000) (x : Stp) (h1 : x.name.size ≤ maxLen) (h2 : x.to.size ≤ maxLen) (h3 : x.text.size ≤ maxLen) (tb : Tabs w) (hlen : l.length + 100 ≤ 140737488355328) :
    Calls Tryz.prog 29 #[.pointer (some ⟨bd, 0, none⟩), .agg (stpA x)] W fun e w' => e = .returned (.tuple #[]) ∧ ∃ bf' bc', Dk w B bd bl bf' bc' (S.step x) (l ++ Dsk.ansStep S x) w' ∧ De B bd bl bf bc bf' bc' W w' := by
  obtain ⟨X, hX⟩ : ∃ X, X = (W.alloc (.cells (stpA x) 84)).drew := ⟨_, rfl⟩
  have hB : Below W.heap.size W X := by rw [hX]; exact ((Below.refl _ W).alloc (Nat.le_refl _) _).drew
  have H1 := hide (h.call hB)
  have BB := hide hB
  have c1 := (h.call hB).lif
  have r1 : X.heap[W.heap.size]? = some (.cells (stpA x) 84) := by rw [hX]; exact heap_alloc_last _ _
  have CF := hide (lStep_any (unhide H1).lo hO hn x h1 h2 h3)
  have CR := hide (code_range S x)
  have TB := hide tb
  have ON := hide (fun (bf' bc' : Nat) V (hv : Dk w B bd bl bf' bc' (S.step x) l V) => dNo_any hv (S.code x) ⟨by have := (unhide CR).1; omega, by have := (unhide CR).2; omega⟩ (unhide TB) hlen)
  have OW := hide (fun (bf' bc' : Nat) V (hv : Dk w B bd bl bf' bc' (S.step x) l V) => dWord_any hv Dsk.wOk (by show _ + 2 + 10 ≤ _; omega))
  have E1 := hide (show S.code x ≠ 0 → Dsk.ansStep S x = Txt.line [Dsk.wNo, Lib.itoa (S.code x)] from fun z => if_pos z)
  have E0 := hide (show S.code x = 0 → Dsk.ansStep S x = Txt.line [Dsk.wOk] from fun z => if_neg (fun y => y z))
  generalize Dsk.ansStep S x = ans at *
  generalize S.code x = cd at *
  generalize S.step x = T at *
  clear h hB hO hn h1 h2 h3 tb hlen CR
  unfold Dsk.wOk at OW E0
  have HX := hide hX
  go_enter Tryz.func29, Tryz.ntmps29
  go_upto_region 1 with fail
  refine wp_region_held_drew (S := fun V => V.cell? ⟨bd, 2, none⟩ = some (.pointer (some ⟨bl, 0, none⟩)) ∧ V.heap[W.heap.size]? = some (.cells (stpA x) 84)) (by kernel_rfl) (by rw [← unhide HX]; exact ⟨c1, r1⟩) (fun hS => ?_)
  refine wpAnyH_take (i := 0) (oi := { dst := some 5, op := Op.move (Operand.tmp 0), type := 25, pos := "desk.go:150", after := #[], guard := none }) (v := .pointer (some ⟨bd, 0, none⟩)) rfl (by kernel_rfl) (by kernel_rfl) (by kernel_rfl) (fun _ _ _ h => h) (Or.inl ⟨by kernel_rfl, fun W h => (by first | kernel_rfl | go_simp)⟩) hS ?_
  try simp only [Act.put, List.setIfInBounds_toArray, List.set_cons_zero, List.set_cons_succ]
  refine wpAnyH_take (i := 1) (oi := { dst := some 6, op := Op.nilCheck (Operand.tmp 5), type := 0, pos := "desk.go:150", after := #[{ on := 0, ground := Ground.data }], guard := none }) (v := .pointer (some ⟨bd, 0, none⟩)) rfl (by kernel_rfl) (by kernel_rfl) (by kernel_rfl) (fun _ _ _ h => h) (Or.inl ⟨by kernel_rfl, fun W h => (by first | kernel_rfl | go_simp)⟩) hS ?_
  try simp only [Act.put, List.setIfInBounds_toArray, List.set_cons_zero, List.set_cons_succ]
  refine wpAnyH_take (i := 2) (oi := { dst := some 7, op := Op.fieldAddr 46 (Operand.tmp 6) 1, type := 0, pos := "desk.go:150", after := #[{ on := 1, ground := Ground.data }], guard := none }) (v := .pointer (some ⟨bd, 2, none⟩)) rfl (by kernel_rfl) (by kernel_rfl) (by kernel_rfl) (fun _ _ _ h => h) (Or.inl ⟨by kernel_rfl, fun W h => (by first | kernel_rfl | go_simp)⟩) hS ?_
  try simp only [Act.put, List.setIfInBounds_toArray, List.set_cons_zero, List.set_cons_succ]
  refine wpAnyH_take (i := 3) (oi := { dst := some 8, op := Op.load 39 (Operand.tmp 7), type := 39, pos := "desk.go:150", after := #[{ on := 2, ground := Ground.data }], guard := none }) (v := .pointer (some ⟨bl, 0, none⟩)) rfl (by kernel_rfl) (by kernel_rfl) (by kernel_rfl) (fun _ _ _ h => h) (Or.inl ⟨by kernel_rfl, fun W h => Op9.ld_life (.tmp 7) (by kernel_rfl) (by kernel_rfl) W (h.1)⟩) hS ?_
  try simp only [Act.put, List.setIfInBounds_toArray, List.set_cons_zero, List.set_cons_succ]
  refine wpAnyH_take (i := 4) (oi := { dst := some 9, op := Op.load 84 (Operand.tmp 3), type := 84, pos := "desk.go:150", after := #[], guard := none }) (v := .agg (stpA x)) rfl (by kernel_rfl) (by kernel_rfl) (by kernel_rfl) (fun _ _ _ h => h) (Or.inl ⟨by kernel_rfl, fun W h => run_exec_load_whole 84 (.tmp 3) (by kernel_rfl) _ (by kernel_rfl) W 84 (stpA x) (0, 0) _ h.2 stp_under7 rfl stp_info7⟩) hS ?_
  try simp only [Act.put, List.setIfInBounds_toArray, List.set_cons_zero, List.set_cons_succ]
  refine wpAnyH_ready (rs := [5]) (by kernel_rfl) (by simp) ?_
  refine AllReadyH.cons (o := { dst := some 10, op := Op.call { callee := Callee.value (Operand.func 52), args := #[Operand.tmp 8, Operand.tmp 9], argTypes := #[39, 84] }, type := 3, pos := "desk.go:150", after := #[{ on := 3, ground := Ground.data }, { on := 4, ground := Ground.data }], guard := none }) rfl (fun K hK => ?_) AllReadyH.nil
  rw [if_pos (by kernel_rfl)]
  go_simp
  rw [← unhide HX]
  refine (unhide CF).mono ?_
  rintro e w2 ⟨rfl, bf', bc', hl, hc⟩
  have H2 := hide ((unhide H1).life hl hc)
  have D2 := hide (show De B bd bl bf bc bf' bc' W w2 from (De.of_below (unhide BB)).trans (De.of_lc hc))
  have S2 : w2.cell? ⟨bd, 2, none⟩ = some (.pointer (some ⟨bl, 0, none⟩)) ∧ w2.heap[W.heap.size]? = some (.cells (stpA x) 84) := by
    refine ⟨(unhide H2).lif, ?_⟩
    have k1 := (unhide H1).lo
    obtain ⟨cs, ds, f⟩ := k1.fo.it
    rw [hc.old _ (Array.getElem?_eq_some_iff.1 r1).1 (row_ne r1 k1.root (by decide)) (row_ne r1 f.root (by decide)) (row_ne r1 f.row (by decide))]
    exact r1
  clear hl hc CF
  go_wp2_with fail
  refine hK.out _ _ (S2) (fun hS2 => ?_)
  clear hK K
  try simp only [Act.put, List.setIfInBounds_toArray, List.set_cons_zero, List.set_cons_succ]
  refine wpAnyH_take (i := 6) (oi := { dst := some 4, op := Op.assign (Operand.tmp 10), type := 3, pos := "desk.go:150", after := #[{ on := 5, ground := Ground.data }, { on := 5, ground := Ground.chain }, { on := 0, ground := Ground.phase }, { on := 1, ground := Ground.phase }, { on := 2, ground := Ground.phase }, { on := 3, ground := Ground.phase }, { on := 4, ground := Ground.phase }, { on := 5, ground := Ground.phase }], guard := none }) (v := .int .i64 cd) rfl (by kernel_rfl) (by kernel_rfl) (by kernel_rfl) (fun _ _ _ h => h) (Or.inl ⟨by kernel_rfl, fun W h => (by first | kernel_rfl | go_simp)⟩) hS2 ?_
  try simp only [Act.put, List.setIfInBounds_toArray, List.set_cons_zero, List.set_cons_succ]
  refine wpAnyH_done (by kernel_rfl) ?_ _
  clear hS hS2 S2 c1 r1 hX HX
  by_cases hz : cd = 0
  case pos =>
    subst hz
    have O := hide (unhide OW bf' bc' w2 (unhide H2))
    rw [← unhide E0 rfl] at O
    clear OW ON E0 E1
    go_wp2_with fail
    refine (unhide O).mono ?_
    rintro e w3 ⟨rfl, h3, f3⟩
    have R := hide (And.intro h3 ((unhide D2).trans (De.of_df f3)))
    clear h3 f3 O
    go_wp2_with fail
    go_end0
    exact ⟨rfl, bf', bc', unhide R⟩
  case neg =>
    have q0 : (cd != 0) = true := by simpa using hz
    have O := hide (unhide ON bf' bc' w2 (unhide H2))
    rw [← unhide E1 hz] at O
    clear OW ON E0 E1 hz
    go_wp2_with fail
    refine (unhide O).mono ?_
    rintro e w3 ⟨rfl, h3, f3⟩
    have R := hide (And.intro h3 ((unhide D2).trans (De.of_df f3)))
    clear h3 f3 O
    go_wp2_with fail
    (try simp only [Exit.inBlock, Exit.then]); refine bodyPost_ret (results_none rfl _ _ _) rfl ?_
    exact ⟨rfl, bf', bc', unhide R⟩
theorem read_range (S : Lv) (x : Stp) : 0 ≤ Img.sreadC S.now x.dir x.name x.p ∧ Img.sreadC S.now x.dir x.name x.p ≤ 7 := by
  have sp : ∀ d s, 0 ≤ Idl.spot d s ∧ Idl.spot d s ≤ 7 := fun d s => by
    unfold Idl.spot
    repeat' split
    all_goals omega
  have hc : ∀ y, 0 ≤ chk y ∧ chk y ≤ 7 := fun y => by
    have h0 := sp y.dir y.name
    have h1 := sp y.toDir y.to
    unfold chk
    repeat' split
    all_goals omega
  have h0 := hc (Idl.cut x.dir x.name x.p)
  unfold Img.sreadC Img.scheck
  repeat' split
  all_goals omega
theorem read_short (S : Lv) (x : Stp) (hT : ∀ x, x < 9 → (S.now.text x).size ≤ 8) (hm : S.now.check = 0) : (Img.sreadT S.now x.dir x.name x.p).size ≤ 8 := by
  unfold Img.sreadT
  split
  · exact Nat.zero_le _
  · rename_i hc
    split
    · exact Nat.zero_le _
    · rename_i hp
      refine hT _ ?_
      have hc0 : Img.scheck S.now (Idl.cut x.dir x.name x.p) = 0 := by unfold Img.sreadC at hc; simpa using hc
      have ck : chk (Idl.cut x.dir x.name x.p) = 0 := by
        unfold Img.scheck at hc0
        split at hc0
        · contradiction
        · rename_i z; simpa using z
      have p2 : 0 ≤ x.p ∧ x.p < 2 := by
        unfold chk Idl.cut at ck
        simp only at ck
        repeat' split at ck
        all_goals first | omega | (exfalso; simp_all; done) | simp_all
      have hi : 0 ≤ Img.inoOf S.now x.dir x.name := by
        unfold Img.scheck at hc0
        rw [if_neg (by rw [ck]; simp), if_neg (by rw [show (Idl.cut x.dir x.name x.p).kind = 6 from rfl]; decide)] at hc0
        by_cases c : Img.inoOf S.now x.dir x.name < 0
        · rw [if_pos (show Img.inoOf S.now (Idl.cut x.dir x.name x.p).dir (Idl.cut x.dir x.name x.p).name < 0 from c)] at hc0
          omega
        · omega
      obtain ⟨_, n, th⟩ := Img.there hm hi
      unfold Img.spart at hp ⊢
      rw [th.of, Int.toNat_natCast] at hp ⊢
      rcases Img.checkPart_iff.1 ((Img.inode_parts_ok hm th.n8 th.live).2.2 x.p.toNat (by omega)) with y | y
      · omega
      · have := y.1
        unfold Img.isD at this
        simp only [Bool.and_eq_true, decide_eq_true_eq] at this
        omega
set_option maxHeartbeats 2000000 in
set_option maxRecDepth 100000 in
theorem dRead_any (h : Dk w B bd bl bf bc S l W) {n : Nat} (hO : S.Ok n) (hT : ∀ x, x < 9 → (S.now.text x).size ≤ 8) (x : Stp) (h1 : x.name.size ≤ maxLen) (tb : Tabs w) (hlen : l.length + 100 ≤ 140737488355328) :
    Calls Tryz.prog 54 #[.pointer (some ⟨bd, 0, none⟩), .agg (stpA x)] W fun e w' => e = .returned (.tuple #[]) ∧ Dk w B bd bl bf bc S (l ++ Dsk.ansRead S x) w' ∧ De B bd bl bf bc bf bc W w' := by
  obtain ⟨X, hX⟩ : ∃ X, X = (W.alloc (.cells (stpA x) 84)).drew := ⟨_, rfl⟩
  have hB : Below W.heap.size W X := by rw [hX]; exact ((Below.refl _ W).alloc (Nat.le_refl _) _).drew
  have H1 := hide (h.call hB)
  have BB := hide hB
  have c1 := (h.call hB).lif
  have c2 := (h.call hB).lo.ptr
  have r1 : X.heap[W.heap.size]? = some (.cells (stpA x) 84) := by rw [hX]; exact heap_alloc_last _ _
  have e1 : X.cell? ⟨W.heap.size, 1, none⟩ = some (.int .i64 x.dir) := by rw [cell_of_row _ _ _ _ _ _ r1]; rfl
  have e4 : X.cell? ⟨W.heap.size, 4, none⟩ = some (.string x.name) := by rw [cell_of_row _ _ _ _ _ _ r1]; rfl
  have e3 : X.cell? ⟨W.heap.size, 3, none⟩ = some (.int .i64 x.p) := by rw [cell_of_row _ _ _ _ _ _ r1]; rfl
  have CF := hide ((unhide H1).lo.fo.read hO.hold.good.ex.ok x.dir x.name h1 x.p)
  have CR := hide (read_range S x)
  have TS := hide (read_short S x hT hO.hold.good.ex.ok)
  have TB := hide tb
  have ON := hide (fun V (hv : Dk w B bd bl bf bc S l V) => dNo_any hv (Img.sreadC S.now x.dir x.name x.p) ⟨by have := (unhide CR).1; omega, by have := (unhide CR).2; omega⟩ (unhide TB) hlen)
  have OW := hide (fun V (hv : Dk w B bd bl bf bc S l V) => dWord_any hv Dsk.wNone (by show _ + 4 + 10 ≤ _; omega))
  have OS := hide (fun V => Show_any (Img.sreadT S.now x.dir x.name x.p) (by have := unhide TS; omega) V)
  have OT := hide (fun V (hv : Dk w B bd bl bf bc S l V) => dWord_any hv (Txt.shows (Img.sreadT S.now x.dir x.name x.p).toList) (by
    have := (Txt.showR_len (Img.sreadT S.now x.dir x.name x.p).toList).2
    have := unhide TS
    rw [len_bytes] at *
    show l.length + (61 :: Txt.showR (Img.sreadT S.now x.dir x.name x.p).toList).length + 10 ≤ _
    rw [List.length_cons]; omega))
  have E1 := hide (show Img.sreadC S.now x.dir x.name x.p ≠ 0 → Dsk.ansRead S x = Txt.line [Dsk.wNo, Lib.itoa (Img.sreadC S.now x.dir x.name x.p)] from fun z => if_pos z)
  have E2 := hide (show Img.sreadC S.now x.dir x.name x.p = 0 → Img.sreadB S.now x.dir x.name x.p = false → Dsk.ansRead S x = Txt.line [Dsk.wNone] from fun z y => by unfold Dsk.ansRead; rw [if_neg (fun q => q z), if_pos y])
  have E3 := hide (show Img.sreadC S.now x.dir x.name x.p = 0 → Img.sreadB S.now x.dir x.name x.p = true → Dsk.ansRead S x = Txt.line [Txt.shows (Img.sreadT S.now x.dir x.name x.p).toList] from fun z y => by unfold Dsk.ansRead; rw [if_neg (fun q => q z), if_neg (by rw [y]; simp)])
  generalize Dsk.ansRead S x = ans at *
  generalize Txt.shows (Img.sreadT S.now x.dir x.name x.p).toList = shw at *
  generalize Img.sreadC S.now x.dir x.name x.p = cd at *
  generalize Img.sreadT S.now x.dir x.name x.p = tx at *
  generalize Img.sreadB S.now x.dir x.name x.p = bo at *
  clear h hB hO h1 tb hlen CR TS hT
  unfold Dsk.wNone at OW E2
  have HX := hide hX
  go_enter Tryz.func54, Tryz.ntmps54
  go_upto_region 1 with fail
  refine wp_region_held_drew (S := fun V => Below X.heap.size X V) (by kernel_rfl) (by rw [← unhide HX]; exact Below.refl _ _) (fun hS => ?_)
  refine wpAnyH_take (i := 0) (oi := { dst := some 8, op := Op.move (Operand.tmp 0), type := 25, pos := "desk.go:183", after := #[], guard := none }) (v := .pointer (some ⟨bd, 0, none⟩)) rfl (by kernel_rfl) (by kernel_rfl) (by kernel_rfl) (fun _ _ _ h => h) (Or.inl ⟨by kernel_rfl, fun W h => (by first | kernel_rfl | go_simp)⟩) hS ?_
  try simp only [Act.put, List.setIfInBounds_toArray, List.set_cons_zero, List.set_cons_succ]
  refine wpAnyH_take (i := 1) (oi := { dst := some 9, op := Op.nilCheck (Operand.tmp 8), type := 0, pos := "desk.go:183", after := #[{ on := 0, ground := Ground.data }], guard := none }) (v := .pointer (some ⟨bd, 0, none⟩)) rfl (by kernel_rfl) (by kernel_rfl) (by kernel_rfl) (fun _ _ _ h => h) (Or.inl ⟨by kernel_rfl, fun W h => (by first | kernel_rfl | go_simp)⟩) hS ?_
  try simp only [Act.put, List.setIfInBounds_toArray, List.set_cons_zero, List.set_cons_succ]
  refine wpAnyH_take (i := 2) (oi := { dst := some 10, op := Op.fieldAddr 46 (Operand.tmp 9) 1, type := 0, pos := "desk.go:183", after := #[{ on := 1, ground := Ground.data }], guard := none }) (v := .pointer (some ⟨bd, 2, none⟩)) rfl (by kernel_rfl) (by kernel_rfl) (by kernel_rfl) (fun _ _ _ h => h) (Or.inl ⟨by kernel_rfl, fun W h => (by first | kernel_rfl | go_simp)⟩) hS ?_
  try simp only [Act.put, List.setIfInBounds_toArray, List.set_cons_zero, List.set_cons_succ]
  refine wpAnyH_take (i := 3) (oi := { dst := some 11, op := Op.load 39 (Operand.tmp 10), type := 39, pos := "desk.go:183", after := #[{ on := 2, ground := Ground.data }], guard := none }) (v := .pointer (some ⟨bl, 0, none⟩)) rfl (by kernel_rfl) (by kernel_rfl) (by kernel_rfl) (fun _ _ _ h => h) (Or.inl ⟨by kernel_rfl, fun W h => Op9.ld_life (.tmp 10) (by kernel_rfl) (by kernel_rfl) W (cell_below h c1)⟩) hS ?_
  try simp only [Act.put, List.setIfInBounds_toArray, List.set_cons_zero, List.set_cons_succ]
  refine wpAnyH_take (i := 4) (oi := { dst := some 12, op := Op.nilCheck (Operand.tmp 11), type := 0, pos := "desk.go:183", after := #[{ on := 3, ground := Ground.data }], guard := none }) (v := .pointer (some ⟨bl, 0, none⟩)) rfl (by kernel_rfl) (by kernel_rfl) (by kernel_rfl) (fun _ _ _ h => h) (Or.inl ⟨by kernel_rfl, fun W h => (by first | kernel_rfl | go_simp)⟩) hS ?_
  try simp only [Act.put, List.setIfInBounds_toArray, List.set_cons_zero, List.set_cons_succ]
  refine wpAnyH_take (i := 5) (oi := { dst := some 13, op := Op.fieldAddr 65 (Operand.tmp 12) 0, type := 0, pos := "desk.go:183", after := #[{ on := 4, ground := Ground.data }], guard := none }) (v := .pointer (some ⟨bl, 0, none⟩)) rfl (by kernel_rfl) (by kernel_rfl) (by kernel_rfl) (fun _ _ _ h => h) (Or.inl ⟨by kernel_rfl, fun W h => (by first | kernel_rfl | go_simp)⟩) hS ?_
  try simp only [Act.put, List.setIfInBounds_toArray, List.set_cons_zero, List.set_cons_succ]
  refine wpAnyH_take (i := 6) (oi := { dst := some 14, op := Op.load 60 (Operand.tmp 13), type := 60, pos := "desk.go:183", after := #[{ on := 5, ground := Ground.data }], guard := none }) (v := .pointer (some ⟨bf, 0, none⟩)) rfl (by kernel_rfl) (by kernel_rfl) (by kernel_rfl) (fun _ _ _ h => h) (Or.inl ⟨by kernel_rfl, fun W h => Op1.ld_files (.tmp 13) (by kernel_rfl) (by kernel_rfl) W (cell_below h c2)⟩) hS ?_
  try simp only [Act.put, List.setIfInBounds_toArray, List.set_cons_zero, List.set_cons_succ]
  refine wpAnyH_take (i := 7) (oi := { dst := some 15, op := Op.fieldAddr 84 (Operand.tmp 3) 1, type := 0, pos := "desk.go:183", after := #[], guard := none }) (v := .pointer (some ⟨W.heap.size, 1, none⟩)) rfl (by kernel_rfl) (by kernel_rfl) (by kernel_rfl) (fun _ _ _ h => h) (Or.inl ⟨by kernel_rfl, fun W h => (by first | kernel_rfl | go_simp)⟩) hS ?_
  try simp only [Act.put, List.setIfInBounds_toArray, List.set_cons_zero, List.set_cons_succ]
  refine wpAnyH_take (i := 8) (oi := { dst := some 16, op := Op.load 3 (Operand.tmp 15), type := 3, pos := "desk.go:183", after := #[{ on := 7, ground := Ground.data }], guard := none }) (v := .int .i64 x.dir) rfl (by kernel_rfl) (by kernel_rfl) (by kernel_rfl) (fun _ _ _ h => h) (Or.inl ⟨by kernel_rfl, fun W h => Op9.ld_int (.tmp 15) (by kernel_rfl) (by kernel_rfl) W (cell_below h e1)⟩) hS ?_
  try simp only [Act.put, List.setIfInBounds_toArray, List.set_cons_zero, List.set_cons_succ]
  refine wpAnyH_take (i := 9) (oi := { dst := some 17, op := Op.fieldAddr 84 (Operand.tmp 3) 4, type := 0, pos := "desk.go:183", after := #[], guard := none }) (v := .pointer (some ⟨W.heap.size, 4, none⟩)) rfl (by kernel_rfl) (by kernel_rfl) (by kernel_rfl) (fun _ _ _ h => h) (Or.inl ⟨by kernel_rfl, fun W h => (by first | kernel_rfl | go_simp)⟩) hS ?_
  try simp only [Act.put, List.setIfInBounds_toArray, List.set_cons_zero, List.set_cons_succ]
  refine wpAnyH_take (i := 10) (oi := { dst := some 18, op := Op.load 9 (Operand.tmp 17), type := 9, pos := "desk.go:183", after := #[{ on := 9, ground := Ground.data }], guard := none }) (v := .string x.name) rfl (by kernel_rfl) (by kernel_rfl) (by kernel_rfl) (fun _ _ _ h => h) (Or.inl ⟨by kernel_rfl, fun W h => Op9.ld_str (.tmp 17) (by kernel_rfl) (by kernel_rfl) W (cell_below h e4)⟩) hS ?_
  try simp only [Act.put, List.setIfInBounds_toArray, List.set_cons_zero, List.set_cons_succ]
  refine wpAnyH_take (i := 11) (oi := { dst := some 19, op := Op.fieldAddr 84 (Operand.tmp 3) 3, type := 0, pos := "desk.go:183", after := #[], guard := none }) (v := .pointer (some ⟨W.heap.size, 3, none⟩)) rfl (by kernel_rfl) (by kernel_rfl) (by kernel_rfl) (fun _ _ _ h => h) (Or.inl ⟨by kernel_rfl, fun W h => (by first | kernel_rfl | go_simp)⟩) hS ?_
  try simp only [Act.put, List.setIfInBounds_toArray, List.set_cons_zero, List.set_cons_succ]
  refine wpAnyH_take (i := 12) (oi := { dst := some 20, op := Op.load 3 (Operand.tmp 19), type := 3, pos := "desk.go:183", after := #[{ on := 11, ground := Ground.data }], guard := none }) (v := .int .i64 x.p) rfl (by kernel_rfl) (by kernel_rfl) (by kernel_rfl) (fun _ _ _ h => h) (Or.inl ⟨by kernel_rfl, fun W h => Op9.ld_int (.tmp 19) (by kernel_rfl) (by kernel_rfl) W (cell_below h e3)⟩) hS ?_
  try simp only [Act.put, List.setIfInBounds_toArray, List.set_cons_zero, List.set_cons_succ]
  refine wpAnyH_ready (rs := [13]) (by kernel_rfl) (by simp) ?_
  refine AllReadyH.cons (o := { dst := some 21, op := Op.call { callee := Callee.value (Operand.func 82), args := #[Operand.tmp 14, Operand.tmp 16, Operand.tmp 18, Operand.tmp 20], argTypes := #[60, 3, 9, 3] }, type := 100, pos := "desk.go:183", after := #[{ on := 6, ground := Ground.data }, { on := 8, ground := Ground.data }, { on := 10, ground := Ground.data }, { on := 12, ground := Ground.data }], guard := none }) rfl (fun K hK => ?_) AllReadyH.nil
  rw [if_pos (by kernel_rfl)]
  go_simp
  rw [← unhide HX]
  refine (unhide CF).mono ?_
  rintro e w2 ⟨rfl, _, b2⟩
  have H2 := hide ((unhide H1).call b2)
  have D2 := hide (show De B bd bl bf bc bf bc W w2 from De.of_below ((unhide BB).trans (b2.mono (unhide BB).size)))
  have S2 : Below X.heap.size X w2 := b2
  clear b2 CF
  go_wp2_with fail
  refine hK.out _ _ (S2) (fun hS2 => ?_)
  clear hK K
  try simp only [Act.put, List.setIfInBounds_toArray, List.set_cons_zero, List.set_cons_succ]
  refine wpAnyH_take (i := 14) (oi := { dst := some 7, op := Op.move (Operand.tmp 21), type := 100, pos := "desk.go:183", after := #[{ on := 13, ground := Ground.data }], guard := none }) (v := .tuple #[.string tx, .bool bo, .int .i64 cd]) rfl (by kernel_rfl) (by kernel_rfl) (by kernel_rfl) (fun _ _ _ h => h) (Or.inl ⟨by kernel_rfl, fun W h => (by first | kernel_rfl | go_simp)⟩) hS2 ?_
  try simp only [Act.put, List.setIfInBounds_toArray, List.set_cons_zero, List.set_cons_succ]
  refine wpAnyH_take (i := 15) (oi := { dst := some 22, op := Op.extract (Operand.tmp 7) 0, type := 9, pos := "desk.go:183", after := #[{ on := 14, ground := Ground.data }], guard := none }) (v := .string tx) rfl (by kernel_rfl) (by kernel_rfl) (by kernel_rfl) (fun _ _ _ h => h) (Or.inl ⟨by kernel_rfl, fun W h => (by first | kernel_rfl | go_simp)⟩) hS2 ?_
  try simp only [Act.put, List.setIfInBounds_toArray, List.set_cons_zero, List.set_cons_succ]
  refine wpAnyH_take (i := 16) (oi := { dst := some 23, op := Op.extract (Operand.tmp 7) 1, type := 4, pos := "desk.go:183", after := #[{ on := 14, ground := Ground.data }, { on := 18, ground := Ground.gcOnly Departure.lateStores }], guard := none }) (v := .bool bo) rfl (by kernel_rfl) (by kernel_rfl) (by kernel_rfl) (fun _ _ _ h => h) (Or.inl ⟨by kernel_rfl, fun W h => (by first | kernel_rfl | go_simp)⟩) hS2 ?_
  try simp only [Act.put, List.setIfInBounds_toArray, List.set_cons_zero, List.set_cons_succ]
  refine wpAnyH_take (i := 17) (oi := { dst := some 24, op := Op.extract (Operand.tmp 7) 2, type := 3, pos := "desk.go:183", after := #[{ on := 14, ground := Ground.data }, { on := 19, ground := Ground.gcOnly Departure.lateStores }], guard := none }) (v := .int .i64 cd) rfl (by kernel_rfl) (by kernel_rfl) (by kernel_rfl) (fun _ _ _ h => h) (Or.inl ⟨by kernel_rfl, fun W h => (by first | kernel_rfl | go_simp)⟩) hS2 ?_
  try simp only [Act.put, List.setIfInBounds_toArray, List.set_cons_zero, List.set_cons_succ]
  refine wpAnyH_take (i := 18) (oi := { dst := some 4, op := Op.assign (Operand.tmp 22), type := 9, pos := "desk.go:183", after := #[{ on := 15, ground := Ground.data }, { on := 13, ground := Ground.chain }, { on := 0, ground := Ground.phase }, { on := 1, ground := Ground.phase }, { on := 2, ground := Ground.phase }, { on := 3, ground := Ground.phase }, { on := 4, ground := Ground.phase }, { on := 5, ground := Ground.phase }, { on := 6, ground := Ground.phase }, { on := 7, ground := Ground.phase }, { on := 8, ground := Ground.phase }, { on := 9, ground := Ground.phase }, { on := 10, ground := Ground.phase }, { on := 11, ground := Ground.phase }, { on := 12, ground := Ground.phase }, { on := 13, ground := Ground.phase }, { on := 14, ground := Ground.phase }, { on := 15, ground := Ground.phase }, { on := 16, ground := Ground.textOnly Departure.lateStores }, { on := 17, ground := Ground.textOnly Departure.lateStores }], guard := none }) (v := .string tx) rfl (by kernel_rfl) (by kernel_rfl) (by kernel_rfl) (fun _ _ _ h => h) (Or.inl ⟨by kernel_rfl, fun W h => (by first | kernel_rfl | go_simp)⟩) hS2 ?_
  try simp only [Act.put, List.setIfInBounds_toArray, List.set_cons_zero, List.set_cons_succ]
  refine wpAnyH_take (i := 19) (oi := { dst := some 5, op := Op.assign (Operand.tmp 23), type := 4, pos := "desk.go:183", after := #[{ on := 16, ground := Ground.data }, { on := 18, ground := Ground.chain }, { on := 0, ground := Ground.phase }, { on := 1, ground := Ground.phase }, { on := 2, ground := Ground.phase }, { on := 3, ground := Ground.phase }, { on := 4, ground := Ground.phase }, { on := 5, ground := Ground.phase }, { on := 6, ground := Ground.phase }, { on := 7, ground := Ground.phase }, { on := 8, ground := Ground.phase }, { on := 9, ground := Ground.phase }, { on := 10, ground := Ground.phase }, { on := 11, ground := Ground.phase }, { on := 12, ground := Ground.phase }, { on := 13, ground := Ground.phase }, { on := 14, ground := Ground.phase }, { on := 15, ground := Ground.phase }, { on := 16, ground := Ground.phase }, { on := 17, ground := Ground.textOnly Departure.lateStores }, { on := 18, ground := Ground.phase }], guard := none }) (v := .bool bo) rfl (by kernel_rfl) (by kernel_rfl) (by kernel_rfl) (fun _ _ _ h => h) (Or.inl ⟨by kernel_rfl, fun W h => (by first | kernel_rfl | go_simp)⟩) hS2 ?_
  try simp only [Act.put, List.setIfInBounds_toArray, List.set_cons_zero, List.set_cons_succ]
  refine wpAnyH_take (i := 20) (oi := { dst := some 6, op := Op.assign (Operand.tmp 24), type := 3, pos := "desk.go:183", after := #[{ on := 17, ground := Ground.data }, { on := 19, ground := Ground.chain }, { on := 0, ground := Ground.phase }, { on := 1, ground := Ground.phase }, { on := 2, ground := Ground.phase }, { on := 3, ground := Ground.phase }, { on := 4, ground := Ground.phase }, { on := 5, ground := Ground.phase }, { on := 6, ground := Ground.phase }, { on := 7, ground := Ground.phase }, { on := 8, ground := Ground.phase }, { on := 9, ground := Ground.phase }, { on := 10, ground := Ground.phase }, { on := 11, ground := Ground.phase }, { on := 12, ground := Ground.phase }, { on := 13, ground := Ground.phase }, { on := 14, ground := Ground.phase }, { on := 15, ground := Ground.phase }, { on := 16, ground := Ground.phase }, { on := 17, ground := Ground.phase }, { on := 18, ground := Ground.phase }, { on := 19, ground := Ground.phase }], guard := none }) (v := .int .i64 cd) rfl (by kernel_rfl) (by kernel_rfl) (by kernel_rfl) (fun _ _ _ h => h) (Or.inl ⟨by kernel_rfl, fun W h => (by first | kernel_rfl | go_simp)⟩) hS2 ?_
  try simp only [Act.put, List.setIfInBounds_toArray, List.set_cons_zero, List.set_cons_succ]
  refine wpAnyH_done (by kernel_rfl) ?_ _
  clear hS hS2 S2 c1 c2 r1 e1 e3 e4 hX HX
  by_cases hz : cd = 0
  case neg =>
    have q0 : (cd != 0) = true := by simpa using hz
    have O := hide (unhide ON w2 (unhide H2))
    rw [← unhide E1 hz] at O
    clear OW ON OS OT E1 E2 E3 hz
    go_wp2_with fail
    refine (unhide O).mono ?_
    rintro e w3 ⟨rfl, h3, f3⟩
    have R := hide (And.intro h3 ((unhide D2).trans (De.of_df f3)))
    clear h3 f3 O
    go_wp2_with fail
    go_end0
    exact ⟨rfl, unhide R⟩
  subst hz
  cases bo
  case false =>
    have O := hide (unhide OW w2 (unhide H2))
    rw [← unhide E2 rfl rfl] at O
    clear OW ON OS OT E1 E2 E3
    go_wp2_with fail
    refine (unhide O).mono ?_
    rintro e w3 ⟨rfl, h3, f3⟩
    have R := hide (And.intro h3 ((unhide D2).trans (De.of_df f3)))
    clear h3 f3 O
    go_wp2_with fail
    go_end0
    exact ⟨rfl, unhide R⟩
  case true =>
    have E4 := hide (unhide E3 rfl rfl)
    clear E1 E2 E3 ON OW
    go_wp2_with fail
    refine (unhide OS w2).mono ?_
    rintro e w3 ⟨rfl, b3⟩
    have D3 := hide ((unhide D2).trans (De.of_below b3))
    have O := hide (unhide OT w3 ((unhide H2).call b3))
    rw [← unhide E4] at O
    clear OS OT E4 b3
    go_wp2_with fail
    refine (unhide O).mono ?_
    rintro e w4 ⟨rfl, h3, f3⟩
    have R := hide (And.intro h3 ((unhide D3).trans (De.of_df f3)))
    clear h3 f3 O
    go_wp2_with fail
    go_end0
    exact ⟨rfl, unhide R⟩
end
end Go.Proofs.YtfpfpnhpbnnmfadGreatDoor
