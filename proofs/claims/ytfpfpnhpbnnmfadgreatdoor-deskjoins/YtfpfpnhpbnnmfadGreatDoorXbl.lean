/-
  The walks of package text: say, inode, entry, data. (Written by genke.py.)
-/
import Derived.Test.YtfpfpnhpbnnmfadGreatDoorXbk
import Derived.Laws.AppendOwn
import Derived.Lib.ItoaLen
set_option linter.unusedVariables false
namespace Go.Proofs.YtfpfpnhpbnnmfadGreatDoor
open Go.RowKit
theorem Lib_mk (l : List UInt8) : (⟨l.toArray⟩ : ByteArray).toList = l := ByteArray.toList_mk l
theorem mk_size (l : List UInt8) : (⟨l.toArray⟩ : ByteArray).size = l.length := by rw [← len_bytes, Lib_mk]
set_option maxHeartbeats 600000 in
set_option maxRecDepth 100000 in
theorem say_any {B b : Nat} {l : List UInt8} (x : ByteArray) (ws : List ByteArray) (bk o c : Nat) {w : World} (h : Wr B b l w) (hBw : B ≤ w.heap.size) (hx : 1 ≤ x.size) (hl : l.length ≤ 1000000000)
    (hcells : ∀ (j : Nat) y, (x :: ws)[j]? = some y → w.cell? ⟨bk, o + j, none⟩ = some (.string y)) (hbk : bk < w.heap.size) (hn : ws.length ≤ 100) (hcap : (x :: ws).length ≤ c)
    (hlen : (Txt.line ((x :: ws).map (·.toList))).length ≤ 1000000000) :
    Calls Tryz.prog 124 #[.pointer (some ⟨b, 0, none⟩), .slice (some ⟨bk, o, none⟩) (x :: ws).length c] w fun e w' => e = .returned (.tuple #[]) ∧ Wr B b (l ++ Txt.line ((x :: ws).map (·.toList))) w' ∧ Below B w w' := by
  obtain ⟨J, hJ⟩ : ∃ J : List UInt8, J = Lib.join ((x :: ws).map (·.data.toList)) [32] := ⟨_, rfl⟩
  have EJ := hide (show Txt.line ((x :: ws).map (·.toList)) = J ++ [10] by
    rw [hJ, show (x :: ws).map (·.data.toList) = (x :: ws).map (·.toList) from List.map_congr_left fun y _ => (ByteArray.toList_eq y).symm, List.map_cons]
    exact (Txt.join_line _ _).symm)
  have J1 := hide (show 1 ≤ J.length by
    rw [hJ, List.map_cons, Lib.join_cons, List.length_append]
    have : x.data.toList.length = x.size := rfl
    omega)
  have JL := hide (show J.length ≤ 1000000000 by have := unhide EJ; rw [this, List.length_append] at hlen; omega)
  have D := hide (show Calls Tryz.prog 178 #[.slice (some ⟨bk, o, none⟩) (x :: ws).length c, .string ⟨#[32]⟩] w.drew fun e w' => e = .returned (.string ⟨J.toArray⟩) ∧ Below w.heap.size w w' from by
    refine (join_any bk o c (x :: ws) ⟨#[32]⟩ w.drew hcells hbk (by rw [List.length_cons]; omega) hcap (by show (Lib.join ((x :: ws).map (·.data.toList)) [32]).length ≤ _; rw [← hJ]; have := unhide JL; omega)).mono fun e w' ⟨he, hb⟩ => ⟨?_, (Below.refl _ w).drew.trans hb⟩
    rw [he, hJ])
  have W1 := hide (fun V (hb : Below w.heap.size w V) => writeString_any ⟨J.toArray⟩ (h.below hb) (by rw [mk_size]; exact unhide J1) (by rw [mk_size]; have := unhide JL; omega) (Nat.le_trans hBw hb.size))
  have SZ := hide hBw
  have W2 := hide (fun V (hv : Wr B b (l ++ (⟨J.toArray⟩ : ByteArray).toList) V) (hb : B ≤ V.heap.size) => writeByte_any 10 hv (by rw [List.length_append, Lib_mk]; have := unhide JL; omega) hb)
  have b0 : Below w.heap.size w w.drew := (Below.refl _ w).drew
  rw [unhide EJ]
  have BW := hide hBw
  clear h hBw hx hl hcells hbk hn hcap hlen hJ J1 JL EJ
  generalize (x :: ws).length = n at D ⊢
  go_enter Tryz.func124, Tryz.ntmps124
  go_upto_region 0 with fail
  refine wp_region_F (S := fun V => Below w.heap.size w V) 5 (by kernel_rfl) (b0) (fun hS => ?_)
  refine wpAnyF_free (i := 0) (oi := { dst := some 4, op := Op.move (Operand.tmp 0), type := 186, pos := "text.go:71", after := #[], guard := none }) (v := .pointer (some ⟨b, 0, none⟩)) rfl (by kernel_rfl) (by kernel_rfl) (by kernel_rfl) (by kernel_rfl) (fun _ _ _ h => h) (Or.inl ⟨by kernel_rfl, fun W _ => (by first | kernel_rfl | go_simp)⟩) b0 ?_
  try simp only [Act.put, List.setIfInBounds_toArray, List.set_cons_zero, List.set_cons_succ]
  refine wpAnyF_free (i := 1) (oi := { dst := some 5, op := Op.nilCheck (Operand.tmp 4), type := 0, pos := "text.go:71", after := #[{ on := 0, ground := Ground.data }], guard := none }) (v := .pointer (some ⟨b, 0, none⟩)) rfl (by kernel_rfl) (by kernel_rfl) (by kernel_rfl) (by kernel_rfl) (fun _ _ _ h => h) (Or.inl ⟨by kernel_rfl, fun W _ => (by first | kernel_rfl | go_simp)⟩) b0 ?_
  try simp only [Act.put, List.setIfInBounds_toArray, List.set_cons_zero, List.set_cons_succ]
  refine wpAnyF_take (i := 2) (oi := { dst := some 6, op := Op.fieldAddr 150 (Operand.tmp 5) 0, type := 0, pos := "text.go:71", after := #[{ on := 1, ground := Ground.data }], guard := none }) (v := .pointer (some ⟨b, 0, none⟩)) rfl (by kernel_rfl) (by kernel_rfl) (by kernel_rfl) (by kernel_rfl) (fun _ _ _ h => h) (Or.inl ⟨by kernel_rfl, fun W h => (by first | kernel_rfl | go_simp)⟩) b0 ?_
  try simp only [Act.put, List.setIfInBounds_toArray, List.set_cons_zero, List.set_cons_succ]
  refine wpAnyF_free (i := 3) (oi := { dst := some 7, op := Op.move (Operand.tmp 1), type := 22, pos := "text.go:71", after := #[], guard := none }) (v := .slice (some ⟨bk, o, none⟩) n c) rfl (by kernel_rfl) (by kernel_rfl) (by kernel_rfl) (by kernel_rfl) (fun _ _ _ h => h) (Or.inl ⟨by kernel_rfl, fun W _ => (by first | kernel_rfl | go_simp)⟩) b0 ?_
  try simp only [Act.put, List.setIfInBounds_toArray, List.set_cons_zero, List.set_cons_succ]
  refine wpAnyF_one (i := 4) (o := { dst := some 8, op := Op.call { callee := Callee.value (Operand.func 178), args := #[Operand.tmp 7, Operand.const (Value.string { data := #[32] })], argTypes := #[22, 9] }, type := 9, pos := "text.go:71", after := #[{ on := 3, ground := Ground.data }], guard := none }) (by kernel_rfl) rfl (by kernel_rfl) (fun K hK => ?_)
  go_simp
  refine (unhide D).mono ?_
  rintro e w1 ⟨rfl, b1⟩
  go_wp2_with fail
  have hS1 := b1
  refine hK.out _ _ (fun _ => hS1) ?_
  clear hK K
  try simp only [Act.put, List.setIfInBounds_toArray, List.set_cons_zero, List.set_cons_succ]
  refine wpAnyF_last (o := { dst := some 9, op := Op.call { callee := Callee.value (Operand.func 50), args := #[Operand.tmp 6, Operand.tmp 8], argTypes := #[44, 9] }, type := 122, pos := "text.go:71", after := #[{ on := 2, ground := Ground.data }, { on := 4, ground := Ground.data }, { on := 4, ground := Ground.chain }], guard := none }) (by kernel_rfl) rfl (by kernel_rfl) (by kernel_rfl) (fun K hK => ?_)
  go_simp
  refine (unhide W1 _ hS1).mono ?_
  rintro e w2 ⟨rfl, h2, b2⟩
  have H2 := hide h2
  have B2 := hide (show Below B w w2 from (hS1.mono (unhide BW)).trans b2)
  clear h2 b2 hS1
  go_wp2_with fail
  refine hK.out _ _ ?_
  clear hK K
  try simp only [Act.put, List.setIfInBounds_toArray, List.set_cons_zero, List.set_cons_succ]
  refine wpAnyF_done (by kernel_rfl) ?_ _
  clear hS b0
  go_wp2_with fail
  refine (unhide W2 _ (unhide H2) (Nat.le_trans (unhide SZ) (unhide B2).size)).mono ?_
  rintro e w3 ⟨rfl, h3, b3⟩
  have H3 := hide h3
  have B3 := hide (show Below B w w3 from (unhide B2).trans b3)
  clear h3 b3
  go_wp2_with fail
  go_end0
  exact ⟨rfl, by have := unhide H3; rw [Lib_mk, List.append_assoc] at this; exact this, unhide B3⟩
def I64 (z : Int) : Prop := -9223372036854775808 ≤ z ∧ z ≤ 9223372036854775807
theorem I64.nat {n : Nat} (h : n ≤ 1000) : I64 (n : Int) := ⟨by omega, by omega⟩
theorem itoa_len {z : Int} (h : I64 z) : (Lib.itoa z).length ≤ 21 := Lib.itoa_length_le z h.1 h.2
theorem below_cell {B : Nat} {w W : World} (h : Below B w W) {g q : Nat} (hg : g < B) {v : Value} (hc : w.cell? ⟨g, q, none⟩ = some v) : W.cell? ⟨g, q, none⟩ = some v := by
  rw [h.cell (p := ⟨g, q, none⟩) hg]; exact hc
theorem itoa_at {w V : World} (hb : Below w.heap.size w V) (ht : Tab w) {z : Int} (hz : I64 z) :
    Calls Tryz.prog 69 #[.int .i64 z] V fun e w' => e = .returned (.string ⟨(Lib.itoa z).toArray⟩) ∧ Below w.heap.size w w' :=
  (itoa_any z hz.1 hz.2 V (tab_block ht (hb.block 4 (tab_lt ht)))).mono fun e w' ⟨he, h⟩ => ⟨he, hb.trans (h.mono hb.size)⟩
theorem row_strs (W : World) (ws : List ByteArray) (T : TypeId) : ∀ (j : Nat) y, ws[j]? = some y → (W.alloc (.cells (ws.map .string).toArray T)).cell? ⟨W.heap.size, 0 + j, none⟩ = some (.string y) := fun j y hy => by
  rw [Lib.cell_of_heap (heap_alloc_last W _), Nat.zero_add]
  simp [hy]
theorem ld_i {o : Oper} {ρ : Operand → Value} (x : Operand) (ho : o.op = .load 3 x) {g q : Nat} (hx : ρ x = .pointer (some ⟨g, q, none⟩)) {v : Int} (w : World) (hc : w.cell? ⟨g, q, none⟩ = some (.int .i64 v)) : (execOp ρ o).run Tryz.prog w = .ok (.value (.int .i64 v)) w := by
  unfold execOp
  rw [ho]
  go_simp
theorem ld_s {o : Oper} {ρ : Operand → Value} (x : Operand) (ho : o.op = .load 9 x) {g q : Nat} (hx : ρ x = .pointer (some ⟨g, q, none⟩)) {v : ByteArray} (w : World) (hc : w.cell? ⟨g, q, none⟩ = some (.string v)) : (execOp ρ o).run Tryz.prog w = .ok (.value (.string v)) w := by
  unfold execOp
  rw [ho]
  go_simp
abbrev mkb (l : List UInt8) : ByteArray := ⟨l.toArray⟩
theorem say4 {B b : Nat} {l : List UInt8} (x a c d : ByteArray) {W : World} (h : Wr B b l W) (hBw : B ≤ W.heap.size) (hx : 1 ≤ x.size) (hl : l.length ≤ 1000000000) (hlen : x.size + a.size + c.size + d.size ≤ 900000000) :
    Calls Tryz.prog 124 #[.pointer (some ⟨b, 0, none⟩), .slice (some ⟨W.heap.size, 0, none⟩) 4 4] (W.alloc (.cells #[.string x, .string a, .string c, .string d] 9)) fun e w' => e = .returned (.tuple #[]) ∧ Wr B b (l ++ Txt.line [x.toList, a.toList, c.toList, d.toList]) w' ∧ Below B W w' := by
  have hb : Below W.heap.size W (W.alloc (.cells #[.string x, .string a, .string c, .string d] 9)) := (Below.refl _ W).alloc (Nat.le_refl _) _
  refine (say_any x [a, c, d] W.heap.size 0 4 (h.below hb) (Nat.le_trans hBw hb.size) hx hl (row_strs W [x, a, c, d] 9) (by simp) (by simp) (by simp) (by simp only [List.map_cons, List.map_nil, Txt.line, Txt.tailW, List.length_append, List.length_cons, List.length_nil, len_bytes]; omega)).mono fun e w' ⟨he, hw, hb2⟩ => ⟨he, hw, (hb.mono hBw).trans hb2⟩
theorem say6 {B b : Nat} {l : List UInt8} (x a c d f g : ByteArray) {W : World} (h : Wr B b l W) (hBw : B ≤ W.heap.size) (hx : 1 ≤ x.size) (hl : l.length ≤ 1000000000) (hlen : x.size + a.size + c.size + d.size + f.size + g.size ≤ 900000000) :
    Calls Tryz.prog 124 #[.pointer (some ⟨b, 0, none⟩), .slice (some ⟨W.heap.size, 0, none⟩) 6 6] (W.alloc (.cells #[.string x, .string a, .string c, .string d, .string f, .string g] 9)) fun e w' => e = .returned (.tuple #[]) ∧ Wr B b (l ++ Txt.line [x.toList, a.toList, c.toList, d.toList, f.toList, g.toList]) w' ∧ Below B W w' := by
  have hb : Below W.heap.size W (W.alloc (.cells #[.string x, .string a, .string c, .string d, .string f, .string g] 9)) := (Below.refl _ W).alloc (Nat.le_refl _) _
  refine (say_any x [a, c, d, f, g] W.heap.size 0 6 (h.below hb) (Nat.le_trans hBw hb.size) hx hl (row_strs W [x, a, c, d, f, g] 9) (by simp) (by simp) (by simp) (by simp only [List.map_cons, List.map_nil, Txt.line, Txt.tailW, List.length_append, List.length_cons, List.length_nil, len_bytes]; omega)).mono fun e w' ⟨he, hw, hb2⟩ => ⟨he, hw, (hb.mono hBw).trans hb2⟩
set_option maxHeartbeats 1000000 in
set_option maxRecDepth 100000 in
theorem data_any {B b : Nat} {l : List UInt8} (x g q : Nat) (of : Int) (tx : ByteArray) {w : World} (h : Wr B b l w) (ht : Tab w) (hBw : B ≤ w.heap.size) (hx : x ≤ 1000) (ho : I64 of) (htx : tx.size ≤ 100000) (hg : g < B)
    (c0 : w.cell? ⟨g, q, none⟩ = some (.int .i64 of)) (c1 : w.cell? ⟨g, q + 1, none⟩ = some (.string tx)) (hl : l.length ≤ 1000000000) :
    Calls Tryz.prog 91 #[.pointer (some ⟨b, 0, none⟩), .int .i64 (x : Int), .pointer (some ⟨g, q, none⟩)] w fun e w' => e = .returned (.tuple #[]) ∧ Wr B b (l ++ Txt.line [Txt.bData, Lib.itoa (x : Int), Lib.itoa of, Txt.shows tx.toList]) w' ∧ Below B w w' := by
  have TB := hide ht
  have SZ := hide hBw
  have WB := hide h
  have b0 : Below w.heap.size w w.drew := (Below.refl _ w).drew
  have bB : Below B w w.drew := (Below.refl _ w).drew
  have I1 := hide (itoa_at (V := w.drew) b0 ht (I64.nat hx))
  have I2 := hide (fun V (hb : Below w.heap.size w V) => itoa_at hb ht ho)
  have I3 := hide (fun (V : World) (hb : Below w.heap.size w V) => (Show_any tx (by omega) V).mono fun e w' ⟨he, h⟩ => (show e = Ending.returned (.string ⟨(Txt.shows tx.toList).toArray⟩) ∧ Below w.heap.size w w' from ⟨he, hb.trans (h.mono hb.size)⟩))
  have I4 := hide (fun (V : World) (hb : Below w.heap.size w V) => say4 (⟨#[100, 97, 116, 97]⟩ : ByteArray) (mkb (Lib.itoa (x : Int))) (mkb (Lib.itoa of)) (mkb (Txt.shows tx.toList)) (h.below hb) (Nat.le_trans hBw hb.size) (by decide) hl (by
    have e1 := itoa_len (I64.nat hx)
    have e2 := itoa_len ho
    have e3 := (Txt.showR_len tx.toList).2
    rw [mk_size (Lib.itoa (x : Int)), mk_size (Lib.itoa of), mk_size (Txt.shows tx.toList), show (⟨#[100, 97, 116, 97]⟩ : ByteArray).size = 4 from rfl, show (Txt.shows tx.toList).length = (Txt.showR tx.toList).length + 1 from rfl]
    rw [len_bytes] at e3
    omega))
  have EL := hide (show Txt.line [(⟨#[100, 97, 116, 97]⟩ : ByteArray).toList, (mkb (Lib.itoa (x : Int))).toList, (mkb (Lib.itoa of)).toList, (mkb (Txt.shows tx.toList)).toList] = Txt.line [Txt.bData, Lib.itoa (x : Int), Lib.itoa of, Txt.shows tx.toList] by
    rw [Lib_mk (Lib.itoa (x : Int)), Lib_mk (Lib.itoa of), Lib_mk (Txt.shows tx.toList), show (⟨#[100, 97, 116, 97]⟩ : ByteArray).toList = Txt.bData from Lib_mk [100, 97, 116, 97]])
  rw [← unhide EL]
  clear EL hl ht hBw h
  generalize Lib.itoa (x : Int) = X at I1 I4 ⊢
  generalize (x : Int) = xz at I1 ⊢
  generalize Lib.itoa of = O at I2 I4 ⊢
  generalize Txt.shows tx.toList = S at I3 I4 ⊢
  go_enter Tryz.func91, Tryz.ntmps91
  go_upto_region 0 with fail
  refine wp_region_held_drew (S := fun V => Below B w V) (by kernel_rfl) (bB) (fun hS => ?_)
  refine wpAnyH_take (i := 0) (oi := { dst := some 6, op := Op.move (Operand.tmp 0), type := 186, pos := "text.go:88", after := #[], guard := none }) (v := .pointer (some ⟨b, 0, none⟩)) rfl (by kernel_rfl) (by kernel_rfl) (by kernel_rfl) (fun _ _ _ h => h) (Or.inl ⟨by kernel_rfl, fun W h => (by first | kernel_rfl | go_simp)⟩) bB ?_
  try simp only [Act.put, List.setIfInBounds_toArray, List.set_cons_zero, List.set_cons_succ]
  refine wpAnyH_take (i := 1) (oi := { dst := some 7, op := Op.move (Operand.tmp 1), type := 3, pos := "text.go:88", after := #[], guard := none }) (v := .int .i64 xz) rfl (by kernel_rfl) (by kernel_rfl) (by kernel_rfl) (fun _ _ _ h => h) (Or.inl ⟨by kernel_rfl, fun W h => (by first | kernel_rfl | go_simp)⟩) bB ?_
  try simp only [Act.put, List.setIfInBounds_toArray, List.set_cons_zero, List.set_cons_succ]
  refine wpAnyH_take (i := 3) (oi := { dst := some 9, op := Op.move (Operand.tmp 2), type := 156, pos := "text.go:88", after := #[], guard := none }) (v := .pointer (some ⟨g, q, none⟩)) rfl (by kernel_rfl) (by kernel_rfl) (by kernel_rfl) (fun _ _ _ h => h) (Or.inl ⟨by kernel_rfl, fun W h => (by first | kernel_rfl | go_simp)⟩) bB ?_
  try simp only [Act.put, List.setIfInBounds_toArray, List.set_cons_zero, List.set_cons_succ]
  refine wpAnyH_take (i := 4) (oi := { dst := some 10, op := Op.nilCheck (Operand.tmp 9), type := 0, pos := "text.go:88", after := #[{ on := 3, ground := Ground.data }], guard := none }) (v := .pointer (some ⟨g, q, none⟩)) rfl (by kernel_rfl) (by kernel_rfl) (by kernel_rfl) (fun _ _ _ h => h) (Or.inl ⟨by kernel_rfl, fun W h => (by first | kernel_rfl | go_simp)⟩) bB ?_
  try simp only [Act.put, List.setIfInBounds_toArray, List.set_cons_zero, List.set_cons_succ]
  refine wpAnyH_take (i := 5) (oi := { dst := some 11, op := Op.fieldAddr 75 (Operand.tmp 10) 0, type := 0, pos := "text.go:88", after := #[{ on := 4, ground := Ground.data }], guard := none }) (v := .pointer (some ⟨g, q, none⟩)) rfl (by kernel_rfl) (by kernel_rfl) (by kernel_rfl) (fun _ _ _ h => h) (Or.inl ⟨by kernel_rfl, fun W h => (by first | kernel_rfl | go_simp)⟩) bB ?_
  try simp only [Act.put, List.setIfInBounds_toArray, List.set_cons_zero, List.set_cons_succ]
  refine wpAnyH_take (i := 6) (oi := { dst := some 12, op := Op.load 3 (Operand.tmp 11), type := 3, pos := "text.go:88", after := #[{ on := 5, ground := Ground.data }], guard := none }) (v := .int .i64 of) rfl (by kernel_rfl) (by kernel_rfl) (by kernel_rfl) (fun _ _ _ h => h) (Or.inl ⟨by kernel_rfl, fun W h => ld_i (.tmp 11) (by kernel_rfl) (by kernel_rfl) W (below_cell h hg c0)⟩) bB ?_
  try simp only [Act.put, List.setIfInBounds_toArray, List.set_cons_zero, List.set_cons_succ]
  refine wpAnyH_take (i := 8) (oi := { dst := some 14, op := Op.move (Operand.tmp 2), type := 156, pos := "text.go:88", after := #[], guard := none }) (v := .pointer (some ⟨g, q, none⟩)) rfl (by kernel_rfl) (by kernel_rfl) (by kernel_rfl) (fun _ _ _ h => h) (Or.inl ⟨by kernel_rfl, fun W h => (by first | kernel_rfl | go_simp)⟩) bB ?_
  try simp only [Act.put, List.setIfInBounds_toArray, List.set_cons_zero, List.set_cons_succ]
  refine wpAnyH_take (i := 9) (oi := { dst := some 15, op := Op.nilCheck (Operand.tmp 14), type := 0, pos := "text.go:88", after := #[{ on := 8, ground := Ground.data }], guard := none }) (v := .pointer (some ⟨g, q, none⟩)) rfl (by kernel_rfl) (by kernel_rfl) (by kernel_rfl) (fun _ _ _ h => h) (Or.inl ⟨by kernel_rfl, fun W h => (by first | kernel_rfl | go_simp)⟩) bB ?_
  try simp only [Act.put, List.setIfInBounds_toArray, List.set_cons_zero, List.set_cons_succ]
  refine wpAnyH_take (i := 10) (oi := { dst := some 16, op := Op.fieldAddr 75 (Operand.tmp 15) 1, type := 0, pos := "text.go:88", after := #[{ on := 9, ground := Ground.data }], guard := none }) (v := .pointer (some ⟨g, q + 1, none⟩)) rfl (by kernel_rfl) (by kernel_rfl) (by kernel_rfl) (fun _ _ _ h => h) (Or.inl ⟨by kernel_rfl, fun W h => (by first | kernel_rfl | go_simp)⟩) bB ?_
  try simp only [Act.put, List.setIfInBounds_toArray, List.set_cons_zero, List.set_cons_succ]
  refine wpAnyH_take (i := 11) (oi := { dst := some 17, op := Op.load 9 (Operand.tmp 16), type := 9, pos := "text.go:88", after := #[{ on := 10, ground := Ground.data }], guard := none }) (v := .string tx) rfl (by kernel_rfl) (by kernel_rfl) (by kernel_rfl) (fun _ _ _ h => h) (Or.inl ⟨by kernel_rfl, fun W h => ld_s (.tmp 16) (by kernel_rfl) (by kernel_rfl) W (below_cell h hg c1)⟩) bB ?_
  try simp only [Act.put, List.setIfInBounds_toArray, List.set_cons_zero, List.set_cons_succ]
  refine wpAnyH_ready (rs := [2]) (by kernel_rfl) (by simp) ?_
  refine AllReadyH.cons (o := { dst := some 8, op := Op.call { callee := Callee.value (Operand.func 69), args := #[Operand.tmp 7], argTypes := #[3] }, type := 9, pos := "text.go:88", after := #[{ on := 1, ground := Ground.data }], guard := none }) rfl (fun K hK => ?_) AllReadyH.nil
  rw [if_pos (by kernel_rfl)]
  go_simp
  refine (unhide I1).mono ?_
  rintro e w1 ⟨rfl, b1⟩
  go_wp2_with fail
  refine hK.out _ _ (b1.mono (unhide SZ)) (fun _ => ?_)
  clear hK K
  try simp only [Act.put, List.setIfInBounds_toArray, List.set_cons_zero, List.set_cons_succ]
  refine wpAnyH_ready (rs := [7]) (by kernel_rfl) (by simp) ?_
  refine AllReadyH.cons (o := { dst := some 13, op := Op.call { callee := Callee.value (Operand.func 69), args := #[Operand.tmp 12], argTypes := #[3] }, type := 9, pos := "text.go:88", after := #[{ on := 6, ground := Ground.data }, { on := 2, ground := Ground.chain }], guard := none }) rfl (fun K hK => ?_) AllReadyH.nil
  rw [if_pos (by kernel_rfl)]
  go_simp
  refine (unhide I2 _ b1).mono ?_
  rintro e w2 ⟨rfl, b2⟩
  clear b1
  go_wp2_with fail
  refine hK.out _ _ (b2.mono (unhide SZ)) (fun _ => ?_)
  clear hK K
  try simp only [Act.put, List.setIfInBounds_toArray, List.set_cons_zero, List.set_cons_succ]
  refine wpAnyH_ready (rs := [12]) (by kernel_rfl) (by simp) ?_
  refine AllReadyH.cons (o := { dst := some 18, op := Op.call { callee := Callee.value (Operand.func 83), args := #[Operand.tmp 17], argTypes := #[9] }, type := 9, pos := "text.go:88", after := #[{ on := 11, ground := Ground.data }, { on := 7, ground := Ground.chain }], guard := none }) rfl (fun K hK => ?_) AllReadyH.nil
  rw [if_pos (by kernel_rfl)]
  go_simp
  refine (unhide I3 _ b2).mono ?_
  rintro e w3 ⟨rfl, b3⟩
  clear b2
  go_wp2_with fail
  refine hK.out _ _ (b3.mono (unhide SZ)) (fun _ => ?_)
  clear hK K
  try simp only [Act.put, List.setIfInBounds_toArray, List.set_cons_zero, List.set_cons_succ]
  refine wpAnyH_ready (rs := [13]) (by kernel_rfl) (by simp) ?_
  refine AllReadyH.cons (o := { dst := some 19, op := Op.buildSlice 22 4 #[(0, Operand.const (Value.string { data := #[100, 97, 116, 97] })), (1, Operand.tmp 8), (2, Operand.tmp 13), (3, Operand.tmp 18)], type := 22, pos := "text.go:88", after := #[{ on := 2, ground := Ground.data }, { on := 7, ground := Ground.data }, { on := 12, ground := Ground.data }], guard := none }) rfl (fun K hK => ?_) AllReadyH.nil
  rw [if_pos (by kernel_rfl)]
  go_simp
  refine hK.out _ _ ((b3.alloc b3.size (.cells #[.string ⟨#[100, 97, 116, 97]⟩, .string ⟨X.toArray⟩, .string ⟨O.toArray⟩, .string ⟨S.toArray⟩] 9)).mono (unhide SZ)) (fun _ => ?_)
  clear hK K
  try simp only [Act.put, List.setIfInBounds_toArray, List.set_cons_zero, List.set_cons_succ]
  refine wpAnyH_ready (rs := [14]) (by kernel_rfl) (by simp) ?_
  refine AllReadyH.cons (o := { dst := some 20, op := Op.call { callee := Callee.value (Operand.func 124), args := #[Operand.tmp 6, Operand.tmp 19], argTypes := #[186, 22] }, type := 0, pos := "text.go:88", after := #[{ on := 0, ground := Ground.data }, { on := 13, ground := Ground.data }, { on := 12, ground := Ground.chain }], guard := none }) rfl (fun K hK => ?_) AllReadyH.nil
  rw [if_pos (by kernel_rfl)]
  go_simp
  refine (unhide I4 _ b3).mono ?_
  rintro e w5 ⟨rfl, h5, b5⟩
  have H5 := hide h5
  have B5 := hide (show Below B w w5 from (b3.mono (unhide SZ)).trans b5)
  clear h5 b5 b3
  go_wp2_with fail
  refine hK.out _ _ (unhide B5) (fun _ => ?_)
  clear hK K
  try simp only [Act.put, List.setIfInBounds_toArray, List.set_cons_zero, List.set_cons_succ]
  refine wpAnyH_done (by kernel_rfl) ?_ _
  clear hS b0 bB
  go_wp2_with fail
  go_end0
  exact ⟨rfl, unhide H5, unhide B5⟩
set_option maxHeartbeats 1000000 in
set_option maxRecDepth 100000 in
theorem entry_any {B b : Nat} {l : List UInt8} (d s g q : Nat) (nm : ByteArray) (ino est : Int) {w : World} (h : Wr B b l w) (ht : Tab w) (hBw : B ≤ w.heap.size) (hd : d ≤ 1000) (hs : s ≤ 1000) (hi : I64 ino) (he : I64 est) (hnm : nm.size ≤ 100000) (hg : g < B)
    (c0 : w.cell? ⟨g, q, none⟩ = some (.string nm)) (c1 : w.cell? ⟨g, q + 1, none⟩ = some (.int .i64 ino)) (c2 : w.cell? ⟨g, q + 2, none⟩ = some (.int .i64 est)) (hl : l.length ≤ 1000000000) :
    Calls Tryz.prog 90 #[.pointer (some ⟨b, 0, none⟩), .int .i64 (d : Int), .int .i64 (s : Int), .pointer (some ⟨g, q, none⟩)] w fun e w' => e = .returned (.tuple #[]) ∧ Wr B b (l ++ Txt.line [Txt.bEntry, Lib.itoa (d : Int), Lib.itoa (s : Int), nm.toList, Lib.itoa ino, Lib.itoa est]) w' ∧ Below B w w' := by
  have TB := hide ht
  have SZ := hide hBw
  have WB := hide h
  have b0 : Below w.heap.size w w.drew := (Below.refl _ w).drew
  have bB : Below B w w.drew := (Below.refl _ w).drew
  have I1 := hide (itoa_at (V := w.drew) b0 ht (I64.nat hd))
  have I2 := hide (fun V (hb : Below w.heap.size w V) => itoa_at hb ht (I64.nat hs))
  have I3 := hide (fun V (hb : Below w.heap.size w V) => itoa_at hb ht hi)
  have I4 := hide (fun V (hb : Below w.heap.size w V) => itoa_at hb ht he)
  have I5 := hide (fun (V : World) (hb : Below w.heap.size w V) => say6 (⟨#[101, 110, 116, 114, 121]⟩ : ByteArray) (mkb (Lib.itoa (d : Int))) (mkb (Lib.itoa (s : Int))) nm (mkb (Lib.itoa ino)) (mkb (Lib.itoa est)) (h.below hb) (Nat.le_trans hBw hb.size) (by decide) hl (by
    have e1 := itoa_len (I64.nat hd)
    have e2 := itoa_len (I64.nat hs)
    have e3 := itoa_len hi
    have e4 := itoa_len he
    rw [mk_size (Lib.itoa (d : Int)), mk_size (Lib.itoa (s : Int)), mk_size (Lib.itoa ino), mk_size (Lib.itoa est), show (⟨#[101, 110, 116, 114, 121]⟩ : ByteArray).size = 5 from rfl]
    omega))
  have EL := hide (show Txt.line [(⟨#[101, 110, 116, 114, 121]⟩ : ByteArray).toList, (mkb (Lib.itoa (d : Int))).toList, (mkb (Lib.itoa (s : Int))).toList, nm.toList, (mkb (Lib.itoa ino)).toList, (mkb (Lib.itoa est)).toList] = Txt.line [Txt.bEntry, Lib.itoa (d : Int), Lib.itoa (s : Int), nm.toList, Lib.itoa ino, Lib.itoa est] by
    rw [Lib_mk (Lib.itoa (d : Int)), Lib_mk (Lib.itoa (s : Int)), Lib_mk (Lib.itoa ino), Lib_mk (Lib.itoa est), show (⟨#[101, 110, 116, 114, 121]⟩ : ByteArray).toList = Txt.bEntry from Lib_mk [101, 110, 116, 114, 121]])
  rw [← unhide EL]
  clear EL hl ht hBw h
  generalize Lib.itoa (d : Int) = X at I1 I5 ⊢
  generalize (d : Int) = dz at I1 ⊢
  generalize Lib.itoa (s : Int) = Y at I2 I5 ⊢
  generalize (s : Int) = sz at I2 ⊢
  generalize Lib.itoa ino = O at I3 I5 ⊢
  generalize Lib.itoa est = E at I4 I5 ⊢
  go_enter Tryz.func90, Tryz.ntmps90
  go_upto_region 0 with fail
  refine wp_region_held_drew (S := fun V => Below B w V) (by kernel_rfl) (bB) (fun hS => ?_)
  refine wpAnyH_take (i := 0) (oi := { dst := some 8, op := Op.move (Operand.tmp 0), type := 186, pos := "text.go:84", after := #[], guard := none }) (v := .pointer (some ⟨b, 0, none⟩)) rfl (by kernel_rfl) (by kernel_rfl) (by kernel_rfl) (fun _ _ _ h => h) (Or.inl ⟨by kernel_rfl, fun W h => (by first | kernel_rfl | go_simp)⟩) bB ?_
  try simp only [Act.put, List.setIfInBounds_toArray, List.set_cons_zero, List.set_cons_succ]
  refine wpAnyH_take (i := 1) (oi := { dst := some 9, op := Op.move (Operand.tmp 1), type := 3, pos := "text.go:84", after := #[], guard := none }) (v := .int .i64 dz) rfl (by kernel_rfl) (by kernel_rfl) (by kernel_rfl) (fun _ _ _ h => h) (Or.inl ⟨by kernel_rfl, fun W h => (by first | kernel_rfl | go_simp)⟩) bB ?_
  try simp only [Act.put, List.setIfInBounds_toArray, List.set_cons_zero, List.set_cons_succ]
  refine wpAnyH_take (i := 3) (oi := { dst := some 11, op := Op.move (Operand.tmp 2), type := 3, pos := "text.go:84", after := #[], guard := none }) (v := .int .i64 sz) rfl (by kernel_rfl) (by kernel_rfl) (by kernel_rfl) (fun _ _ _ h => h) (Or.inl ⟨by kernel_rfl, fun W h => (by first | kernel_rfl | go_simp)⟩) bB ?_
  try simp only [Act.put, List.setIfInBounds_toArray, List.set_cons_zero, List.set_cons_succ]
  refine wpAnyH_take (i := 5) (oi := { dst := some 13, op := Op.move (Operand.tmp 3), type := 154, pos := "text.go:84", after := #[], guard := none }) (v := .pointer (some ⟨g, q, none⟩)) rfl (by kernel_rfl) (by kernel_rfl) (by kernel_rfl) (fun _ _ _ h => h) (Or.inl ⟨by kernel_rfl, fun W h => (by first | kernel_rfl | go_simp)⟩) bB ?_
  try simp only [Act.put, List.setIfInBounds_toArray, List.set_cons_zero, List.set_cons_succ]
  refine wpAnyH_take (i := 6) (oi := { dst := some 14, op := Op.nilCheck (Operand.tmp 13), type := 0, pos := "text.go:84", after := #[{ on := 5, ground := Ground.data }], guard := none }) (v := .pointer (some ⟨g, q, none⟩)) rfl (by kernel_rfl) (by kernel_rfl) (by kernel_rfl) (fun _ _ _ h => h) (Or.inl ⟨by kernel_rfl, fun W h => (by first | kernel_rfl | go_simp)⟩) bB ?_
  try simp only [Act.put, List.setIfInBounds_toArray, List.set_cons_zero, List.set_cons_succ]
  refine wpAnyH_take (i := 7) (oi := { dst := some 15, op := Op.fieldAddr 71 (Operand.tmp 14) 0, type := 0, pos := "text.go:84", after := #[{ on := 6, ground := Ground.data }], guard := none }) (v := .pointer (some ⟨g, q, none⟩)) rfl (by kernel_rfl) (by kernel_rfl) (by kernel_rfl) (fun _ _ _ h => h) (Or.inl ⟨by kernel_rfl, fun W h => (by first | kernel_rfl | go_simp)⟩) bB ?_
  try simp only [Act.put, List.setIfInBounds_toArray, List.set_cons_zero, List.set_cons_succ]
  refine wpAnyH_take (i := 8) (oi := { dst := some 16, op := Op.load 9 (Operand.tmp 15), type := 9, pos := "text.go:84", after := #[{ on := 7, ground := Ground.data }], guard := none }) (v := .string nm) rfl (by kernel_rfl) (by kernel_rfl) (by kernel_rfl) (fun _ _ _ h => h) (Or.inl ⟨by kernel_rfl, fun W h => ld_s (.tmp 15) (by kernel_rfl) (by kernel_rfl) W (below_cell h hg c0)⟩) bB ?_
  try simp only [Act.put, List.setIfInBounds_toArray, List.set_cons_zero, List.set_cons_succ]
  refine wpAnyH_take (i := 9) (oi := { dst := some 17, op := Op.move (Operand.tmp 3), type := 154, pos := "text.go:84", after := #[], guard := none }) (v := .pointer (some ⟨g, q, none⟩)) rfl (by kernel_rfl) (by kernel_rfl) (by kernel_rfl) (fun _ _ _ h => h) (Or.inl ⟨by kernel_rfl, fun W h => (by first | kernel_rfl | go_simp)⟩) bB ?_
  try simp only [Act.put, List.setIfInBounds_toArray, List.set_cons_zero, List.set_cons_succ]
  refine wpAnyH_take (i := 10) (oi := { dst := some 18, op := Op.nilCheck (Operand.tmp 17), type := 0, pos := "text.go:84", after := #[{ on := 9, ground := Ground.data }], guard := none }) (v := .pointer (some ⟨g, q, none⟩)) rfl (by kernel_rfl) (by kernel_rfl) (by kernel_rfl) (fun _ _ _ h => h) (Or.inl ⟨by kernel_rfl, fun W h => (by first | kernel_rfl | go_simp)⟩) bB ?_
  try simp only [Act.put, List.setIfInBounds_toArray, List.set_cons_zero, List.set_cons_succ]
  refine wpAnyH_take (i := 11) (oi := { dst := some 19, op := Op.fieldAddr 71 (Operand.tmp 18) 1, type := 0, pos := "text.go:84", after := #[{ on := 10, ground := Ground.data }], guard := none }) (v := .pointer (some ⟨g, q + 1, none⟩)) rfl (by kernel_rfl) (by kernel_rfl) (by kernel_rfl) (fun _ _ _ h => h) (Or.inl ⟨by kernel_rfl, fun W h => (by first | kernel_rfl | go_simp)⟩) bB ?_
  try simp only [Act.put, List.setIfInBounds_toArray, List.set_cons_zero, List.set_cons_succ]
  refine wpAnyH_take (i := 12) (oi := { dst := some 20, op := Op.load 3 (Operand.tmp 19), type := 3, pos := "text.go:84", after := #[{ on := 11, ground := Ground.data }], guard := none }) (v := .int .i64 ino) rfl (by kernel_rfl) (by kernel_rfl) (by kernel_rfl) (fun _ _ _ h => h) (Or.inl ⟨by kernel_rfl, fun W h => ld_i (.tmp 19) (by kernel_rfl) (by kernel_rfl) W (below_cell h hg c1)⟩) bB ?_
  try simp only [Act.put, List.setIfInBounds_toArray, List.set_cons_zero, List.set_cons_succ]
  refine wpAnyH_take (i := 14) (oi := { dst := some 22, op := Op.move (Operand.tmp 3), type := 154, pos := "text.go:84", after := #[], guard := none }) (v := .pointer (some ⟨g, q, none⟩)) rfl (by kernel_rfl) (by kernel_rfl) (by kernel_rfl) (fun _ _ _ h => h) (Or.inl ⟨by kernel_rfl, fun W h => (by first | kernel_rfl | go_simp)⟩) bB ?_
  try simp only [Act.put, List.setIfInBounds_toArray, List.set_cons_zero, List.set_cons_succ]
  refine wpAnyH_take (i := 15) (oi := { dst := some 23, op := Op.nilCheck (Operand.tmp 22), type := 0, pos := "text.go:84", after := #[{ on := 14, ground := Ground.data }], guard := none }) (v := .pointer (some ⟨g, q, none⟩)) rfl (by kernel_rfl) (by kernel_rfl) (by kernel_rfl) (fun _ _ _ h => h) (Or.inl ⟨by kernel_rfl, fun W h => (by first | kernel_rfl | go_simp)⟩) bB ?_
  try simp only [Act.put, List.setIfInBounds_toArray, List.set_cons_zero, List.set_cons_succ]
  refine wpAnyH_take (i := 16) (oi := { dst := some 24, op := Op.fieldAddr 71 (Operand.tmp 23) 2, type := 0, pos := "text.go:84", after := #[{ on := 15, ground := Ground.data }], guard := none }) (v := .pointer (some ⟨g, q + 2, none⟩)) rfl (by kernel_rfl) (by kernel_rfl) (by kernel_rfl) (fun _ _ _ h => h) (Or.inl ⟨by kernel_rfl, fun W h => (by first | kernel_rfl | go_simp)⟩) bB ?_
  try simp only [Act.put, List.setIfInBounds_toArray, List.set_cons_zero, List.set_cons_succ]
  refine wpAnyH_take (i := 17) (oi := { dst := some 25, op := Op.load 3 (Operand.tmp 24), type := 3, pos := "text.go:84", after := #[{ on := 16, ground := Ground.data }], guard := none }) (v := .int .i64 est) rfl (by kernel_rfl) (by kernel_rfl) (by kernel_rfl) (fun _ _ _ h => h) (Or.inl ⟨by kernel_rfl, fun W h => ld_i (.tmp 24) (by kernel_rfl) (by kernel_rfl) W (below_cell h hg c2)⟩) bB ?_
  try simp only [Act.put, List.setIfInBounds_toArray, List.set_cons_zero, List.set_cons_succ]
  refine wpAnyH_ready (rs := [2]) (by kernel_rfl) (by simp) ?_
  refine AllReadyH.cons (o := { dst := some 10, op := Op.call { callee := Callee.value (Operand.func 69), args := #[Operand.tmp 9], argTypes := #[3] }, type := 9, pos := "text.go:84", after := #[{ on := 1, ground := Ground.data }], guard := none }) rfl (fun K hK => ?_) AllReadyH.nil
  rw [if_pos (by kernel_rfl)]
  go_simp
  refine (unhide I1).mono ?_
  rintro e w1 ⟨rfl, b1⟩
  go_wp2_with fail
  refine hK.out _ _ (b1.mono (unhide SZ)) (fun _ => ?_)
  clear hK K
  try simp only [Act.put, List.setIfInBounds_toArray, List.set_cons_zero, List.set_cons_succ]
  refine wpAnyH_ready (rs := [4]) (by kernel_rfl) (by simp) ?_
  refine AllReadyH.cons (o := { dst := some 12, op := Op.call { callee := Callee.value (Operand.func 69), args := #[Operand.tmp 11], argTypes := #[3] }, type := 9, pos := "text.go:84", after := #[{ on := 3, ground := Ground.data }, { on := 2, ground := Ground.chain }], guard := none }) rfl (fun K hK => ?_) AllReadyH.nil
  rw [if_pos (by kernel_rfl)]
  go_simp
  refine (unhide I2 _ b1).mono ?_
  rintro e w2 ⟨rfl, b2⟩
  clear b1
  go_wp2_with fail
  refine hK.out _ _ (b2.mono (unhide SZ)) (fun _ => ?_)
  clear hK K
  try simp only [Act.put, List.setIfInBounds_toArray, List.set_cons_zero, List.set_cons_succ]
  refine wpAnyH_ready (rs := [13]) (by kernel_rfl) (by simp) ?_
  refine AllReadyH.cons (o := { dst := some 21, op := Op.call { callee := Callee.value (Operand.func 69), args := #[Operand.tmp 20], argTypes := #[3] }, type := 9, pos := "text.go:84", after := #[{ on := 12, ground := Ground.data }, { on := 4, ground := Ground.chain }], guard := none }) rfl (fun K hK => ?_) AllReadyH.nil
  rw [if_pos (by kernel_rfl)]
  go_simp
  refine (unhide I3 _ b2).mono ?_
  rintro e w4 ⟨rfl, b4⟩
  clear b2
  go_wp2_with fail
  refine hK.out _ _ (b4.mono (unhide SZ)) (fun _ => ?_)
  clear hK K
  try simp only [Act.put, List.setIfInBounds_toArray, List.set_cons_zero, List.set_cons_succ]
  refine wpAnyH_ready (rs := [18]) (by kernel_rfl) (by simp) ?_
  refine AllReadyH.cons (o := { dst := some 26, op := Op.call { callee := Callee.value (Operand.func 69), args := #[Operand.tmp 25], argTypes := #[3] }, type := 9, pos := "text.go:84", after := #[{ on := 17, ground := Ground.data }, { on := 13, ground := Ground.chain }], guard := none }) rfl (fun K hK => ?_) AllReadyH.nil
  rw [if_pos (by kernel_rfl)]
  go_simp
  refine (unhide I4 _ b4).mono ?_
  rintro e w3 ⟨rfl, b3⟩
  clear b4
  go_wp2_with fail
  refine hK.out _ _ (b3.mono (unhide SZ)) (fun _ => ?_)
  clear hK K
  try simp only [Act.put, List.setIfInBounds_toArray, List.set_cons_zero, List.set_cons_succ]
  refine wpAnyH_ready (rs := [19]) (by kernel_rfl) (by simp) ?_
  refine AllReadyH.cons (o := { dst := some 27, op := Op.buildSlice 22 6 #[(0, Operand.const (Value.string { data := #[101, 110, 116, 114, 121] })), (1, Operand.tmp 10), (2, Operand.tmp 12), (3, Operand.tmp 16), (4, Operand.tmp 21), (5, Operand.tmp 26)], type := 22, pos := "text.go:84", after := #[{ on := 2, ground := Ground.data }, { on := 4, ground := Ground.data }, { on := 8, ground := Ground.data }, { on := 13, ground := Ground.data }, { on := 18, ground := Ground.data }], guard := none }) rfl (fun K hK => ?_) AllReadyH.nil
  rw [if_pos (by kernel_rfl)]
  go_simp
  refine hK.out _ _ ((b3.alloc b3.size (.cells #[.string ⟨#[101, 110, 116, 114, 121]⟩, .string ⟨X.toArray⟩, .string ⟨Y.toArray⟩, .string nm, .string ⟨O.toArray⟩, .string ⟨E.toArray⟩] 9)).mono (unhide SZ)) (fun _ => ?_)
  clear hK K
  try simp only [Act.put, List.setIfInBounds_toArray, List.set_cons_zero, List.set_cons_succ]
  refine wpAnyH_ready (rs := [20]) (by kernel_rfl) (by simp) ?_
  refine AllReadyH.cons (o := { dst := some 28, op := Op.call { callee := Callee.value (Operand.func 124), args := #[Operand.tmp 8, Operand.tmp 27], argTypes := #[186, 22] }, type := 0, pos := "text.go:84", after := #[{ on := 0, ground := Ground.data }, { on := 19, ground := Ground.data }, { on := 18, ground := Ground.chain }], guard := none }) rfl (fun K hK => ?_) AllReadyH.nil
  rw [if_pos (by kernel_rfl)]
  go_simp
  refine (unhide I5 _ b3).mono ?_
  rintro e w5 ⟨rfl, h5, b5⟩
  have H5 := hide h5
  have B5 := hide (show Below B w w5 from (b3.mono (unhide SZ)).trans b5)
  clear h5 b5 b3
  go_wp2_with fail
  refine hK.out _ _ (unhide B5) (fun _ => ?_)
  clear hK K
  try simp only [Act.put, List.setIfInBounds_toArray, List.set_cons_zero, List.set_cons_succ]
  refine wpAnyH_done (by kernel_rfl) ?_ _
  clear hS b0 bB
  go_wp2_with fail
  go_end0
  exact ⟨rfl, unhide H5, unhide B5⟩
theorem str_info8 : ∃ i, Tryz.prog.info? 9 = some i ∧ i.zero = some (.string ⟨#[]⟩) ∧ i.size = 1 ∧ i.bytes = 16 := by
  have h : (Tryz.prog.info? 9).map (fun i => (i.zero, i.size, i.bytes)) = some (some (.string ⟨#[]⟩), 1, 16) := by kernel_rfl
  cases hq : Tryz.prog.info? 9 with
  | none => rw [hq] at h; cases h
  | some i =>
    rw [hq] at h
    simp only [Option.map_some, Option.some.injEq, Prod.mk.injEq] at h
    exact ⟨i, rfl, h.1, h.2.1, h.2.2⟩
def strv (l : List ByteArray) : List Value := l.map .string
theorem own_fresh {w W : World} (hb : Below w.heap.size w W) (ws : List ByteArray) (hl : ws.length ≤ 1000) : (W.alloc (.cells (strv ws).toArray 9)).ownsRow w.heap.size 9 1 (.slice (some ⟨W.heap.size, 0, none⟩) ws.length ws.length) ws.length (strv ws) :=
  ⟨by simp [strv], .inr ⟨W.heap.size, ws.length, (strv ws).toArray, rfl, hb.size, heap_alloc_last W _, Nat.le_refl _, by unfold maxLen; omega, by simp [strv], by rw [Nat.mul_one]; exact List.take_of_length_le (by simp [strv])⟩⟩
theorem addr_add (g j : Nat) : (⟨g, 0, none⟩ : Addr).add j = ⟨g, j, none⟩ := by
  unfold Addr.add
  split
  · rename_i h; subst h; rfl
  · simp
theorem own_below {B : Nat} {w w' : World} {e : TypeId} {v : Value} {n : Nat} {xs : List Value} (h : w.ownsRow B e 1 v n xs) (hb : Below w.heap.size w w') : w'.ownsRow B e 1 v n xs := by
  rcases h.2 with z | ⟨g, cap, cur, e1, e2, e3, e4⟩
  · exact ⟨h.1, .inl z⟩
  · exact ⟨h.1, .inr ⟨g, cap, cur, e1, e2, by rw [hb.block g (Array.getElem?_eq_some_iff.1 e3).1]; exact e3, e4⟩⟩
set_option maxHeartbeats 1000000 in
set_option maxRecDepth 100000 in
theorem tInode_any {B b : Nat} {l : List UInt8} (n g q : Nat) (st lk p0 p1 : Int) {w : World} (h : Wr B b l w) (ht : Tab w) (hBw : B ≤ w.heap.size) (hn : n ≤ 1000) (h1 : I64 st) (h2 : I64 lk) (h3 : I64 p0) (h4 : I64 p1) (hg : g < B)
    (c1 : w.cell? ⟨g, q + 1, none⟩ = some (.int .i64 st)) (c2 : w.cell? ⟨g, q + 2, none⟩ = some (.int .i64 lk)) (c3 : w.cell? ⟨g, q + 3, none⟩ = some (.int .i64 p0)) (c4 : w.cell? ⟨g, q + 4, none⟩ = some (.int .i64 p1)) (hl : l.length ≤ 1000000000) :
    Calls Tryz.prog 89 #[.pointer (some ⟨b, 0, none⟩), .int .i64 (n : Int), .pointer (some ⟨g, q, none⟩)] w fun e w' => e = .returned (.tuple #[]) ∧ Wr B b (l ++ Txt.line [Txt.bInode, Lib.itoa (n : Int), Lib.itoa st, Lib.itoa lk, Lib.itoa p0, Lib.itoa p1]) w' ∧ Below B w w' := by
  have TB := hide ht
  have SZ := hide hBw
  have WB := hide h
  have b0 : Below w.heap.size w w.drew := (Below.refl _ w).drew
  have bB : Below B w w.drew := (Below.refl _ w).drew
  have I1 := hide (itoa_at (V := w.drew) b0 ht (I64.nat hn))
  have I2 := hide (fun V (hb : Below w.heap.size w V) => itoa_at hb ht h1)
  have I3 := hide (fun V (hb : Below w.heap.size w V) => itoa_at hb ht h2)
  have IP := hide (fun V (hb : Below w.heap.size w V) => And.intro (itoa_any p0 h3.1 h3.2 V (tab_block ht (hb.block 4 (tab_lt ht)))) (itoa_any p1 h4.1 h4.2 V (tab_block ht (hb.block 4 (tab_lt ht)))))
  obtain ⟨X, hX⟩ : ∃ X, X = Lib.itoa (n : Int) := ⟨_, rfl⟩
  obtain ⟨O, hO⟩ : ∃ X, X = Lib.itoa st := ⟨_, rfl⟩
  obtain ⟨E, hE⟩ : ∃ X, X = Lib.itoa lk := ⟨_, rfl⟩
  obtain ⟨P, hP⟩ : ∃ X, X = Lib.itoa p0 := ⟨_, rfl⟩
  obtain ⟨Q, hQ⟩ : ∃ X, X = Lib.itoa p1 := ⟨_, rfl⟩
  have LN := hide (show X.length ≤ 21 ∧ O.length ≤ 21 ∧ E.length ≤ 21 ∧ P.length ≤ 21 ∧ Q.length ≤ 21 from ⟨by rw [hX]; exact itoa_len (I64.nat hn), by rw [hO]; exact itoa_len h1, by rw [hE]; exact itoa_len h2, by rw [hP]; exact itoa_len h3, by rw [hQ]; exact itoa_len h4⟩)
  rw [← hX] at I1
  rw [← hO] at I2
  rw [← hE] at I3
  rw [← hP, ← hQ] at IP
  rw [← hX, ← hO, ← hE, ← hP, ← hQ]
  have CC := hide (show ∀ V, Below B w V → V.cell? ⟨g, q + 3, none⟩ = some (.int .i64 p0) ∧ V.cell? ⟨g, q + 4, none⟩ = some (.int .i64 p1) from fun V hb => ⟨below_cell hb hg c3, below_cell hb hg c4⟩)
  have SAY := hide (fun (V : World) (hb : Below w.heap.size w V) (gk cp : Nat) (ho : V.ownsRow w.heap.size 9 1 (.slice (some ⟨gk, 0, none⟩) 6 cp) 6 (strv [⟨#[105, 110, 111, 100, 101]⟩, mkb X, mkb O, mkb E, mkb P, mkb Q])) =>
    say_any (⟨#[105, 110, 111, 100, 101]⟩ : ByteArray) [mkb X, mkb O, mkb E, mkb P, mkb Q] gk 0 cp (h.below hb) (Nat.le_trans hBw hb.size) (by decide) hl
      (fun j y hy => by rw [Nat.zero_add]; have := ho.cells (g := gk) rfl j (.string y) (by unfold strv; rw [List.getElem?_map, hy]; rfl); rw [addr_add] at this; exact this) (ho.lt gk rfl).2 (by simp)
      (by rcases ho.2 with ⟨z, _⟩ | ⟨_, _, _, z, _, _, z2, _⟩
          · cases z
          · injection z with _ _ z3; rw [z3]; exact z2)
      (by have := unhide LN; simp only [List.map_cons, List.map_nil, Txt.line, Txt.tailW, List.length_append, List.length_cons, List.length_nil, len_bytes, mk_size X, mk_size O, mk_size E, mk_size P, mk_size Q, show (⟨#[105, 110, 111, 100, 101]⟩ : ByteArray).size = 5 from rfl]; omega))
  have EL := hide (show Txt.line (([⟨#[105, 110, 111, 100, 101]⟩, mkb X, mkb O, mkb E, mkb P, mkb Q] : List ByteArray).map (·.toList)) = Txt.line [Txt.bInode, X, O, E, P, Q] by
    simp only [List.map_cons, List.map_nil]
    rw [Lib_mk X, Lib_mk O, Lib_mk E, Lib_mk P, Lib_mk Q, show (⟨#[105, 110, 111, 100, 101]⟩ : ByteArray).toList = Txt.bInode from Lib_mk [105, 110, 111, 100, 101]])
  rw [← unhide EL]
  clear EL hl ht hBw h hX hO hE hP hQ
  generalize (n : Int) = nz at I1 ⊢
  go_enter Tryz.func89, Tryz.ntmps89
  go_upto_region 0 with fail
  refine wp_region_held_drew (S := fun V => Below B w V) (by kernel_rfl) (bB) (fun hS => ?_)
  refine wpAnyH_take (i := 0) (oi := { dst := some 9, op := Op.move (Operand.tmp 1), type := 3, pos := "text.go:76", after := #[], guard := none }) (v := .int .i64 nz) rfl (by kernel_rfl) (by kernel_rfl) (by kernel_rfl) (fun _ _ _ h => h) (Or.inl ⟨by kernel_rfl, fun W h => (by first | kernel_rfl | go_simp)⟩) bB ?_
  try simp only [Act.put, List.setIfInBounds_toArray, List.set_cons_zero, List.set_cons_succ]
  refine wpAnyH_take (i := 2) (oi := { dst := some 11, op := Op.move (Operand.tmp 2), type := 152, pos := "text.go:76", after := #[], guard := none }) (v := .pointer (some ⟨g, q, none⟩)) rfl (by kernel_rfl) (by kernel_rfl) (by kernel_rfl) (fun _ _ _ h => h) (Or.inl ⟨by kernel_rfl, fun W h => (by first | kernel_rfl | go_simp)⟩) bB ?_
  try simp only [Act.put, List.setIfInBounds_toArray, List.set_cons_zero, List.set_cons_succ]
  refine wpAnyH_take (i := 3) (oi := { dst := some 12, op := Op.nilCheck (Operand.tmp 11), type := 0, pos := "text.go:76", after := #[{ on := 2, ground := Ground.data }], guard := none }) (v := .pointer (some ⟨g, q, none⟩)) rfl (by kernel_rfl) (by kernel_rfl) (by kernel_rfl) (fun _ _ _ h => h) (Or.inl ⟨by kernel_rfl, fun W h => (by first | kernel_rfl | go_simp)⟩) bB ?_
  try simp only [Act.put, List.setIfInBounds_toArray, List.set_cons_zero, List.set_cons_succ]
  refine wpAnyH_take (i := 4) (oi := { dst := some 13, op := Op.fieldAddr 68 (Operand.tmp 12) 1, type := 0, pos := "text.go:76", after := #[{ on := 3, ground := Ground.data }], guard := none }) (v := .pointer (some ⟨g, q + 1, none⟩)) rfl (by kernel_rfl) (by kernel_rfl) (by kernel_rfl) (fun _ _ _ h => h) (Or.inl ⟨by kernel_rfl, fun W h => (by first | kernel_rfl | go_simp)⟩) bB ?_
  try simp only [Act.put, List.setIfInBounds_toArray, List.set_cons_zero, List.set_cons_succ]
  refine wpAnyH_take (i := 5) (oi := { dst := some 14, op := Op.load 3 (Operand.tmp 13), type := 3, pos := "text.go:76", after := #[{ on := 4, ground := Ground.data }], guard := none }) (v := .int .i64 st) rfl (by kernel_rfl) (by kernel_rfl) (by kernel_rfl) (fun _ _ _ h => h) (Or.inl ⟨by kernel_rfl, fun W h => ld_i (.tmp 13) (by kernel_rfl) (by kernel_rfl) W (below_cell h hg c1)⟩) bB ?_
  try simp only [Act.put, List.setIfInBounds_toArray, List.set_cons_zero, List.set_cons_succ]
  refine wpAnyH_take (i := 7) (oi := { dst := some 16, op := Op.move (Operand.tmp 2), type := 152, pos := "text.go:76", after := #[], guard := none }) (v := .pointer (some ⟨g, q, none⟩)) rfl (by kernel_rfl) (by kernel_rfl) (by kernel_rfl) (fun _ _ _ h => h) (Or.inl ⟨by kernel_rfl, fun W h => (by first | kernel_rfl | go_simp)⟩) bB ?_
  try simp only [Act.put, List.setIfInBounds_toArray, List.set_cons_zero, List.set_cons_succ]
  refine wpAnyH_take (i := 8) (oi := { dst := some 17, op := Op.nilCheck (Operand.tmp 16), type := 0, pos := "text.go:76", after := #[{ on := 7, ground := Ground.data }], guard := none }) (v := .pointer (some ⟨g, q, none⟩)) rfl (by kernel_rfl) (by kernel_rfl) (by kernel_rfl) (fun _ _ _ h => h) (Or.inl ⟨by kernel_rfl, fun W h => (by first | kernel_rfl | go_simp)⟩) bB ?_
  try simp only [Act.put, List.setIfInBounds_toArray, List.set_cons_zero, List.set_cons_succ]
  refine wpAnyH_take (i := 9) (oi := { dst := some 18, op := Op.fieldAddr 68 (Operand.tmp 17) 2, type := 0, pos := "text.go:76", after := #[{ on := 8, ground := Ground.data }], guard := none }) (v := .pointer (some ⟨g, q + 2, none⟩)) rfl (by kernel_rfl) (by kernel_rfl) (by kernel_rfl) (fun _ _ _ h => h) (Or.inl ⟨by kernel_rfl, fun W h => (by first | kernel_rfl | go_simp)⟩) bB ?_
  try simp only [Act.put, List.setIfInBounds_toArray, List.set_cons_zero, List.set_cons_succ]
  refine wpAnyH_take (i := 10) (oi := { dst := some 19, op := Op.load 3 (Operand.tmp 18), type := 3, pos := "text.go:76", after := #[{ on := 9, ground := Ground.data }], guard := none }) (v := .int .i64 lk) rfl (by kernel_rfl) (by kernel_rfl) (by kernel_rfl) (fun _ _ _ h => h) (Or.inl ⟨by kernel_rfl, fun W h => ld_i (.tmp 18) (by kernel_rfl) (by kernel_rfl) W (below_cell h hg c2)⟩) bB ?_
  try simp only [Act.put, List.setIfInBounds_toArray, List.set_cons_zero, List.set_cons_succ]
  refine wpAnyH_ready (rs := [1]) (by kernel_rfl) (by simp) ?_
  refine AllReadyH.cons (o := { dst := some 10, op := Op.call { callee := Callee.value (Operand.func 69), args := #[Operand.tmp 9], argTypes := #[3] }, type := 9, pos := "text.go:76", after := #[{ on := 0, ground := Ground.data }], guard := none }) rfl (fun K hK => ?_) AllReadyH.nil
  rw [if_pos (by kernel_rfl)]
  go_simp
  refine (unhide I1).mono ?_
  rintro e w1 ⟨rfl, b1⟩
  go_wp2_with fail
  refine hK.out _ _ (b1.mono (unhide SZ)) (fun _ => ?_)
  clear hK K
  try simp only [Act.put, List.setIfInBounds_toArray, List.set_cons_zero, List.set_cons_succ]
  refine wpAnyH_ready (rs := [6]) (by kernel_rfl) (by simp) ?_
  refine AllReadyH.cons (o := { dst := some 15, op := Op.call { callee := Callee.value (Operand.func 69), args := #[Operand.tmp 14], argTypes := #[3] }, type := 9, pos := "text.go:76", after := #[{ on := 5, ground := Ground.data }, { on := 1, ground := Ground.chain }], guard := none }) rfl (fun K hK => ?_) AllReadyH.nil
  rw [if_pos (by kernel_rfl)]
  go_simp
  refine (unhide I2 _ b1).mono ?_
  rintro e w2 ⟨rfl, b2⟩
  clear b1
  go_wp2_with fail
  refine hK.out _ _ (b2.mono (unhide SZ)) (fun _ => ?_)
  clear hK K
  try simp only [Act.put, List.setIfInBounds_toArray, List.set_cons_zero, List.set_cons_succ]
  refine wpAnyH_ready (rs := [11]) (by kernel_rfl) (by simp) ?_
  refine AllReadyH.cons (o := { dst := some 20, op := Op.call { callee := Callee.value (Operand.func 69), args := #[Operand.tmp 19], argTypes := #[3] }, type := 9, pos := "text.go:76", after := #[{ on := 10, ground := Ground.data }, { on := 6, ground := Ground.chain }], guard := none }) rfl (fun K hK => ?_) AllReadyH.nil
  rw [if_pos (by kernel_rfl)]
  go_simp
  refine (unhide I3 _ b2).mono ?_
  rintro e w3 ⟨rfl, b3⟩
  clear b2
  go_wp2_with fail
  refine hK.out _ _ (b3.mono (unhide SZ)) (fun _ => ?_)
  clear hK K
  try simp only [Act.put, List.setIfInBounds_toArray, List.set_cons_zero, List.set_cons_succ]
  refine wpAnyH_ready (rs := [12]) (by kernel_rfl) (by simp) ?_
  refine AllReadyH.cons (o := { dst := some 21, op := Op.buildSlice 22 4 #[(0, Operand.const (Value.string { data := #[105, 110, 111, 100, 101] })), (1, Operand.tmp 10), (2, Operand.tmp 15), (3, Operand.tmp 20)], type := 22, pos := "text.go:76", after := #[{ on := 1, ground := Ground.data }, { on := 6, ground := Ground.data }, { on := 11, ground := Ground.data }], guard := none }) rfl (fun K hK => ?_) AllReadyH.nil
  rw [if_pos (by kernel_rfl)]
  go_simp
  refine hK.out _ _ ((b3.alloc b3.size (.cells #[.string ⟨#[105, 110, 111, 100, 101]⟩, .string ⟨X.toArray⟩, .string ⟨O.toArray⟩, .string ⟨E.toArray⟩] 9)).mono (unhide SZ)) (fun _ => ?_)
  clear hK K
  try simp only [Act.put, List.setIfInBounds_toArray, List.set_cons_zero, List.set_cons_succ]
  refine wpAnyH_take (i := 13) (oi := { dst := some 6, op := Op.assign (Operand.tmp 21), type := 22, pos := "text.go:76", after := #[{ on := 12, ground := Ground.data }, { on := 11, ground := Ground.chain }, { on := 0, ground := Ground.phase }, { on := 1, ground := Ground.phase }, { on := 2, ground := Ground.phase }, { on := 3, ground := Ground.phase }, { on := 4, ground := Ground.phase }, { on := 5, ground := Ground.phase }, { on := 6, ground := Ground.phase }, { on := 7, ground := Ground.phase }, { on := 8, ground := Ground.phase }, { on := 9, ground := Ground.phase }, { on := 10, ground := Ground.phase }, { on := 11, ground := Ground.phase }, { on := 12, ground := Ground.phase }], guard := none }) (v := .slice (some ⟨w3.heap.size, 0, none⟩) 4 4) rfl (by kernel_rfl) (by kernel_rfl) (by kernel_rfl) (fun _ _ _ h => h) (Or.inl ⟨by kernel_rfl, fun W h => (by first | kernel_rfl | go_simp)⟩) ((b3.alloc b3.size (.cells #[.string ⟨#[105, 110, 111, 100, 101]⟩, .string ⟨X.toArray⟩, .string ⟨O.toArray⟩, .string ⟨E.toArray⟩] 9)).mono (unhide SZ)) ?_
  try simp only [Act.put, List.setIfInBounds_toArray, List.set_cons_zero, List.set_cons_succ]
  refine wpAnyH_done (by kernel_rfl) ?_ _
  clear hS b0 bB
  have OW := hide (own_fresh b3 [⟨#[105, 110, 111, 100, 101]⟩, mkb X, mkb O, mkb E] (by simp))
  have BX := hide (show Below w.heap.size w (w3.alloc (.cells #[.string ⟨#[105, 110, 111, 100, 101]⟩, .string ⟨X.toArray⟩, .string ⟨O.toArray⟩, .string ⟨E.toArray⟩] 9)) from b3.alloc b3.size _)
  have OW : Hid ((w3.alloc (.cells #[.string ⟨#[105, 110, 111, 100, 101]⟩, .string ⟨X.toArray⟩, .string ⟨O.toArray⟩, .string ⟨E.toArray⟩] 9)).ownsRow w.heap.size 9 1 (.slice (some ⟨w3.heap.size, 0, none⟩) 4 4) 4 (strv [⟨#[105, 110, 111, 100, 101]⟩, mkb X, mkb O, mkb E])) := OW
  clear b3
  generalize w3.alloc (.cells #[.string ⟨#[105, 110, 111, 100, 101]⟩, .string ⟨X.toArray⟩, .string ⟨O.toArray⟩, .string ⟨E.toArray⟩] 9) = X4 at OW BX ⊢
  generalize w3.heap.size = g4 at OW ⊢
  have c3' := (unhide CC _ ((unhide BX).mono (unhide SZ))).1
  have c4' := (unhide CC _ ((unhide BX).mono (unhide SZ))).2
  go_wp2_with fail
  obtain ⟨i8, hi8, hz0, hz1, hz2⟩ := str_info8
  go_loopw [6, 26] (fun v i wr => ∃ k : Nat, k ≤ 2 ∧ i = .int .i64 k ∧ Hid (Below w.heap.size w wr) ∧ Hid (wr.ownsRow w.heap.size 9 1 v (4 + k) (strv ([⟨#[105, 110, 111, 100, 101]⟩, mkb X, mkb O, mkb E] ++ [mkb P, mkb Q].take k)))) (fun _ i _ => 2 - (intOf i).toNat)
  case atStart => exact ⟨0, Nat.zero_le _, rfl, BX, OW⟩
  case round =>
    clear BX OW c3' c4'
    obtain ⟨k, hk, rfl, BR, OR⟩ := hrel
    generalize u6 = v at OR ⊢
    rcases (show k = 0 ∨ k = 1 ∨ k = 2 by omega) with rfl | rfl | rfl
    · have IT := hide (unhide IP _ (unhide BR)).1
      have x0 : (Instr.index 66 (.agg #[.int .i64 p0, .int .i64 p1]) (.int .i64 0)).run Tryz.prog wr = .ok (.int .i64 p0) wr := by kernel_rfl
      go_wp2_with fail
      refine (unhide IT).mono ?_
      rintro e w5 ⟨rfl, b5⟩
      have O5 := own_below (unhide OR) b5
      have B5 := hide (show Below w.heap.size w w5 from (unhide BR).trans (b5.mono (unhide BR).size))
      clear b5 IT
      go_wp2_with (at_builtin; refine wpList_append_own _ rfl _ _ 22 rfl w.heap.size 9 i8 (.string ⟨#[]⟩) 1 16 Tryz.underlying22 hi8 hz0 hz1 hz2 rfl (by decide) _ _ _ rfl (O5.alloc _) ⟨w5.heap.size, 0, none⟩ 1 1 [.string ⟨P.toArray⟩] rfl rfl ?c10 ?c20 ?c30 ?c40 ?c50 ?_)
      case c10 =>
        intro j u hj
        match j, hj with
        | 0, hj => simp at hj; subst hj; simp [Addr.add]
      case c20 => intro u hu; simp at hu; subst hu; rfl
      case c30 => unfold maxLen; omega
      case c40 => omega
      case c50 => have := (unhide B5).size; simp; omega
      intro v' w6 hown' hgrow _
      have O6 := hide (show w6.ownsRow w.heap.size 9 1 v' (4 + 1) (strv ([⟨#[105, 110, 111, 100, 101]⟩, mkb X, mkb O, mkb E] ++ [mkb P, mkb Q].take 1)) from hown')
      have B6 := hide (show Below w.heap.size w w6 from ((unhide B5).alloc (unhide B5).size _).grown hgrow (by have := (unhide B5).size; simp; omega) (fun k hk => (O5.lt k hk).1))
      clear hown' hgrow O5 B5
      go_wp2_with fail
      go_roundw
      case rel => exact ⟨1, by omega, by first | rfl | go_num, B6, O6⟩
      case measure => simp [intOf]
    · have IT := hide (unhide IP _ (unhide BR)).2
      have x1 : (Instr.index 66 (.agg #[.int .i64 p0, .int .i64 p1]) (.int .i64 1)).run Tryz.prog wr = .ok (.int .i64 p1) wr := by kernel_rfl
      go_wp2_with fail
      refine (unhide IT).mono ?_
      rintro e w5 ⟨rfl, b5⟩
      have O5 := own_below (unhide OR) b5
      have B5 := hide (show Below w.heap.size w w5 from (unhide BR).trans (b5.mono (unhide BR).size))
      clear b5 IT
      go_wp2_with (at_builtin; refine wpList_append_own _ rfl _ _ 22 rfl w.heap.size 9 i8 (.string ⟨#[]⟩) 1 16 Tryz.underlying22 hi8 hz0 hz1 hz2 rfl (by decide) _ _ _ rfl (O5.alloc _) ⟨w5.heap.size, 0, none⟩ 1 1 [.string ⟨Q.toArray⟩] rfl rfl ?c11 ?c21 ?c31 ?c41 ?c51 ?_)
      case c11 =>
        intro j u hj
        match j, hj with
        | 0, hj => simp at hj; subst hj; simp [Addr.add]
      case c21 => intro u hu; simp at hu; subst hu; rfl
      case c31 => unfold maxLen; omega
      case c41 => omega
      case c51 => have := (unhide B5).size; simp; omega
      intro v' w6 hown' hgrow _
      have O6 := hide (show w6.ownsRow w.heap.size 9 1 v' (4 + 2) (strv ([⟨#[105, 110, 111, 100, 101]⟩, mkb X, mkb O, mkb E] ++ [mkb P, mkb Q].take 2)) from hown')
      have B6 := hide (show Below w.heap.size w w6 from ((unhide B5).alloc (unhide B5).size _).grown hgrow (by have := (unhide B5).size; simp; omega) (fun k hk => (O5.lt k hk).1))
      clear hown' hgrow O5 B5
      go_wp2_with fail
      go_roundw
      case rel => exact ⟨2, by omega, by first | rfl | go_num, B6, O6⟩
      case measure => simp [intOf]
    · obtain ⟨gk, cp, rfl⟩ : ∃ gk cp, v = .slice (some ⟨gk, 0, none⟩) 6 cp := by
        rcases (unhide OR).2 with ⟨_, z⟩ | ⟨gk, cp, _, z, _⟩
        · omega
        · exact ⟨gk, cp, z⟩
      have SY := hide (unhide SAY _ (unhide BR) gk cp (unhide OR))
      clear OR SAY
      go_wp2_with fail
      refine (unhide SY).mono ?_
      rintro e w5 ⟨rfl, h5, b5⟩
      have H5 := hide h5
      have B5 := hide (show Below B w w5 from ((unhide BR).mono (unhide SZ)).trans b5)
      clear h5 b5 SY
      go_wp2_with fail
      go_end0
      exact ⟨rfl, unhide H5, unhide B5⟩
end Go.Proofs.YtfpfpnhpbnnmfadGreatDoor
