/-
  The walks of package text: plain, show, Show, meant, Mean. (Written by genkd.py.)
-/
import Derived.Test.YtfpfpnhpbnnmfadGreatDoorXbj
import Derived.Test.YtfpfpnhpbnnmfadGreatDoorXar
import Derived.Deep.RegionHeld
import Derived.Deep.QuietTactic
import Derived.Deep.Cut
import Derived.Deep.CutRange
import Derived.Deep.DeepCutAuto
set_option linter.unusedVariables false
namespace Go.Proofs.YtfpfpnhpbnnmfadGreatDoor
open Go.RowKit
theorem plainI (z : Int) (w : World) :
    Calls Tryz.prog 158 #[.int .u8 z] w fun e w' => e = .returned (.bool (decide (33 ≤ z) && decide (z ≤ 126) && !(z == 92))) ∧ w' = w := by
  by_cases h1 : 33 ≤ z
  · have q1 : decide (33 ≤ z) = true := by simpa using h1
    by_cases h2 : z ≤ 126
    · have q2 : decide (z ≤ 126) = true := by simpa using h2
      rw [q1, q2]
      clear h1 h2
      go_enter Tryz.func158, Tryz.ntmps158
      go_wp2
      go_ret
      exact ⟨by simp [bne], rfl⟩
    · have q2 : decide (z ≤ 126) = false := by simpa using h2
      rw [q1, q2]
      clear h1 h2
      go_enter Tryz.func158, Tryz.ntmps158
      go_wp2
      go_ret
      exact ⟨by simp, rfl⟩
  · have q1 : decide (33 ≤ z) = false := by simpa using h1
    rw [q1]
    clear h1
    go_enter Tryz.func158, Tryz.ntmps158
    go_wp2
    go_ret
    exact ⟨by simp, rfl⟩
theorem plain_int (c : UInt8) : (decide ((33 : Int) ≤ (c.toNat : Int)) && decide ((c.toNat : Int) ≤ 126) && !((c.toNat : Int) == 92)) = Txt.plain c := by
  unfold Txt.plain
  have e1 : decide ((33 : Int) ≤ (c.toNat : Int)) = decide (33 ≤ c.toNat) := decide_eq_decide.2 (by omega)
  have e2 : decide ((c.toNat : Int) ≤ 126) = decide (c.toNat ≤ 126) := decide_eq_decide.2 (by omega)
  have e3 : ((c.toNat : Int) == 92) = (c == 92) := by
    rw [Bool.eq_iff_iff, beq_iff_eq, beq_iff_eq, ← UInt8.toNat_inj]
    show (c.toNat : Int) = 92 ↔ c.toNat = 92
    omega
  rw [e1, e2, e3]
theorem plain_any (c : UInt8) (w : World) :
    Calls Tryz.prog 158 #[.int .u8 (c.toNat : Int)] w fun e w' => e = .returned (.bool (Txt.plain c)) ∧ w' = w := by
  rw [← plain_int]; exact plainI _ w
theorem hex_at : ∀ a : Fin 16, (⟨#[48, 49, 50, 51, 52, 53, 54, 55, 56, 57, 97, 98, 99, 100, 101, 102]⟩ : ByteArray).toList[a.val]? = some (Txt.hexc a.val) := by decide +kernel
theorem andT : ∀ c : Fin 256, bits BinOp.and IntKind.u8 (c.val : Int) 15 = ((c.val % 16 : Nat) : Int) := by decide +kernel
theorem hex_get {n : Nat} (hn : n < 16) : (⟨#[48, 49, 50, 51, 52, 53, 54, 55, 56, 57, 97, 98, 99, 100, 101, 102]⟩ : ByteArray)[n]'(by show n < 16; exact hn) = Txt.hexc n := by
  have h := hex_at ⟨n, hn⟩
  rw [ByteArray.toList_eq] at h
  obtain ⟨_, h4⟩ := List.getElem?_eq_some_iff.1 h
  exact h4
theorem ix_str {o : Oper} {ρ : Operand → Value} {S : ByteArray} (x y : Operand) (ho : o.op = .index 9 x y) (hx : ρ x = .string S) {n : Nat} (hy : ρ y = .int .u8 (n : Int)) (hn : n < S.size) {v : UInt8} (hv : S[n] = v) (w : World) : (execOp ρ o).run Tryz.prog w = .ok (.value (.int .u8 (v.toNat : Int))) w := by
  have hz : (n : Int) < (S.size : Int) := by omega
  unfold execOp
  rw [ho]
  go_simp
theorem shrT {o : Oper} {ρ : Operand → Value} (x : Operand) (ho : o.op = .binOp .shr 5 x (.const (.int .u64 4)) 37) (hc : ρ (.const (.int .u64 4)) = .int .u64 4) {n : Nat} (hx : ρ x = .int .u8 (n : Int)) (w : World) : (execOp ρ o).run Tryz.prog w = .ok (.value (.int .u8 ((n / 16 : Nat) : Int))) w := by
  unfold execOp
  rw [ho]
  go_simp
theorem andTT {o : Oper} {ρ : Operand → Value} (x : Operand) (ho : o.op = .binOp .and 5 x (.const (.int .u8 15)) 5) (hc : ρ (.const (.int .u8 15)) = .int .u8 15) {n : Nat} (hn : n < 256) (hx : ρ x = .int .u8 (n : Int)) (w : World) : (execOp ρ o).run Tryz.prog w = .ok (.value (.int .u8 ((n % 16 : Nat) : Int))) w := by
  have := andT ⟨n, hn⟩
  unfold execOp
  rw [ho]
  go_simp
set_option maxHeartbeats 600000 in
set_option maxRecDepth 100000 in
theorem show_any {B b : Nat} {l : List UInt8} (c : UInt8) {w : World} (h : Wr B b l w) (hlen : l.length + 3 ≤ 140737488355328) (hBw : B ≤ w.heap.size) :
    Calls Tryz.prog 118 #[.pointer (some ⟨b, 0, none⟩), .int .u8 (c.toNat : Int)] w fun e w' => e = .returned (.tuple #[]) ∧ Wr B b (l ++ Txt.showB c) w' ∧ Below B w w' := by
  have hp := plain_any c w
  have hc := c.toNat_lt
  cases pc : Txt.plain c <;> rw [pc] at hp
  case true =>
    have W1 := hide (writeByte_any c h (by omega) hBw)
    have E1 := hide (show Txt.showB c = [c] by unfold Txt.showB; rw [pc]; rfl)
    clear h pc hc
    generalize (c.toNat : Int) = cz at hp W1 ⊢
    go_enter Tryz.func118, Tryz.ntmps118
    go_wp2_with (go_at_call 158; refine hp.mono ?_; rintro e w0 ⟨rfl, e9⟩; rw [e9]; clear e9 w0 hp)
    refine (unhide W1).mono ?_
    rintro e w1 ⟨rfl, h1, b1⟩
    go_wp2_with fail
    (try simp only [Exit.inBlock, Exit.then])
    refine bodyPost_ret (results_none rfl _ _ _) rfl ?_
    exact ⟨rfl, by rw [unhide E1]; exact h1, b1⟩
  have E1 := hide (show Txt.showB c = [92, Txt.hexc (c.toNat / 16), Txt.hexc (c.toNat % 16)] by unfold Txt.showB; rw [pc]; rfl)
  have W1 := hide (writeByte_any 92 h (by omega) hBw)
  have W2 := hide (fun V (h : Wr B b (l ++ [92]) V) (hB : B ≤ V.heap.size) => writeByte_any (Txt.hexc (c.toNat / 16)) h (by simp; omega) hB)
  have W3 := hide (fun V (h : Wr B b (l ++ [92] ++ [Txt.hexc (c.toNat / 16)]) V) (hB : B ≤ V.heap.size) => writeByte_any (Txt.hexc (c.toNat % 16)) h (by simp; omega) hB)
  have SZ := hide hBw
  clear h pc hlen hBw
  generalize c.toNat = n at hp W1 W2 W3 E1 hc ⊢
  go_enter Tryz.func118, Tryz.ntmps118
  go_wp2_with (go_at_call 158; refine hp.mono ?_; rintro e w0 ⟨rfl, e9⟩; rw [e9]; clear e9 w0 hp)
  refine (unhide W1).mono ?_
  rintro e w1 ⟨rfl, h1, b1⟩
  have H1 := hide h1
  have B1 := hide b1
  clear h1 b1 W1
  go_upto_region 3 with fail
  refine wp_region_F (S := fun _ => True) 6 (by kernel_rfl) (trivial) (fun hS => ?_)
  refine wpAnyF_free (i := 0) (oi := { dst := some 15, op := Op.move (Operand.tmp 0), type := 186, pos := "text.go:98", after := #[], guard := none }) (v := .pointer (some ⟨b, 0, none⟩)) rfl (by kernel_rfl) (by kernel_rfl) (by kernel_rfl) (by kernel_rfl) (fun _ _ _ h => h) (Or.inl ⟨by kernel_rfl, fun W _ => (by first | kernel_rfl | go_simp)⟩) trivial ?_
  try simp only [Act.put, List.setIfInBounds_toArray, List.set_cons_zero, List.set_cons_succ]
  refine wpAnyF_free (i := 1) (oi := { dst := some 16, op := Op.nilCheck (Operand.tmp 15), type := 0, pos := "text.go:98", after := #[{ on := 0, ground := Ground.data }], guard := none }) (v := .pointer (some ⟨b, 0, none⟩)) rfl (by kernel_rfl) (by kernel_rfl) (by kernel_rfl) (by kernel_rfl) (fun _ _ _ h => h) (Or.inl ⟨by kernel_rfl, fun W _ => (by first | kernel_rfl | go_simp)⟩) trivial ?_
  try simp only [Act.put, List.setIfInBounds_toArray, List.set_cons_zero, List.set_cons_succ]
  refine wpAnyF_take (i := 2) (oi := { dst := some 17, op := Op.fieldAddr 150 (Operand.tmp 16) 0, type := 0, pos := "text.go:98", after := #[{ on := 1, ground := Ground.data }], guard := none }) (v := .pointer (some ⟨b, 0, none⟩)) rfl (by kernel_rfl) (by kernel_rfl) (by kernel_rfl) (by kernel_rfl) (fun _ _ _ h => h) (Or.inl ⟨by kernel_rfl, fun W h => (by first | kernel_rfl | go_simp)⟩) trivial ?_
  try simp only [Act.put, List.setIfInBounds_toArray, List.set_cons_zero, List.set_cons_succ]
  refine wpAnyF_free (i := 3) (oi := { dst := some 18, op := Op.move (Operand.tmp 1), type := 5, pos := "text.go:98", after := #[], guard := none }) (v := .int .u8 (n : Int)) rfl (by kernel_rfl) (by kernel_rfl) (by kernel_rfl) (by kernel_rfl) (fun _ _ _ h => h) (Or.inl ⟨by kernel_rfl, fun W _ => (by first | kernel_rfl | go_simp)⟩) trivial ?_
  try simp only [Act.put, List.setIfInBounds_toArray, List.set_cons_zero, List.set_cons_succ]
  refine wpAnyF_free (i := 4) (oi := { dst := some 19, op := Op.binOp BinOp.shr 5 (Operand.tmp 18) (Operand.const (Value.int IntKind.u64 4)) 37, type := 5, pos := "text.go:98", after := #[{ on := 3, ground := Ground.data }], guard := none }) (v := .int .u8 ((n / 16 : Nat) : Int)) rfl (by kernel_rfl) (by kernel_rfl) (by kernel_rfl) (by kernel_rfl) (fun _ _ _ h => h) (Or.inl ⟨by kernel_rfl, fun W _ => shrT (.tmp 18) (by kernel_rfl) (by kernel_rfl) (by kernel_rfl) W⟩) trivial ?_
  try simp only [Act.put, List.setIfInBounds_toArray, List.set_cons_zero, List.set_cons_succ]
  refine wpAnyF_take (i := 5) (oi := { dst := some 20, op := Op.index 9 (Operand.const (Value.string { data := #[48, 49, 50, 51, 52, 53, 54, 55, 56, 57, 97, 98, 99, 100, 101, 102] })) (Operand.tmp 19), type := 5, pos := "text.go:98", after := #[{ on := 4, ground := Ground.data }], guard := none }) (v := .int .u8 ((Txt.hexc (n / 16)).toNat : Int)) rfl (by kernel_rfl) (by kernel_rfl) (by kernel_rfl) (by kernel_rfl) (fun _ _ _ h => h) (Or.inl ⟨by kernel_rfl, fun W h => ix_str (S := ⟨#[48, 49, 50, 51, 52, 53, 54, 55, 56, 57, 97, 98, 99, 100, 101, 102]⟩) (.const (.string ⟨#[48, 49, 50, 51, 52, 53, 54, 55, 56, 57, 97, 98, 99, 100, 101, 102]⟩)) (.tmp 19) (by kernel_rfl) (by kernel_rfl) (by kernel_rfl) (show n / 16 < 16 by omega) (hex_get (by omega)) W⟩) trivial ?_
  try simp only [Act.put, List.setIfInBounds_toArray, List.set_cons_zero, List.set_cons_succ]
  refine wpAnyF_last (o := { dst := some 21, op := Op.call { callee := Callee.value (Operand.func 51), args := #[Operand.tmp 17, Operand.tmp 20], argTypes := #[44, 5] }, type := 121, pos := "text.go:98", after := #[{ on := 2, ground := Ground.data }, { on := 5, ground := Ground.data }], guard := none }) (by kernel_rfl) rfl (by kernel_rfl) (by kernel_rfl) (fun K hK => ?_)
  go_simp
  refine (unhide W2 _ (show Wr B b (l ++ [92]) w1.drew from (unhide H1).below (Below.refl _ w1).drew) (Nat.le_trans (unhide SZ) (unhide B1).size)).mono ?_
  rintro e w2 ⟨rfl, h2, b2⟩
  have H2 := hide h2
  have B2 := hide (show Below B w w2 from (unhide B1).trans ((show Below B w1 w1.drew from (Below.refl _ w1).drew).trans b2))
  clear h2 b2 H1 B1 W2
  go_wp2_with fail
  refine hK.out _ _ ?_
  clear hK K
  try simp only [Act.put, List.setIfInBounds_toArray, List.set_cons_zero, List.set_cons_succ]
  refine wpAnyF_done (by kernel_rfl) ?_ _
  clear hS
  go_upto_region 4 with fail
  refine wp_region_F (S := fun _ => True) 6 (by kernel_rfl) (trivial) (fun hS => ?_)
  refine wpAnyF_free (i := 0) (oi := { dst := some 22, op := Op.move (Operand.tmp 0), type := 186, pos := "text.go:99", after := #[], guard := none }) (v := .pointer (some ⟨b, 0, none⟩)) rfl (by kernel_rfl) (by kernel_rfl) (by kernel_rfl) (by kernel_rfl) (fun _ _ _ h => h) (Or.inl ⟨by kernel_rfl, fun W _ => (by first | kernel_rfl | go_simp)⟩) trivial ?_
  try simp only [Act.put, List.setIfInBounds_toArray, List.set_cons_zero, List.set_cons_succ]
  refine wpAnyF_free (i := 1) (oi := { dst := some 23, op := Op.nilCheck (Operand.tmp 22), type := 0, pos := "text.go:99", after := #[{ on := 0, ground := Ground.data }], guard := none }) (v := .pointer (some ⟨b, 0, none⟩)) rfl (by kernel_rfl) (by kernel_rfl) (by kernel_rfl) (by kernel_rfl) (fun _ _ _ h => h) (Or.inl ⟨by kernel_rfl, fun W _ => (by first | kernel_rfl | go_simp)⟩) trivial ?_
  try simp only [Act.put, List.setIfInBounds_toArray, List.set_cons_zero, List.set_cons_succ]
  refine wpAnyF_take (i := 2) (oi := { dst := some 24, op := Op.fieldAddr 150 (Operand.tmp 23) 0, type := 0, pos := "text.go:99", after := #[{ on := 1, ground := Ground.data }], guard := none }) (v := .pointer (some ⟨b, 0, none⟩)) rfl (by kernel_rfl) (by kernel_rfl) (by kernel_rfl) (by kernel_rfl) (fun _ _ _ h => h) (Or.inl ⟨by kernel_rfl, fun W h => (by first | kernel_rfl | go_simp)⟩) trivial ?_
  try simp only [Act.put, List.setIfInBounds_toArray, List.set_cons_zero, List.set_cons_succ]
  refine wpAnyF_free (i := 3) (oi := { dst := some 25, op := Op.move (Operand.tmp 1), type := 5, pos := "text.go:99", after := #[], guard := none }) (v := .int .u8 (n : Int)) rfl (by kernel_rfl) (by kernel_rfl) (by kernel_rfl) (by kernel_rfl) (fun _ _ _ h => h) (Or.inl ⟨by kernel_rfl, fun W _ => (by first | kernel_rfl | go_simp)⟩) trivial ?_
  try simp only [Act.put, List.setIfInBounds_toArray, List.set_cons_zero, List.set_cons_succ]
  refine wpAnyF_free (i := 4) (oi := { dst := some 26, op := Op.binOp BinOp.and 5 (Operand.tmp 25) (Operand.const (Value.int IntKind.u8 15)) 5, type := 5, pos := "text.go:99", after := #[{ on := 3, ground := Ground.data }], guard := none }) (v := .int .u8 ((n % 16 : Nat) : Int)) rfl (by kernel_rfl) (by kernel_rfl) (by kernel_rfl) (by kernel_rfl) (fun _ _ _ h => h) (Or.inl ⟨by kernel_rfl, fun W _ => andTT (.tmp 25) (by kernel_rfl) (by kernel_rfl) hc (by kernel_rfl) W⟩) trivial ?_
  try simp only [Act.put, List.setIfInBounds_toArray, List.set_cons_zero, List.set_cons_succ]
  refine wpAnyF_take (i := 5) (oi := { dst := some 27, op := Op.index 9 (Operand.const (Value.string { data := #[48, 49, 50, 51, 52, 53, 54, 55, 56, 57, 97, 98, 99, 100, 101, 102] })) (Operand.tmp 26), type := 5, pos := "text.go:99", after := #[{ on := 4, ground := Ground.data }], guard := none }) (v := .int .u8 ((Txt.hexc (n % 16)).toNat : Int)) rfl (by kernel_rfl) (by kernel_rfl) (by kernel_rfl) (by kernel_rfl) (fun _ _ _ h => h) (Or.inl ⟨by kernel_rfl, fun W h => ix_str (S := ⟨#[48, 49, 50, 51, 52, 53, 54, 55, 56, 57, 97, 98, 99, 100, 101, 102]⟩) (.const (.string ⟨#[48, 49, 50, 51, 52, 53, 54, 55, 56, 57, 97, 98, 99, 100, 101, 102]⟩)) (.tmp 26) (by kernel_rfl) (by kernel_rfl) (by kernel_rfl) (show n % 16 < 16 by omega) (hex_get (by omega)) W⟩) trivial ?_
  try simp only [Act.put, List.setIfInBounds_toArray, List.set_cons_zero, List.set_cons_succ]
  refine wpAnyF_last (o := { dst := some 28, op := Op.call { callee := Callee.value (Operand.func 51), args := #[Operand.tmp 24, Operand.tmp 27], argTypes := #[44, 5] }, type := 121, pos := "text.go:99", after := #[{ on := 2, ground := Ground.data }, { on := 5, ground := Ground.data }], guard := none }) (by kernel_rfl) rfl (by kernel_rfl) (by kernel_rfl) (fun K hK => ?_)
  go_simp
  refine (unhide W3 _ (show Wr B b (l ++ [92] ++ [Txt.hexc (n / 16)]) w2.drew from (unhide H2).below (Below.refl _ w2).drew) (Nat.le_trans (unhide SZ) (unhide B2).size)).mono ?_
  rintro e w3 ⟨rfl, h3, b3⟩
  have H3 := hide h3
  have B3 := hide (show Below B w w3 from (unhide B2).trans ((show Below B w2 w2.drew from (Below.refl _ w2).drew).trans b3))
  clear h3 b3 H2 B2 W3
  go_wp2_with fail
  refine hK.out _ _ ?_
  clear hK K
  try simp only [Act.put, List.setIfInBounds_toArray, List.set_cons_zero, List.set_cons_succ]
  refine wpAnyF_done (by kernel_rfl) ?_ _
  clear hS
  go_wp2_with fail
  go_end0
  exact ⟨rfl, by rw [unhide E1]; simpa using unhide H3, unhide B3⟩
theorem take_byte (s : ByteArray) {k : Nat} (hk : k < s.size) : s.toList.take (k + 1) = s.toList.take k ++ [s[k]] := by
  rw [ByteArray.toList_eq]
  have hk2 : k < s.data.toList.length := hk
  rw [List.take_add_one, List.getElem?_eq_getElem hk2]
  rfl
theorem len_bytes (s : ByteArray) : s.toList.length = s.size := by rw [ByteArray.toList_eq]; rfl
set_option maxHeartbeats 600000 in
set_option maxRecDepth 100000 in
theorem Show_any (s : ByteArray) (hs : s.size ≤ 1000000000) (w : World) :
    Calls Tryz.prog 83 #[.string s] w fun e w' => e = .returned (.string ⟨(Txt.shows s.toList).toArray⟩) ∧ Below w.heap.size w w' := by
  have H0 := hide (writeByte_any 61 (Wr.fresh w) (by simp) (by simp))
  go_enter Tryz.func83, Tryz.ntmps83
  go_wp2_with fail
  refine (unhide H0).mono ?_
  rintro e w1 ⟨rfl, h1, b1⟩
  have H1 := hide h1
  have B1 := hide (show Below w.heap.size w w1 from ((Below.refl _ w).alloc (Nat.le_refl _) _).trans b1)
  clear h1 b1 H0
  generalize hB : w.heap.size = B at H1 B1 ⊢
  have HB := hide hB
  clear hB
  go_wp2_with fail
  go_loopw [9] (fun i wr => ∃ k : Nat, k ≤ s.size ∧ i = .int .i64 k ∧ Hid (Wr B B (61 :: Txt.showR (s.toList.take k)) wr) ∧ Hid (Below B w wr)) (fun i _ => s.size - (intOf i).toNat)
  case atStart => exact ⟨0, Nat.zero_le _, rfl, H1, B1⟩
  case round =>
    clear H1 B1
    obtain ⟨k, hk, rfl, H1, B1⟩ := hrel
    by_cases hlt : k < s.size
    case pos =>
      have hz : (k : Int) < (s.size : Int) := by omega
      have LN := hide (Txt.showR_len (s.toList.take k))
      have D := hide (show_any (s[k]) (unhide H1) (by have := (unhide LN).2; rw [List.length_take, len_bytes] at this; rw [List.length_cons]; omega) (Nat.le_of_lt (unhide H1).lt))
      have E := hide (show 61 :: Txt.showR (s.toList.take (k + 1)) = 61 :: Txt.showR (s.toList.take k) ++ Txt.showB (s[k]) by rw [take_byte s hlt, Txt.showR_append, Txt.showR_one]; rfl)
      go_wp2_with fail
      refine (unhide D).mono ?_
      rintro e w2 ⟨rfl, h2, b2⟩
      have H2 := hide (show Wr B B (61 :: Txt.showR (s.toList.take (k + 1))) w2 by rw [unhide E]; exact h2)
      have B2 := hide (show Below B w w2 from (unhide B1).trans b2)
      clear h2 b2 D E LN
      go_wp2_with fail
      go_roundw
      case rel => exact ⟨k + 1, by omega, by go_num, H2, B2⟩
      case measure => simp [intOf]; omega
    case neg =>
      have E := hide (show s.toList.take k = s.toList from List.take_of_length_le (by rw [len_bytes]; omega))
      have D := hide (string_any (unhide H1) (Nat.le_of_lt (unhide H1).lt))
      go_wp2_with fail
      refine (unhide D).mono ?_
      rintro e w2 ⟨rfl, b2⟩
      have B2 := hide (show Below B w w2 from (unhide B1).trans b2)
      clear b2 D
      go_wp2_with fail
      go_ret
      exact ⟨by rw [unhide E]; rfl, by rw [unhide HB]; exact unhide B2⟩
theorem index_digs (c : UInt8) (w : World) : Calls Tryz.prog 189 #[.string ⟨#[48, 49, 50, 51, 52, 53, 54, 55, 56, 57, 97, 98, 99, 100, 101, 102]⟩, .int .u8 (c.toNat : Int)] w fun e w' => e = .returned (.int .i64 (Lib.indexByte Txt.digs c)) ∧ w' = w := by
  refine (index_any _ _ w).mono fun e w' ⟨he, hw⟩ => ⟨?_, hw⟩
  rw [he, Int.toNat_natCast, show c.toNat.toUInt8 = c from UInt8.ofNat_toNat]
  rfl
theorem bytes_one (s : ByteArray) (h : 0 < s.size) : s.toList = s[0] :: s.toList.drop 1 := by
  rw [ByteArray.toList_eq]
  have h2 : 0 < s.data.toList.length := h
  have := List.drop_eq_getElem_cons h2
  rw [List.drop_zero] at this
  exact this
theorem bytes_three (s : ByteArray) (h : 2 < s.size) : s.toList = s[0] :: s[1] :: s[2] :: s.toList.drop 3 := by
  rw [ByteArray.toList_eq]
  have h2 : 2 < s.data.toList.length := h
  have e0 := List.drop_eq_getElem_cons (show 0 < s.data.toList.length by omega)
  have e1 := List.drop_eq_getElem_cons (show 1 < s.data.toList.length by omega)
  have e2 := List.drop_eq_getElem_cons h2
  rw [List.drop_zero] at e0
  rw [e0, e1, e2]
  rfl
theorem hexT : ∀ a b : Fin 16, bits BinOp.or IntKind.i64 (wrap64 ((a.val : Int) * 16)) (b.val : Int) % 256 = ((UInt8.ofNat (a.val * 16 + b.val)).toNat : Int) := by decide +kernel
theorem hexTT {u g : UInt8} (hb : ¬ (Lib.indexByte Txt.digs u < 0 ∨ Lib.indexByte Txt.digs g < 0)) : bits BinOp.or IntKind.i64 (wrap64 (Lib.indexByte Txt.digs u * 16)) (Lib.indexByte Txt.digs g) % 256 = ((Txt.hexb u g).toNat : Int) := by
  obtain ⟨u1, _⟩ := Txt.index_dig (h := u) (fun z => hb (.inl z))
  obtain ⟨g1, _⟩ := Txt.index_dig (h := g) (fun z => hb (.inr z))
  have := hexT ⟨_, u1⟩ ⟨_, g1⟩
  simp only at this
  rw [Int.toNat_of_nonneg (by omega), Int.toNat_of_nonneg (by omega)] at this
  exact this
set_option maxHeartbeats 600000 in
set_option maxRecDepth 100000 in
theorem meant_any (s : ByteArray) (h1 : 0 < s.size) (w : World) :
    Calls Tryz.prog 142 #[.string s] w fun e w' => (∃ c n, Txt.meant1 s.toList = (c, n) ∧ e = .returned (.tuple #[.int .u8 (c.toNat : Int), .int .i64 (n : Int)])) ∧ Below w.heap.size w w' := by
  have z1 : (0 : Int) < (s.size : Int) := by omega
  have hp := plain_any (s[0]) w
  cases pc : Txt.plain (s[0]) <;> rw [pc] at hp
  case true =>
    have E := hide (show Txt.meant1 s.toList = (s[0], 1) by rw [bytes_one s h1]; exact Txt.m1_plain _ pc)
    clear pc
    go_enter Tryz.func142, Tryz.ntmps142
    go_wp2_with (go_at_call 158; refine hp.mono ?_; rintro e w0 ⟨rfl, e9⟩; rw [e9]; clear e9 w0 hp)
    go_ret2
    exact ⟨⟨_, _, unhide E, rfl⟩, Below.refl _ _⟩
  by_cases h92 : s[0] = 92
  case neg =>
    have E := hide (show Txt.meant1 s.toList = (0, 0) by rw [bytes_one s h1]; exact Txt.m1_other _ pc h92)
    have q1 : (((s[0]).toNat : Int) == 92) = false := by
      rw [Bool.eq_false_iff]; intro z; rw [beq_iff_eq] at z; exact h92 (UInt8.toNat_inj.1 (by show (s[0]).toNat = 92; omega))
    have n92 : ¬ (s[0]).toNat = 92 := fun z => h92 (UInt8.toNat_inj.1 z)
    clear pc h92
    go_enter Tryz.func142, Tryz.ntmps142
    go_wp2_with (go_at_call 158; refine hp.mono ?_; rintro e w0 ⟨rfl, e9⟩; rw [e9]; clear e9 w0 hp)
    go_ret2
    exact ⟨⟨0, 0, unhide E, rfl⟩, Below.refl _ _⟩
  have y92 : (s[0]).toNat = 92 := by rw [h92]; rfl
  have hp : Calls Tryz.prog 158 #[.int .u8 92] w fun e w' => e = .returned (.bool false) ∧ w' = w := plainI 92 w
  by_cases h3 : s.size < 3
  case pos =>
    have E := hide (show Txt.meant1 s.toList = (0, 0) by rw [bytes_one s h1]; exact Txt.m1_short pc (by rw [List.length_drop, len_bytes]; omega))
    have z3 : (s.size : Int) < 3 := by omega
    clear pc h92 h3
    go_enter Tryz.func142, Tryz.ntmps142
    go_wp2_with (go_at_call 158; refine hp.mono ?_; rintro e w0 ⟨rfl, e9⟩; rw [e9]; clear e9 w0 hp)
    go_ret2
    exact ⟨⟨0, 0, unhide E, rfl⟩, Below.refl _ _⟩
  have z3 : ¬ (s.size : Int) < 3 := by omega
  have y1 : (1 : Int) < (s.size : Int) := by omega
  have y2 : (2 : Int) < (s.size : Int) := by omega
  have NO := hide (show (Lib.indexByte Txt.digs (s[1]) < 0 ∨ Lib.indexByte Txt.digs (s[2]) < 0) → Txt.meant1 s.toList = (0, 0) from fun z => by rw [bytes_three s (by omega)]; exact Txt.m1_no _ pc h92 z)
  have TW := hide (show ¬ (Lib.indexByte Txt.digs (s[1]) < 0 ∨ Lib.indexByte Txt.digs (s[2]) < 0) → Txt.plain (Txt.hexb (s[1]) (s[2])) = true → Txt.meant1 s.toList = (0, 0) from fun z y => by rw [bytes_three s (by omega)]; exact Txt.m1_twice _ pc h92 z y)
  have HX := hide (show ¬ (Lib.indexByte Txt.digs (s[1]) < 0 ∨ Lib.indexByte Txt.digs (s[2]) < 0) → Txt.plain (Txt.hexb (s[1]) (s[2])) = false → Txt.meant1 s.toList = (Txt.hexb (s[1]) (s[2]), 3) from fun z y => by rw [bytes_three s (by omega)]; exact Txt.m1_hex _ pc h92 z y)
  have HT := hide (hexTT (u := s[1]) (g := s[2]))
  clear pc h92
  go_enter Tryz.func142, Tryz.ntmps142
  go_upto_region 5 with (go_at_call 158; refine hp.mono ?_; rintro e w0 ⟨rfl, e9⟩; rw [e9]; clear e9 w0 hp)
  go_cut [4, 5] from 20 to 25 (fun p q wx => p = .int .i64 (Lib.indexByte Txt.digs (s[1])) ∧ q = .int .i64 (Lib.indexByte Txt.digs (s[2])) ∧ Hid (Below w.heap.size w wx))
  case first =>
    go_quiet ((go_at_call 189; exact Calls.quiet_of_same (index_digs _ _)))
    go_wp2_with fail
    go_meet
    exact ⟨rfl, rfl, hide ⟨rfl, rfl, rfl, Nat.le_refl _, fun _ _ => rfl⟩⟩
  case rest =>
  obtain ⟨rfl, rfl, HB⟩ := hcut
  generalize Lib.indexByte Txt.digs (s[1]) = i1 at NO TW HX HT ⊢
  generalize Lib.indexByte Txt.digs (s[2]) = i2 at NO TW HX HT ⊢
  generalize Txt.hexb (s[1]) (s[2]) = hb at TW HX HT
  by_cases q1 : i1 < 0
  case pos =>
    have d1 : decide (i1 < 0) = true := by simpa using q1
    have E := hide (unhide NO (.inl q1))
    clear q1
    go_wp2_with fail
    go_ret2
    exact ⟨⟨0, 0, unhide E, rfl⟩, unhide HB⟩
  have d1 : decide (i1 < 0) = false := by simpa using q1
  by_cases q2 : i2 < 0
  case pos =>
    have d2 : decide (i2 < 0) = true := by simpa using q2
    have E := hide (unhide NO (.inr q2))
    clear q1 q2
    go_wp2_with fail
    go_ret2
    exact ⟨⟨0, 0, unhide E, rfl⟩, unhide HB⟩
  have d2 : decide (i2 < 0) = false := by simpa using q2
  have qn : ¬ (i1 < 0 ∨ i2 < 0) := by omega
  have ht := unhide HT qn
  have hp2 := hide fun W => plain_any hb W
  cases pb : Txt.plain hb
  case true =>
    have E := hide (unhide TW qn pb)
    rw [pb] at hp2
    clear q1 q2 qn pb TW HX HT NO
    go_wp2_with (go_at_call 158; rw [ht]; refine (unhide hp2 _).mono ?_; rintro e w0 ⟨rfl, e9⟩; rw [e9]; clear e9 w0 hp2)
    go_ret2
    exact ⟨⟨0, 0, unhide E, rfl⟩, unhide HB⟩
  have E := hide (unhide HX qn pb)
  rw [pb] at hp2
  clear q1 q2 qn pb TW HX HT NO
  go_wp2_with (go_at_call 158; rw [ht]; refine (unhide hp2 _).mono ?_; rintro e w0 ⟨rfl, e9⟩; rw [e9]; clear e9 w0 hp2)
  go_ret2
  exact ⟨⟨hb, 3, unhide E, rfl⟩, unhide HB⟩
theorem drop_bytes (s : ByteArray) (n : Nat) : (s.extract n s.size).toList = s.toList.drop n := by
  rw [ByteArray.toList_eq, ByteArray.toList_eq, ByteArray.data_extract, Array.toList_extract]
  show (s.data.toList.drop n).take (s.size - n) = _
  rw [List.take_of_length_le (by rw [List.length_drop]; exact Nat.le_refl _)]
def strOf : Value → ByteArray
  | .string s => s
  | _ => .empty
/-- Mean's answer -/
def MeanIs (s : ByteArray) (e : Ending) : Prop :=
  (∃ l, s.toList = Txt.shows l ∧ e = .returned (.tuple #[.string ⟨l.toArray⟩, .bool true])) ∨ ((∀ l, s.toList ≠ Txt.shows l) ∧ e = .returned (.tuple #[.string ⟨#[]⟩, .bool false]))
set_option maxHeartbeats 600000 in
set_option maxRecDepth 100000 in
theorem Mean_any (s : ByteArray) (hs : s.size ≤ 1000000000) (w : World) :
    Calls Tryz.prog 106 #[.string s] w fun e w' => MeanIs s e ∧ Below w.heap.size w w' := by
  by_cases h0 : s.size = 0
  case pos =>
    have e0 : s.toList.isEmpty = true := by rw [List.isEmpty_iff]; exact List.eq_nil_of_length_eq_zero (by rw [len_bytes]; exact h0)
    have F := hide (show MeanIs s (.returned (.tuple #[.string ⟨#[]⟩, .bool false])) from .inr ⟨fun l e => by have := congrArg List.length e; rw [len_bytes, h0] at this; simp [Txt.shows] at this, rfl⟩)
    clear h0
    go_enter Tryz.func106, Tryz.ntmps106
    go_wp2_with fail
    go_ret2
    exact ⟨unhide F, Below.refl _ _⟩
  have h1 : 0 < s.size := by omega
  have e0 : s.toList.isEmpty = false := by
    rw [bytes_one s h1]; rfl
  have z1 : (0 : Int) < (s.size : Int) := by omega
  by_cases h61 : s[0] = 61
  case neg =>
    have F := hide (show MeanIs s (.returned (.tuple #[.string ⟨#[]⟩, .bool false])) from .inr ⟨fun l e => by rw [bytes_one s h1] at e; exact h61 (List.cons.inj e).1, rfl⟩)
    have n61 : ¬ (s[0]).toNat = 61 := fun z => h61 (UInt8.toNat_inj.1 z)
    clear h0 h61
    go_enter Tryz.func106, Tryz.ntmps106
    go_wp2_with fail
    go_ret2
    exact ⟨unhide F, Below.refl _ _⟩
  have y61 : (s[0]).toNat = 61 := by rw [h61]; rfl
  have hsz : (1 : Int) ≤ (s.size : Int) := by omega
  have ES := hide (show s.toList = 61 :: (s.extract 1 s.size).toList by rw [drop_bytes]; rw [← h61]; exact bytes_one s h1)
  have ER := hide (show (s.extract 1 s.size).size ≤ s.size by rw [← len_bytes, drop_bytes, List.length_drop, len_bytes]; omega)
  clear h61 h0
  have FR := hide (Wr.fresh w)
  have BF := hide (show Below w.heap.size w (w.alloc (.cells #[.pointer none, .slice none 0 0] 150)) from (Below.refl _ w).alloc (Nat.le_refl _) _)
  go_enter Tryz.func106, Tryz.ntmps106
  go_wp2_with fail
  generalize w.alloc (.cells #[.pointer none, .slice none 0 0] 150) = w1 at FR BF ⊢
  generalize hB : w.heap.size = B at FR BF ⊢
  have HB := hide hB
  clear hB
  go_loopw [5] (fun r wr => ∃ (acc : List UInt8) (rest : ByteArray), r = .string rest ∧ s.toList = 61 :: (Txt.showR acc ++ rest.toList) ∧ rest.size ≤ s.size ∧ Hid (Wr B B acc wr) ∧ Hid (Below B w wr)) (fun r _ => (strOf r).size)
  case atStart => exact ⟨[], _, rfl, unhide ES, unhide ER, FR, BF⟩
  case round =>
    clear FR BF ES ER
    obtain ⟨acc, rest, rfl, hst, hrs, H1, B1⟩ := hrel
    have ST := hide hst
    clear hst
    by_cases hr0 : rest.size = 0
    case pos =>
      have er : rest.toList.isEmpty = true := by rw [List.isEmpty_iff]; exact List.eq_nil_of_length_eq_zero (by rw [len_bytes]; exact hr0)
      have D := hide (string_any (unhide H1) (Nat.le_of_lt (unhide H1).lt))
      have F := hide (show MeanIs s (.returned (.tuple #[.string ⟨acc.toArray⟩, .bool true])) from .inl ⟨acc, by rw [unhide ST, List.isEmpty_iff.1 er, List.append_nil]; rfl, rfl⟩)
      clear hr0
      go_wp2_with fail
      refine (unhide D).mono ?_
      rintro e w2 ⟨rfl, b2⟩
      have B2 := hide (show Below B w w2 from (unhide B1).trans b2)
      clear b2 D
      go_wp2_with fail
      go_ret2
      exact ⟨unhide F, by rw [unhide HB]; exact unhide B2⟩
    case neg =>
      have hr1 : 0 < rest.size := by omega
      have er : rest.toList.isEmpty = false := by rw [bytes_one rest hr1]; rfl
      have M := hide (meant_any rest hr1 wr)
      go_wp2_with fail
      refine (unhide M).mono ?_
      rintro e w2 ⟨⟨c, n, hm, rfl⟩, b2⟩
      have H2 := hide ((unhide H1).below b2)
      have B2 := hide (show Below B w w2 from (unhide B1).trans (b2.mono (Nat.le_of_lt (unhide H1).lt)))
      have HM := hide hm
      clear b2 M hm H1 B1
      by_cases hn : n = 0
      case pos =>
        subst hn
        have F := hide (show MeanIs s (.returned (.tuple #[.string ⟨#[]⟩, .bool false])) from .inr ⟨fun l e => by
          rw [unhide ST] at e
          exact Txt.stuck (acc := acc) (fun z => by rw [z] at er; cases er) (Txt.meant1_none (by rw [unhide HM])) l e, rfl⟩)
        go_wp2_with fail
        go_ret2
        exact ⟨unhide F, by rw [unhide HB]; exact unhide B2⟩
      case neg =>
        have MS := hide (Txt.meant1_some (l := rest.toList) (by rw [unhide HM]; exact hn))
        rw [unhide HM] at MS
        have LA := hide (show acc.length ≤ s.size by
          have h1 := congrArg List.length (unhide ST)
          have h2 := (Txt.showR_len acc).1
          rw [List.length_cons, List.length_append, len_bytes] at h1
          omega)
        have hnr : n ≤ rest.size := by have := (unhide MS).1; rw [len_bytes] at this; exact this
        have hnz : (n : Int) ≤ (rest.size : Int) := by omega
        have D := hide (writeByte_any c (unhide H2) (by have := unhide LA; omega) (Nat.le_of_lt (unhide H2).lt))
        have q0 : (n == 0) = false := by simpa using hn
        go_wp2_with fail
        refine (unhide D).mono ?_
        rintro e w3 ⟨rfl, h3, b3⟩
        have H3 := hide h3
        have B3 := hide (show Below B w w3 from (unhide B2).trans b3)
        clear h3 b3 D
        have EX := hide (show (rest.extract n rest.size).toList = rest.toList.drop n from drop_bytes rest n)
        go_wp2_with fail
        go_roundw
        case rel => exact ⟨acc ++ [c], _, rfl, by rw [unhide EX, unhide ST, Txt.showR_append, Txt.showR_one, List.append_assoc, ← (unhide MS).2.2], by rw [← len_bytes, unhide EX, List.length_drop, len_bytes]; omega, H3, B3⟩
        case measure => show (rest.extract n rest.size).size < rest.size; rw [← len_bytes, unhide EX, List.length_drop, len_bytes]; omega
end Go.Proofs.YtfpfpnhpbnnmfadGreatDoor
